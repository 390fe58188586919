import Derived.Test.YtfnkgldfgciplaaDoorNegoMade
import Derived.Test.YtfnkgldfgciplaaDoorGMath
/-
  The contract of the law package's own 'awake' (stage 9), over what is asked of the program.
-/
namespace Go.Proofs.YtfnkgldfgciplaaDoor
open Go.RowKit
set_option linter.unusedVariables false

theorem OfN.at (k : OfN) {b l : Int} {h : Hl} {V : Value} (hh : ofH b l = h) (hV : hlV h = V) (hb : (Lit.int .i64 b).wf = true) (hl : (Lit.int .i64 l).wf = true) (w : World) (hk : Knw w) :
    Calls Tryd.prog 14 #[.int .i64 b, .int .i64 l] w fun e w' => e = .returned V ∧ Below w.heap.size w w' := by
  have := k b l hb hl w hk
  rw [hh, hV] at this
  exact this
theorem AgreeN.at (k : AgreeN) {a b : Hl} {A B : Value} {v f n : Nat} (hA : hlV a = A) (hB : hlV b = B) (hg : agH a b = (v, f, n)) (ha : WfH a) (hb : WfH b) (w : World) :
    Calls Tryd.prog 10 #[A, B] w fun e w' => e = .returned (.tuple #[.agg #[.int .i64 v, .int .i64 f], .int .i64 n]) ∧ Below w.heap.size w w' := by
  have := k a b ha hb w
  rw [hg, hA, hB] at this
  exact this
theorem RightN.at (k : RightN) {a : Hl} {A : Value} {b : Bool} (hA : hlV a = A) (hr : rightH a = b) (ha : WfH a) (w : World) :
    Calls Tryd.prog 12 #[A] w fun e w' => e = .returned (.bool b) ∧ Below w.heap.size w w' := by
  have := k a ha w
  rw [hr, hA] at this
  exact this

set_option maxRecDepth 100000 in
set_option maxHeartbeats 4000000 in
theorem awake9_any (hR : RightN) (hO : OfN) (hA : AgreeN) (w : World) (hk : Knw w) :
    Calls Tryd.prog 8 #[] w fun e w' => e = .returned (.bool true) ∧ Below w.heap.size w w' := by
  have o11 := fun W (hw : Knw W) => hO.at (V := .agg #[.int .i64 1, .int .i64 1, .int .i64 7]) (of11 1) rfl (by decide) (by decide) W hw
  have o12 := fun W (hw : Knw W) => hO.at (V := .agg #[.int .i64 1, .int .i64 1, .int .i64 7]) (of11 2) rfl (by decide) (by decide) W hw
  have o21 := fun W (hw : Knw W) => hO.at (V := .agg #[.int .i64 1, .int .i64 2, .int .i64 1048575]) of21 rfl (by decide) (by decide) W hw
  have o22 := fun W (hw : Knw W) => hO.at (V := .agg #[.int .i64 2, .int .i64 2, .int .i64 1048575]) of22 rfl (by decide) (by decide) W hw
  have o31 := fun W (hw : Knw W) => hO.at (V := .agg #[.int .i64 0, .int .i64 0, .int .i64 0]) of31 rfl (by decide) (by decide) W hw
  have g1 := fun W => hA.at (A := .agg #[.int .i64 1, .int .i64 1, .int .i64 7]) (B := .agg #[.int .i64 1, .int .i64 2, .int .i64 1048575]) rfl rfl agEx1 ⟨by decide, by decide, by decide⟩ ⟨by decide, by decide, by decide⟩ W
  have g2 := fun W => hA.at (A := .agg #[.int .i64 1, .int .i64 1, .int .i64 7]) (B := .agg #[.int .i64 2, .int .i64 2, .int .i64 1048575]) rfl rfl agEx2 ⟨by decide, by decide, by decide⟩ ⟨by decide, by decide, by decide⟩ W
  have g3 := fun W => hA.at (A := .agg #[.int .i64 1, .int .i64 2, .int .i64 1048575]) (B := .agg #[.int .i64 2, .int .i64 2, .int .i64 1048575]) rfl rfl agEx3 ⟨by decide, by decide, by decide⟩ ⟨by decide, by decide, by decide⟩ W
  have g4 := fun W => hA.at (A := .agg #[.int .i64 0, .int .i64 0, .int .i64 0]) (B := .agg #[.int .i64 2, .int .i64 2, .int .i64 1048575]) rfl rfl agEx4 ⟨by decide, by decide, by decide⟩ ⟨by decide, by decide, by decide⟩ W
  have r1 := fun W => hR.at (A := .agg #[.int .i64 1, .int .i64 1, .int .i64 7]) rfl rEx1 ⟨by decide, by decide, by decide⟩ W
  have r0 := fun W => hR.at (A := .agg #[.int .i64 0, .int .i64 0, .int .i64 0]) rfl rEx0 ⟨by decide, by decide, by decide⟩ W
  have eq1 := fun W => eqDl 1 7 1 7 W
  have eq2 := fun W => eqDl 2 1048575 2 1048575 W
  have hgu := guardDl
  clear hR hO hA
  go_enter Tryd.func8, Tryd.ntmps8
  go_wp2_with fail
  ((with_reducible refine (o11 _ hk).mono ?_); rintro e W1 ⟨rfl, b1⟩)
  have H1 := Lib.hid b1
  clear b1
  go_wp2_with fail
  ((with_reducible refine (o21 _ (hk.below H1.out)).mono ?_); rintro e W2 ⟨rfl, b2⟩)
  have H2 := Lib.hid (bch H1.out b2)
  clear b2
  go_wp2_with fail
  ((with_reducible refine (g1 _).mono ?_); rintro e W3 ⟨rfl, b3⟩)
  have H3 := Lib.hid (bch H2.out b3)
  clear b3
  go_upto_region 2 with fail
  have hb := H3.out.alloc H3.out.size (.cells #[.int .i64 1, .int .i64 7] 30)
  have hd := DlBlk.new W3 1 7
  obtain ⟨V3, hV3⟩ : ∃ W, W3.alloc (.cells #[.int .i64 1, .int .i64 7] 30) = W := ⟨_, rfl⟩
  rw [hV3] at hb hd ⊢
  clear hV3
  have HV3 := Lib.hid hb; clear hb
  have F3 := Lib.hid hd; clear hd
  go_wp2_with fail
  ((with_reducible refine (o11 _ (hk.below HV3.out)).mono ?_); rintro e W4 ⟨rfl, b4⟩)
  have H4 := Lib.hid (bch HV3.out b4)
  have D4_0 := Lib.hid (F3.out.below b4)
  clear b4
  go_wp2_with fail
  ((with_reducible refine (o22 _ (hk.below H4.out)).mono ?_); rintro e W5 ⟨rfl, b5⟩)
  have H5 := Lib.hid (bch H4.out b5)
  have D5_0 := Lib.hid (D4_0.out.below b5)
  clear b5
  go_wp2_with fail
  ((with_reducible refine (g2 _).mono ?_); rintro e W6 ⟨rfl, b6⟩)
  have H6 := Lib.hid (bch H5.out b6)
  have D6_0 := Lib.hid (D5_0.out.below b6)
  clear b6
  go_upto_region 3 with fail
  have hb := H6.out.alloc H6.out.size (.cells #[.int .i64 0, .int .i64 0] 30)
  have hd := DlBlk.new W6 0 0
  have hd0 := D6_0.out.below ((Below.refl _ _).alloc (Nat.le_refl _) (.cells #[.int .i64 0, .int .i64 0] 30))
  obtain ⟨V6, hV6⟩ : ∃ W, W6.alloc (.cells #[.int .i64 0, .int .i64 0] 30) = W := ⟨_, rfl⟩
  rw [hV6] at hb hd hd0 ⊢
  clear hV6
  have HV6 := Lib.hid hb; clear hb
  have E6_0 := Lib.hid hd0; clear hd0
  have F6 := Lib.hid hd; clear hd
  go_wp2_with fail
  ((with_reducible refine (o21 _ (hk.below HV6.out)).mono ?_); rintro e W7 ⟨rfl, b7⟩)
  have H7 := Lib.hid (bch HV6.out b7)
  have D7_0 := Lib.hid (E6_0.out.below b7)
  clear b7
  go_wp2_with fail
  ((with_reducible refine (o22 _ (hk.below H7.out)).mono ?_); rintro e W8 ⟨rfl, b8⟩)
  have H8 := Lib.hid (bch H7.out b8)
  have D8_0 := Lib.hid (D7_0.out.below b8)
  clear b8
  go_wp2_with fail
  ((with_reducible refine (g3 _).mono ?_); rintro e W9 ⟨rfl, b9⟩)
  have H9 := Lib.hid (bch H8.out b9)
  have D9_0 := Lib.hid (D8_0.out.below b9)
  clear b9
  go_upto_region 4 with fail
  have hb := H9.out.alloc H9.out.size (.cells #[.int .i64 2, .int .i64 1048575] 30)
  have hd := DlBlk.new W9 2 1048575
  have hd0 := D9_0.out.below ((Below.refl _ _).alloc (Nat.le_refl _) (.cells #[.int .i64 2, .int .i64 1048575] 30))
  obtain ⟨V9, hV9⟩ : ∃ W, W9.alloc (.cells #[.int .i64 2, .int .i64 1048575] 30) = W := ⟨_, rfl⟩
  rw [hV9] at hb hd hd0 ⊢
  clear hV9
  have HV9 := Lib.hid hb; clear hb
  have E9_0 := Lib.hid hd0; clear hd0
  have F9 := Lib.hid hd; clear hd
  go_wp2_with fail
  ((with_reducible refine (o22 _ (hk.below HV9.out)).mono ?_); rintro e W10 ⟨rfl, b10⟩)
  have H10 := Lib.hid (bch HV9.out b10)
  have D10_0 := Lib.hid (E9_0.out.below b10)
  have D10_1 := Lib.hid (F9.out.below b10)
  clear b10
  go_wp2_with fail
  ((with_reducible refine (g4 _).mono ?_); rintro e W11 ⟨rfl, b11⟩)
  have H11 := Lib.hid (bch H10.out b11)
  have D11_0 := Lib.hid (D10_0.out.below b11)
  have D11_1 := Lib.hid (D10_1.out.below b11)
  clear b11
  go_upto_region 5 with fail
  have hb := H11.out.alloc H11.out.size (.cells #[.int .i64 0, .int .i64 0] 30)
  have hd := DlBlk.new W11 0 0
  have hd0 := D11_0.out.below ((Below.refl _ _).alloc (Nat.le_refl _) (.cells #[.int .i64 0, .int .i64 0] 30))
  have hd1 := D11_1.out.below ((Below.refl _ _).alloc (Nat.le_refl _) (.cells #[.int .i64 0, .int .i64 0] 30))
  obtain ⟨V11, hV11⟩ : ∃ W, W11.alloc (.cells #[.int .i64 0, .int .i64 0] 30) = W := ⟨_, rfl⟩
  rw [hV11] at hb hd hd0 hd1 ⊢
  clear hV11
  have HV11 := Lib.hid hb; clear hb
  have E11_0 := Lib.hid hd0; clear hd0
  have E11_1 := Lib.hid hd1; clear hd1
  have F11 := Lib.hid hd; clear hd
  obtain ⟨c00, c01⟩ := E11_0.out.cells
  obtain ⟨c10, c11⟩ := E11_1.out.cells
  go_wp2_with fail
  ((with_reducible refine (o12 _ (hk.below HV11.out)).mono ?_); rintro e W12 ⟨rfl, b12⟩)
  have H12 := Lib.hid (bch HV11.out b12)
  have D12_0 := Lib.hid (E11_0.out.below b12)
  have D12_1 := Lib.hid (E11_1.out.below b12)
  clear b12
  clear c00 c01 c10 c11
  go_wp2_with fail
  ((with_reducible refine (r1 _).mono ?_); rintro e W13 ⟨rfl, b13⟩)
  have H13 := Lib.hid (bch H12.out b13)
  have D13_0 := Lib.hid (D12_0.out.below b13)
  have D13_1 := Lib.hid (D12_1.out.below b13)
  clear b13
  go_wp2_with fail
  ((with_reducible refine (o31 _ (hk.below H13.out)).mono ?_); rintro e W14 ⟨rfl, b14⟩)
  have H14 := Lib.hid (bch H13.out b14)
  have D14_0 := Lib.hid (D13_0.out.below b14)
  have D14_1 := Lib.hid (D13_1.out.below b14)
  clear b14
  go_wp2_with fail
  ((with_reducible refine (r0 _).mono ?_); rintro e W15 ⟨rfl, b15⟩)
  have H15 := Lib.hid (bch H14.out b15)
  have D15_0 := Lib.hid (D14_0.out.below b15)
  have D15_1 := Lib.hid (D14_1.out.below b15)
  clear b15
  go_wp2_with fail
  go_ret
  exact ⟨rfl, H15.out⟩
end Go.Proofs.YtfnkgldfgciplaaDoor
