import Derived.Test.YtjdpihppniibjaaWire
import Derived.Test.YtjdpihppniibjaaGMath
import Derived.Deep.DeepCutAuto
/-
  The contract of the law package's own 'awake' (stage 8), over what is asked of the program.
-/
namespace Go.Proofs.Ytjdpihppniibjaa
open Go.RowKit
set_option linter.unusedVariables false

theorem EncW.at (h : EncW) {v : Int} {m : Mg} {l : List UInt8} {S : ByteArray} {n : Nat} {V : Value} (hV : mgV m = V) (he : wE v m = (l, n)) (hS : bs l = S) (hb : m.body.size ≤ 140737488355328) (hv : (Lit.int .i64 v).wf = true) (hm : WfM m) (w : World) :
    Calls Try.prog 11 #[.int .i64 v, V] w fun e w' => e = .returned (.tuple #[.string S, .int .i64 n]) ∧ Below w.heap.size w w' := by
  have := h v m hv hm hb w
  rw [he, hV] at this
  simp only [hS] at this
  exact this
theorem DecW.at (h : DecW) {s : ByteArray} {l : List UInt8} {v n : Nat} {m : Mg} {V : Value} (hl : s.data.toList = l) (hd : wD l = (v, m, n)) (hV : mgV m = V) (hs : s.size ≤ 140737488365000) (w : World) :
    Calls Try.prog 15 #[.string s] w fun e w' => e = .returned (.tuple #[.int .i64 v, V, .int .i64 n]) ∧ Below w.heap.size w w' := by
  have := h s hs w
  rw [hl, hd] at this
  simp only [hV] at this
  exact this
theorem RightW.at (h : RightW) {v : Int} {m : Mg} {V : Value} {b : Bool} (hV : mgV m = V) (hr : rightM v m = b) (hb : m.body.size ≤ 140737488355328) (hv : (Lit.int .i64 v).wf = true) (hm : WfM m) (w : World) :
    Calls Try.prog 13 #[.int .i64 v, V] w fun e w' => e = .returned (.bool b) ∧ Below w.heap.size w w' := by
  have := h v m hv hm hb w
  rw [hr, hV] at this
  exact this
theorem eqEx (w : World) : (Op.equalIn 10000 23 (.agg #[.int .i64 1, .int .i64 2, .int .i64 3, .int .i64 0, .string ⟨#[120]⟩, .int .i64 0]) (.agg #[.int .i64 1, .int .i64 2, .int .i64 3, .int .i64 0, .string ⟨#[120]⟩, .int .i64 0])).run Try.prog w = .ok true w := by
  have := eqMg exM exM w
  rw [eqM_self] at this
  exact this

set_option maxRecDepth 100000 in
set_option maxHeartbeats 4000000 in
theorem awake8_any (hR : RightW) (hE : EncW) (hD : DecW) (w : World) :
    Calls Try.prog 8 #[] w fun e w' => e = .returned (.bool true) ∧ Below w.heap.size w w' := by
  have q1 := fun W => hE.at (v := 1) (V := .agg #[.int .i64 1, .int .i64 2, .int .i64 3, .int .i64 0, .string ⟨#[120]⟩, .int .i64 0]) (S := ⟨#[1, 1, 1, 1, 2, 1, 2, 3, 1, 3, 5, 1, 120]⟩) (m := exM) rfl (exM_enc (.inl rfl)) rfl (by decide) (by decide) ⟨by decide, by decide, by decide, by decide, by decide⟩ W
  have q2 := fun W => hD.at (s := ⟨#[2, 1, 1, 1, 2, 1, 2, 3, 1, 3, 5, 1, 120]⟩) (V := .agg #[.int .i64 1, .int .i64 2, .int .i64 3, .int .i64 0, .string ⟨#[120]⟩, .int .i64 0]) (m := exM) rfl exM_dec rfl (by decide) W
  have q3 := fun W => hE.at (v := 1) (V := .agg #[.int .i64 10, .int .i64 0, .int .i64 0, .int .i64 0, .string ⟨#[]⟩, .int .i64 0]) (S := ⟨#[]⟩) rfl exNo1 rfl (by decide) (by decide) ⟨by decide, by decide, by decide, by decide, by decide⟩ W
  have q4 := fun W => hE.at (v := 2) (V := .agg #[.int .i64 21, .int .i64 0, .int .i64 0, .int .i64 0, .string ⟨#[]⟩, .int .i64 0]) (S := ⟨#[]⟩) rfl exNo2 rfl (by decide) (by decide) ⟨by decide, by decide, by decide, by decide, by decide⟩ W
  have q5 := fun W => hD.at (s := ⟨#[3]⟩) (V := .agg #[.int .i64 0, .int .i64 0, .int .i64 0, .int .i64 0, .string ⟨#[]⟩, .int .i64 0]) rfl exDec3 rfl (by decide) W
  have q6 := fun W => hD.at (s := ⟨#[1, 1, 1, 1, 6, 1, 1]⟩) (V := .agg #[.int .i64 0, .int .i64 0, .int .i64 0, .int .i64 0, .string ⟨#[]⟩, .int .i64 0]) rfl exDecK rfl (by decide) W
  have q7 := fun W => hR.at (v := 2) (V := .agg #[.int .i64 20, .int .i64 0, .int .i64 0, .int .i64 0, .string ⟨#[]⟩, .int .i64 1]) rfl exR20 (by decide) (by decide) ⟨by decide, by decide, by decide, by decide, by decide⟩ W
  have q8 := fun W => hR.at (v := 1) (V := .agg #[.int .i64 1, .int .i64 0, .int .i64 0, .int .i64 0, .string ⟨#[]⟩, .int .i64 1]) rfl exR1 (by decide) (by decide) ⟨by decide, by decide, by decide, by decide, by decide⟩ W
  have eq1 := eqEx
  have hgu := guardMg
  have hcat : (⟨#[2]⟩ : ByteArray) ++ (⟨#[1, 1, 1, 1, 2, 1, 2, 3, 1, 3, 5, 1, 120]⟩ : ByteArray).extract 1 13 = ⟨#[2, 1, 1, 1, 2, 1, 2, 3, 1, 3, 5, 1, 120]⟩ := by decide
  clear hR hE hD
  have hb0 : Below w.heap.size w (w.alloc (.cells #[.int .i64 1, .int .i64 2, .int .i64 3, .int .i64 0, .string ⟨#[120]⟩, .int .i64 0] 23)) := (Below.refl _ _).alloc (Nat.le_refl _) _
  have hm0 : MgBlk (w.alloc (.cells #[.int .i64 1, .int .i64 2, .int .i64 3, .int .i64 0, .string ⟨#[120]⟩, .int .i64 0] 23)) w.heap.size exM := MgBlk.new w exM
  go_enter Try.func8, Try.ntmps8
  go_upto_region 2 with fail
  obtain ⟨V0, hV0⟩ : ∃ W, w.alloc (.cells #[.int .i64 1, .int .i64 2, .int .i64 3, .int .i64 0, .string ⟨#[120]⟩, .int .i64 0] 23) = W := ⟨_, rfl⟩
  rw [hV0] at hb0 hm0 ⊢
  clear hV0
  have HB0 := Lib.hid hb0; clear hb0
  have HM0 := Lib.hid hm0; clear hm0
  obtain ⟨c0, c1, c2, c3, c4, c5⟩ := HM0.out.cells
  simp only [exM] at c0 c1 c2 c3 c4 c5
  go_wp2_with fail
  ((with_reducible refine (q1 _).mono ?_); rintro e W1 ⟨rfl, b1⟩)
  have HB1 := Lib.hid (bch HB0.out b1)
  have HM1 := Lib.hid (HM0.out.below b1)
  clear c0 c1 c2 c3 c4 c5 b1
  go_wp2_with fail
  ((with_reducible refine (q2 _).mono ?_); rintro e W2 ⟨rfl, b2⟩)
  go_upto_region 4 with fail
  have hb2 := (bch HB1.out b2).alloc (bch HB1.out b2).size (.cells #[.int .i64 1, .int .i64 2, .int .i64 3, .int .i64 0, .string ⟨#[120]⟩, .int .i64 0] 23)
  have hm2 : MgBlk (W2.alloc (.cells #[.int .i64 1, .int .i64 2, .int .i64 3, .int .i64 0, .string ⟨#[120]⟩, .int .i64 0] 23)) W2.heap.size exM := MgBlk.new W2 exM
  have hm1 := (HM1.out.below b2).below ((Below.refl _ _).alloc (Nat.le_refl _) (.cells #[.int .i64 1, .int .i64 2, .int .i64 3, .int .i64 0, .string ⟨#[120]⟩, .int .i64 0] 23))
  obtain ⟨V2, hV2⟩ : ∃ W, W2.alloc (.cells #[.int .i64 1, .int .i64 2, .int .i64 3, .int .i64 0, .string ⟨#[120]⟩, .int .i64 0] 23) = W := ⟨_, rfl⟩
  rw [hV2] at hb2 hm2 hm1 ⊢
  clear hV2 b2
  have HB2 := Lib.hid hb2; clear hb2
  have HM2 := Lib.hid hm2; clear hm2
  have HM1' := Lib.hid hm1; clear hm1
  go_wp2_with fail
  ((with_reducible refine (q3 _).mono ?_); rintro e W3 ⟨rfl, b3⟩)
  go_wp2_with fail
  ((with_reducible refine (q4 _).mono ?_); rintro e W4 ⟨rfl, b4⟩)
  go_wp2_with fail
  ((with_reducible refine (q5 _).mono ?_); rintro e W5 ⟨rfl, b5⟩)
  go_upto_region 7 with fail
  have hb5 := (bch (bch (bch HB2.out b3) b4) b5)
  have hm5 := ((HM2.out.below b3).below b4).below b5
  have hm4 := ((HM1'.out.below b3).below b4).below b5
  have hb6 := hb5.alloc hb5.size (.cells #[.int .i64 0, .int .i64 0, .int .i64 0, .int .i64 0, .string ⟨#[]⟩, .int .i64 0] 23)
  have hm6 := hm5.below ((Below.refl _ _).alloc (Nat.le_refl _) (.cells #[.int .i64 0, .int .i64 0, .int .i64 0, .int .i64 0, .string ⟨#[]⟩, .int .i64 0] 23))
  have hm7 := hm4.below ((Below.refl _ _).alloc (Nat.le_refl _) (.cells #[.int .i64 0, .int .i64 0, .int .i64 0, .int .i64 0, .string ⟨#[]⟩, .int .i64 0] 23))
  clear hb5 hm5 hm4 b3 b4 b5
  obtain ⟨V5, hV5⟩ : ∃ W, W5.alloc (.cells #[.int .i64 0, .int .i64 0, .int .i64 0, .int .i64 0, .string ⟨#[]⟩, .int .i64 0] 23) = W := ⟨_, rfl⟩
  rw [hV5] at hb6 hm6 hm7 ⊢
  clear hV5
  have HB6 := Lib.hid hb6; clear hb6
  have HM6 := Lib.hid hm6; clear hm6
  have HM7 := Lib.hid hm7; clear hm7
  go_wp2_with fail
  ((with_reducible refine (q6 _).mono ?_); rintro e W6 ⟨rfl, b6⟩)
  go_upto_region 8 with fail
  have hb8 := (bch HB6.out b6).alloc (bch HB6.out b6).size (.cells #[.int .i64 0, .int .i64 0, .int .i64 0, .int .i64 0, .string ⟨#[]⟩, .int .i64 0] 23)
  have hm8 := (HM6.out.below b6).below ((Below.refl _ _).alloc (Nat.le_refl _) (.cells #[.int .i64 0, .int .i64 0, .int .i64 0, .int .i64 0, .string ⟨#[]⟩, .int .i64 0] 23))
  have hm9 := (HM7.out.below b6).below ((Below.refl _ _).alloc (Nat.le_refl _) (.cells #[.int .i64 0, .int .i64 0, .int .i64 0, .int .i64 0, .string ⟨#[]⟩, .int .i64 0] 23))
  clear b6
  obtain ⟨V6, hV6⟩ : ∃ W, W6.alloc (.cells #[.int .i64 0, .int .i64 0, .int .i64 0, .int .i64 0, .string ⟨#[]⟩, .int .i64 0] 23) = W := ⟨_, rfl⟩
  rw [hV6] at hb8 hm8 hm9 ⊢
  clear hV6
  obtain ⟨c0, c1, c2, c3, c4, c5⟩ := hm8.cells
  obtain ⟨d0, d1, d2, d3, d4, d5⟩ := hm9.cells
  simp only [exM] at c0 c1 c2 c3 c4 c5 d0 d1 d2 d3 d4 d5
  have HB8 := Lib.hid hb8; clear hb8 hm8 hm9
  go_wp2_with fail
  ((with_reducible refine (q7 _).mono ?_); rintro e W7 ⟨rfl, b7⟩)
  clear c0 c1 c2 c3 c4 c5 d0 d1 d2 d3 d4 d5
  go_wp2_with fail
  ((with_reducible refine (q8 _).mono ?_); rintro e W8 ⟨rfl, b8⟩)
  go_wp2_with fail
  go_ret
  exact ⟨rfl, bch (bch HB8.out b7) b8⟩
end Go.Proofs.Ytjdpihppniibjaa
