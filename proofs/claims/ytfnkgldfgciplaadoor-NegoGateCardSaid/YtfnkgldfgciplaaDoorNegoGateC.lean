import Derived.Test.YtfnkgldfgciplaaDoorNegoAwake
/-
  The walk of the law NegoGate, over what is asked of the program (stage 9).
-/
namespace Go.Proofs.YtfnkgldfgciplaaDoor
open Go.RowKit
set_option linter.unusedVariables false

set_option maxRecDepth 100000 in
set_option maxHeartbeats 4000000 in
theorem negoGate_core (hR : RightN) (hO : OfN) (hA : AgreeN) (one two : Int) (w : World) (hk : Knw w) (h1 : (Lit.int .i64 one).wf = true) (h2 : (Lit.int .i64 two).wf = true) :
    Calls Tryd.prog 6 #[.int .i64 one, .int .i64 two] w fun e w' => e = .returned (.bool true) ∧ Below w.heap.size w w' := by
  have qw := fun W (hb : Below w.heap.size w W) => awake9_any hR hO hA W (hk.below hb)
  have qp := pickN9_nat one 2 (by omega) (by omega) h1
  have kp := pickN_lt one 2 (by omega)
  have qq := pickN9_nat two 2 (by omega) (by omega) h2
  have kq := pickN_lt two 2 (by omega)
  generalize pickN one 2 = p at qp kp
  generalize pickN two 2 = q at qq kq
  clear h1 h2
  have o11 := fun W (hw : Knw W) => hO.at (V := .agg #[.int .i64 1, .int .i64 1, .int .i64 7]) (of11 1) rfl (by decide) (by decide) W hw
  have o12 := fun W (hw : Knw W) => hO.at (V := .agg #[.int .i64 1, .int .i64 1, .int .i64 7]) (of11 2) rfl (by decide) (by decide) W hw
  have o21 := fun W (hw : Knw W) => hO.at (V := .agg #[.int .i64 1, .int .i64 2, .int .i64 1048575]) of21 rfl (by decide) (by decide) W hw
  have o22 := fun W (hw : Knw W) => hO.at (V := .agg #[.int .i64 2, .int .i64 2, .int .i64 1048575]) of22 rfl (by decide) (by decide) W hw
  have HA := Lib.hid hA; clear hR hO hA
  rcases (by omega : (p = 0 ∧ q = 0) ∨ (p = 0 ∧ q = 1) ∨ (p = 1 ∧ q = 0) ∨ (p = 1 ∧ q = 1)) with ⟨rfl, rfl⟩ | ⟨rfl, rfl⟩ | ⟨rfl, rfl⟩ | ⟨rfl, rfl⟩
  · have g1 := fun W => HA.out.at (A := .agg #[.int .i64 1, .int .i64 1, .int .i64 7]) (B := .agg #[.int .i64 1, .int .i64 1, .int .i64 7]) rfl rfl agEx5 ⟨by decide, by decide, by decide⟩ ⟨by decide, by decide, by decide⟩ W
    have g2 := fun W => HA.out.at (A := .agg #[.int .i64 1, .int .i64 1, .int .i64 7]) (B := .agg #[.int .i64 2, .int .i64 2, .int .i64 1048575]) rfl rfl agEx2 ⟨by decide, by decide, by decide⟩ ⟨by decide, by decide, by decide⟩ W
    clear kp kq
    go_enter Tryd.func6, Tryd.ntmps6
    go_wp2_with fail
    ((with_reducible refine (qw _ (Below.refl _ _)).mono ?_); rintro e W1 ⟨rfl, b1⟩)
    go_wp2_with fail
    ((with_reducible refine (qp _).mono ?_); rintro e X1 ⟨rfl, rfl⟩)
    go_wp2_with fail
    ((with_reducible refine (qq _).mono ?_); rintro e X2 ⟨rfl, rfl⟩)
    go_wp2_with fail
    ((with_reducible refine (o11 _ (hk.below b1)).mono ?_); rintro e W2 ⟨rfl, b2⟩)
    go_wp2_with fail
    ((with_reducible refine (o11 _ (hk.below (bch b1 b2))).mono ?_); rintro e W3 ⟨rfl, b3⟩)
    go_wp2_with fail
    ((with_reducible refine (g1 _).mono ?_); rintro e W4 ⟨rfl, b4⟩)
    go_upto_region 5 with fail
    have hb := bch (bch (bch b1 b2) b3) b4
    clear b1 b2 b3 b4
    have hb2 := hb.alloc hb.size (.cells #[.int .i64 1, .int .i64 7] 30)
    have hd := DlBlk.new W4 1 7
    obtain ⟨V4, hV4⟩ : ∃ W, W4.alloc (.cells #[.int .i64 1, .int .i64 7] 30) = W := ⟨_, rfl⟩
    rw [hV4] at hb2 hd ⊢
    clear hV4 hb
    have HB := Lib.hid hb2; clear hb2
    have HD := Lib.hid hd; clear hd
    go_wp2_with fail
    ((with_reducible refine (o12 _ (hk.below HB.out)).mono ?_); rintro e W5 ⟨rfl, b5⟩)
    go_wp2_with fail
    ((with_reducible refine (o22 _ (hk.below (bch HB.out b5))).mono ?_); rintro e W6 ⟨rfl, b6⟩)
    go_wp2_with fail
    ((with_reducible refine (g2 _).mono ?_); rintro e W7 ⟨rfl, b7⟩)
    go_upto_region 6 with fail
    have hb := bch (bch (bch HB.out b5) b6) b7
    have hd := ((HD.out.below b5).below b6).below b7
    clear b5 b6 b7
    have hb2 := hb.alloc hb.size (.cells #[.int .i64 0, .int .i64 0] 30)
    have hd2 := hd.below ((Below.refl _ _).alloc (Nat.le_refl _) (.cells #[.int .i64 0, .int .i64 0] 30))
    have he := DlBlk.new W7 0 0
    obtain ⟨V7, hV7⟩ : ∃ W, W7.alloc (.cells #[.int .i64 0, .int .i64 0] 30) = W := ⟨_, rfl⟩
    rw [hV7] at hb2 hd2 he ⊢
    clear hV7 hb hd
    obtain ⟨c0, c1⟩ := hd2.cells
    obtain ⟨d0, d1⟩ := he.cells
    have HB7 := Lib.hid hb2; clear hb2 hd2 he
    go_wp2_with fail
    go_ret
    exact ⟨rfl, HB7.out⟩
  · have g1 := fun W => HA.out.at (A := .agg #[.int .i64 1, .int .i64 1, .int .i64 7]) (B := .agg #[.int .i64 1, .int .i64 2, .int .i64 1048575]) rfl rfl agEx1 ⟨by decide, by decide, by decide⟩ ⟨by decide, by decide, by decide⟩ W
    have g2 := fun W => HA.out.at (A := .agg #[.int .i64 1, .int .i64 1, .int .i64 7]) (B := .agg #[.int .i64 2, .int .i64 2, .int .i64 1048575]) rfl rfl agEx2 ⟨by decide, by decide, by decide⟩ ⟨by decide, by decide, by decide⟩ W
    clear kp kq
    go_enter Tryd.func6, Tryd.ntmps6
    go_wp2_with fail
    ((with_reducible refine (qw _ (Below.refl _ _)).mono ?_); rintro e W1 ⟨rfl, b1⟩)
    go_wp2_with fail
    ((with_reducible refine (qp _).mono ?_); rintro e X1 ⟨rfl, rfl⟩)
    go_wp2_with fail
    ((with_reducible refine (qq _).mono ?_); rintro e X2 ⟨rfl, rfl⟩)
    go_wp2_with fail
    ((with_reducible refine (o11 _ (hk.below b1)).mono ?_); rintro e W2 ⟨rfl, b2⟩)
    go_wp2_with fail
    ((with_reducible refine (o21 _ (hk.below (bch b1 b2))).mono ?_); rintro e W3 ⟨rfl, b3⟩)
    go_wp2_with fail
    ((with_reducible refine (g1 _).mono ?_); rintro e W4 ⟨rfl, b4⟩)
    go_upto_region 5 with fail
    have hb := bch (bch (bch b1 b2) b3) b4
    clear b1 b2 b3 b4
    have hb2 := hb.alloc hb.size (.cells #[.int .i64 1, .int .i64 7] 30)
    have hd := DlBlk.new W4 1 7
    obtain ⟨V4, hV4⟩ : ∃ W, W4.alloc (.cells #[.int .i64 1, .int .i64 7] 30) = W := ⟨_, rfl⟩
    rw [hV4] at hb2 hd ⊢
    clear hV4 hb
    have HB := Lib.hid hb2; clear hb2
    have HD := Lib.hid hd; clear hd
    go_wp2_with fail
    ((with_reducible refine (o12 _ (hk.below HB.out)).mono ?_); rintro e W5 ⟨rfl, b5⟩)
    go_wp2_with fail
    ((with_reducible refine (o22 _ (hk.below (bch HB.out b5))).mono ?_); rintro e W6 ⟨rfl, b6⟩)
    go_wp2_with fail
    ((with_reducible refine (g2 _).mono ?_); rintro e W7 ⟨rfl, b7⟩)
    go_upto_region 6 with fail
    have hb := bch (bch (bch HB.out b5) b6) b7
    have hd := ((HD.out.below b5).below b6).below b7
    clear b5 b6 b7
    have hb2 := hb.alloc hb.size (.cells #[.int .i64 0, .int .i64 0] 30)
    have hd2 := hd.below ((Below.refl _ _).alloc (Nat.le_refl _) (.cells #[.int .i64 0, .int .i64 0] 30))
    have he := DlBlk.new W7 0 0
    obtain ⟨V7, hV7⟩ : ∃ W, W7.alloc (.cells #[.int .i64 0, .int .i64 0] 30) = W := ⟨_, rfl⟩
    rw [hV7] at hb2 hd2 he ⊢
    clear hV7 hb hd
    obtain ⟨c0, c1⟩ := hd2.cells
    obtain ⟨d0, d1⟩ := he.cells
    have HB7 := Lib.hid hb2; clear hb2 hd2 he
    go_wp2_with fail
    go_ret
    exact ⟨rfl, HB7.out⟩
  · have g1 := fun W => HA.out.at (A := .agg #[.int .i64 1, .int .i64 2, .int .i64 1048575]) (B := .agg #[.int .i64 1, .int .i64 1, .int .i64 7]) rfl rfl agEx7 ⟨by decide, by decide, by decide⟩ ⟨by decide, by decide, by decide⟩ W
    have g2 := fun W => HA.out.at (A := .agg #[.int .i64 2, .int .i64 2, .int .i64 1048575]) (B := .agg #[.int .i64 2, .int .i64 2, .int .i64 1048575]) rfl rfl agEx8 ⟨by decide, by decide, by decide⟩ ⟨by decide, by decide, by decide⟩ W
    clear kp kq
    go_enter Tryd.func6, Tryd.ntmps6
    go_wp2_with fail
    ((with_reducible refine (qw _ (Below.refl _ _)).mono ?_); rintro e W1 ⟨rfl, b1⟩)
    go_wp2_with fail
    ((with_reducible refine (qp _).mono ?_); rintro e X1 ⟨rfl, rfl⟩)
    go_wp2_with fail
    ((with_reducible refine (qq _).mono ?_); rintro e X2 ⟨rfl, rfl⟩)
    go_wp2_with fail
    ((with_reducible refine (o21 _ (hk.below b1)).mono ?_); rintro e W2 ⟨rfl, b2⟩)
    go_wp2_with fail
    ((with_reducible refine (o11 _ (hk.below (bch b1 b2))).mono ?_); rintro e W3 ⟨rfl, b3⟩)
    go_wp2_with fail
    ((with_reducible refine (g1 _).mono ?_); rintro e W4 ⟨rfl, b4⟩)
    go_upto_region 5 with fail
    have hb := bch (bch (bch b1 b2) b3) b4
    clear b1 b2 b3 b4
    have hb2 := hb.alloc hb.size (.cells #[.int .i64 1, .int .i64 7] 30)
    have hd := DlBlk.new W4 1 7
    obtain ⟨V4, hV4⟩ : ∃ W, W4.alloc (.cells #[.int .i64 1, .int .i64 7] 30) = W := ⟨_, rfl⟩
    rw [hV4] at hb2 hd ⊢
    clear hV4 hb
    have HB := Lib.hid hb2; clear hb2
    have HD := Lib.hid hd; clear hd
    go_wp2_with fail
    ((with_reducible refine (o22 _ (hk.below HB.out)).mono ?_); rintro e W5 ⟨rfl, b5⟩)
    go_wp2_with fail
    ((with_reducible refine (o22 _ (hk.below (bch HB.out b5))).mono ?_); rintro e W6 ⟨rfl, b6⟩)
    go_wp2_with fail
    ((with_reducible refine (g2 _).mono ?_); rintro e W7 ⟨rfl, b7⟩)
    go_upto_region 6 with fail
    have hb := bch (bch (bch HB.out b5) b6) b7
    have hd := ((HD.out.below b5).below b6).below b7
    clear b5 b6 b7
    have hb2 := hb.alloc hb.size (.cells #[.int .i64 2, .int .i64 1048575] 30)
    have hd2 := hd.below ((Below.refl _ _).alloc (Nat.le_refl _) (.cells #[.int .i64 2, .int .i64 1048575] 30))
    have he := DlBlk.new W7 2 1048575
    obtain ⟨V7, hV7⟩ : ∃ W, W7.alloc (.cells #[.int .i64 2, .int .i64 1048575] 30) = W := ⟨_, rfl⟩
    rw [hV7] at hb2 hd2 he ⊢
    clear hV7 hb hd
    obtain ⟨c0, c1⟩ := hd2.cells
    obtain ⟨d0, d1⟩ := he.cells
    have HB7 := Lib.hid hb2; clear hb2 hd2 he
    go_wp2_with fail
    go_ret
    exact ⟨rfl, HB7.out⟩
  · have g1 := fun W => HA.out.at (A := .agg #[.int .i64 1, .int .i64 2, .int .i64 1048575]) (B := .agg #[.int .i64 1, .int .i64 2, .int .i64 1048575]) rfl rfl agEx6 ⟨by decide, by decide, by decide⟩ ⟨by decide, by decide, by decide⟩ W
    have g2 := fun W => HA.out.at (A := .agg #[.int .i64 2, .int .i64 2, .int .i64 1048575]) (B := .agg #[.int .i64 2, .int .i64 2, .int .i64 1048575]) rfl rfl agEx8 ⟨by decide, by decide, by decide⟩ ⟨by decide, by decide, by decide⟩ W
    clear kp kq
    go_enter Tryd.func6, Tryd.ntmps6
    go_wp2_with fail
    ((with_reducible refine (qw _ (Below.refl _ _)).mono ?_); rintro e W1 ⟨rfl, b1⟩)
    go_wp2_with fail
    ((with_reducible refine (qp _).mono ?_); rintro e X1 ⟨rfl, rfl⟩)
    go_wp2_with fail
    ((with_reducible refine (qq _).mono ?_); rintro e X2 ⟨rfl, rfl⟩)
    go_wp2_with fail
    ((with_reducible refine (o21 _ (hk.below b1)).mono ?_); rintro e W2 ⟨rfl, b2⟩)
    go_wp2_with fail
    ((with_reducible refine (o21 _ (hk.below (bch b1 b2))).mono ?_); rintro e W3 ⟨rfl, b3⟩)
    go_wp2_with fail
    ((with_reducible refine (g1 _).mono ?_); rintro e W4 ⟨rfl, b4⟩)
    go_upto_region 5 with fail
    have hb := bch (bch (bch b1 b2) b3) b4
    clear b1 b2 b3 b4
    have hb2 := hb.alloc hb.size (.cells #[.int .i64 2, .int .i64 1048575] 30)
    have hd := DlBlk.new W4 2 1048575
    obtain ⟨V4, hV4⟩ : ∃ W, W4.alloc (.cells #[.int .i64 2, .int .i64 1048575] 30) = W := ⟨_, rfl⟩
    rw [hV4] at hb2 hd ⊢
    clear hV4 hb
    have HB := Lib.hid hb2; clear hb2
    have HD := Lib.hid hd; clear hd
    go_wp2_with fail
    ((with_reducible refine (o22 _ (hk.below HB.out)).mono ?_); rintro e W5 ⟨rfl, b5⟩)
    go_wp2_with fail
    ((with_reducible refine (o22 _ (hk.below (bch HB.out b5))).mono ?_); rintro e W6 ⟨rfl, b6⟩)
    go_wp2_with fail
    ((with_reducible refine (g2 _).mono ?_); rintro e W7 ⟨rfl, b7⟩)
    go_upto_region 6 with fail
    have hb := bch (bch (bch HB.out b5) b6) b7
    have hd := ((HD.out.below b5).below b6).below b7
    clear b5 b6 b7
    have hb2 := hb.alloc hb.size (.cells #[.int .i64 2, .int .i64 1048575] 30)
    have hd2 := hd.below ((Below.refl _ _).alloc (Nat.le_refl _) (.cells #[.int .i64 2, .int .i64 1048575] 30))
    have he := DlBlk.new W7 2 1048575
    obtain ⟨V7, hV7⟩ : ∃ W, W7.alloc (.cells #[.int .i64 2, .int .i64 1048575] 30) = W := ⟨_, rfl⟩
    rw [hV7] at hb2 hd2 he ⊢
    clear hV7 hb hd
    obtain ⟨c0, c1⟩ := hd2.cells
    obtain ⟨d0, d1⟩ := he.cells
    have HB7 := Lib.hid hb2; clear hb2 hd2 he
    go_wp2_with fail
    go_ret
    exact ⟨rfl, HB7.out⟩
end Go.Proofs.YtfnkgldfgciplaaDoor
