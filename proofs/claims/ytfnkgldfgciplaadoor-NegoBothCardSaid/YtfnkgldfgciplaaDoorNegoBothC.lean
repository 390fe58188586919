import Derived.Test.YtfnkgldfgciplaaDoorNegoSix
/-
  The walk of the law NegoBoth, over what is asked of the program (stage 9).
-/
namespace Go.Proofs.YtfnkgldfgciplaaDoor
open Go.RowKit
set_option linter.unusedVariables false
set_option linter.unusedSimpArgs false

theorem toNat_eq {z : Int} (h : 0 ≤ z) : ((z.toNat : Nat) : Int) = z := by omega
set_option maxRecDepth 100000 in
set_option maxHeartbeats 4000000 in
theorem negoBoth_core (hR : RightN) (hO : OfN) (hA : AgreeN) (a0 a1 a2 a3 a4 a5 : Int) (w : World) (hk : Knw w) (h0 : (Lit.int .i64 a0).wf = true) (h1 : (Lit.int .i64 a1).wf = true) (h2 : (Lit.int .i64 a2).wf = true) (h3 : (Lit.int .i64 a3).wf = true) (h4 : (Lit.int .i64 a4).wf = true) (h5 : (Lit.int .i64 a5).wf = true) :
    Calls Tryd.prog 4 #[.agg #[.int .i64 a0, .int .i64 a1, .int .i64 a2, .int .i64 a3, .int .i64 a4, .int .i64 a5]] w fun e w' => e = .returned (.bool true) ∧ Below w.heap.size w w' := by
  have qw := fun W (hb : Below w.heap.size w W) => awake9_any hR hO hA W (hk.below hb)
  have qa := fun W => hello_any a0 a1 a2 h0 h1 h2 W
  have qb := fun W => hello_any a3 a4 a5 h3 h4 h5 W
  have ra := helR_right a0 a1 a2
  have rb := helR_right a3 a4 a5
  generalize helR a0 a1 a2 = A at qa ra
  generalize helR a3 a4 a5 = B at qb rb
  have g1 := fun W => hA.as A B ra rb W
  have g2 := fun W => hA.as B A rb ra W
  rw [ag_comm B A] at g2
  unfold hlV at qa qb
  have hl := agH_lt A B
  have hcs := ag_cases ra rb
  generalize agH A B = D at g1 g2 hcs hl
  obtain ⟨v, f, n⟩ := D
  simp only at g1 g2 hl
  have eqd := fun W => eqDl v f v f W
  have hgu := guardDl
  have bb : ((v : Int) == (v : Int) && (f : Int) == (f : Int)) = true := by simp
  have nn : ((n : Int) != (n : Int)) = false := by simp
  have RA := Lib.hid ra; clear ra
  have RB := Lib.hid rb; clear rb
  have HC := Lib.hid hcs; clear hcs
  have HL := Lib.hid hl; clear hl
  clear hR hO hA h0 h1 h2 h3 h4 h5
  have hb0 : Below w.heap.size w (w.alloc (.cells #[.int .i64 a0, .int .i64 a1, .int .i64 a2, .int .i64 a3, .int .i64 a4, .int .i64 a5] 24)) := (Below.refl _ _).alloc (Nat.le_refl _) _
  have ha : A6Blk (w.alloc (.cells #[.int .i64 a0, .int .i64 a1, .int .i64 a2, .int .i64 a3, .int .i64 a4, .int .i64 a5] 24)) w.heap.size a0 a1 a2 a3 a4 a5 := A6Blk.new w a0 a1 a2 a3 a4 a5
  obtain ⟨W0, hW0⟩ : ∃ W, w.alloc (.cells #[.int .i64 a0, .int .i64 a1, .int .i64 a2, .int .i64 a3, .int .i64 a4, .int .i64 a5] 24) = W := ⟨_, rfl⟩
  rw [hW0] at hb0 ha
  have HB0 := Lib.hid hb0; clear hb0
  have HX := Lib.hid ha; clear ha
  go_enter Tryd.func4, Tryd.ntmps4
  go_wp2_with fail
  ((with_reducible refine (qw _ HB0.out).mono ?_); rintro e W1 ⟨rfl, b1⟩)
  have HB1 := Lib.hid (bch HB0.out b1)
  have HX1 := Lib.hid (HX.out.below b1)
  clear hW0 b1 qw
  obtain ⟨x0, x1, x2, x3, x4, x5⟩ := HX1.out.cells
  go_wp2_with fail
  ((with_reducible refine (qa _).mono ?_); rintro e W2 ⟨rfl, b2⟩)
  clear x0 x1 x2 x3 x4 x5
  go_upto_region 3 with fail
  have hb := (bch HB1.out b2).alloc (bch HB1.out b2).size (.cells #[.int .i64 A.low, .int .i64 A.high, .int .i64 A.feat] 23)
  have hx := (HX1.out.below b2).below ((Below.refl _ _).alloc (Nat.le_refl _) (.cells #[.int .i64 A.low, .int .i64 A.high, .int .i64 A.feat] 23))
  have hp := HlBlk.new W2 A
  obtain ⟨V2, hV2⟩ : ∃ W, W2.alloc (.cells #[.int .i64 A.low, .int .i64 A.high, .int .i64 A.feat] 23) = W := ⟨_, rfl⟩
  rw [hV2] at hb hx hp ⊢
  clear hV2 b2
  obtain ⟨x0, x1, x2, x3, x4, x5⟩ := hx.cells
  have HB2 := Lib.hid hb; clear hb hx
  have HP2 := Lib.hid hp; clear hp
  go_wp2_with fail
  ((with_reducible refine (qb _).mono ?_); rintro e W3 ⟨rfl, b3⟩)
  clear x0 x1 x2 x3 x4 x5
  go_upto_region 4 with fail
  have hb := (bch HB2.out b3).alloc (bch HB2.out b3).size (.cells #[.int .i64 B.low, .int .i64 B.high, .int .i64 B.feat] 23)
  have hp := (HP2.out.below b3).below ((Below.refl _ _).alloc (Nat.le_refl _) (.cells #[.int .i64 B.low, .int .i64 B.high, .int .i64 B.feat] 23))
  have hq := HlBlk.new W3 B
  obtain ⟨V3, hV3⟩ : ∃ W, W3.alloc (.cells #[.int .i64 B.low, .int .i64 B.high, .int .i64 B.feat] 23) = W := ⟨_, rfl⟩
  rw [hV3] at hb hp hq ⊢
  clear hV3 b3
  obtain ⟨p0, p1, p2⟩ := hp.cells
  obtain ⟨q0, q1, q2⟩ := hq.cells
  have HB3 := Lib.hid hb; clear hb
  have HP3 := Lib.hid hp; clear hp
  have HQ3 := Lib.hid hq; clear hq
  go_wp2_with fail
  ((with_reducible refine (g1 _).mono ?_); rintro e W4 ⟨rfl, b4⟩)
  clear p0 p1 p2 q0 q1 q2
  go_upto_region 5 with fail
  have hb := (bch HB3.out b4).alloc (bch HB3.out b4).size (.cells #[.int .i64 (v : Int), .int .i64 (f : Int)] 30)
  have hp := (HP3.out.below b4).below ((Below.refl _ _).alloc (Nat.le_refl _) (.cells #[.int .i64 (v : Int), .int .i64 (f : Int)] 30))
  have hq := (HQ3.out.below b4).below ((Below.refl _ _).alloc (Nat.le_refl _) (.cells #[.int .i64 (v : Int), .int .i64 (f : Int)] 30))
  have hd := DlBlk.new W4 v f
  obtain ⟨V4, hV4⟩ : ∃ W, W4.alloc (.cells #[.int .i64 (v : Int), .int .i64 (f : Int)] 30) = W := ⟨_, rfl⟩
  rw [hV4] at hb hp hq hd ⊢
  clear hV4 b4
  obtain ⟨p0, p1, p2⟩ := hp.cells
  obtain ⟨q0, q1, q2⟩ := hq.cells
  have HB4 := Lib.hid hb; clear hb
  have HP4 := Lib.hid hp; clear hp
  have HQ4 := Lib.hid hq; clear hq
  have HD4 := Lib.hid hd; clear hd
  go_wp2_with fail
  ((with_reducible refine (g2 _).mono ?_); rintro e W5 ⟨rfl, b5⟩)
  clear p0 p1 p2 q0 q1 q2
  go_upto_region 6 with fail
  have hb := (bch HB4.out b5).alloc (bch HB4.out b5).size (.cells #[.int .i64 (v : Int), .int .i64 (f : Int)] 30)
  have hp := (HP4.out.below b5).below ((Below.refl _ _).alloc (Nat.le_refl _) (.cells #[.int .i64 (v : Int), .int .i64 (f : Int)] 30))
  have hq := (HQ4.out.below b5).below ((Below.refl _ _).alloc (Nat.le_refl _) (.cells #[.int .i64 (v : Int), .int .i64 (f : Int)] 30))
  have hd := (HD4.out.below b5).below ((Below.refl _ _).alloc (Nat.le_refl _) (.cells #[.int .i64 (v : Int), .int .i64 (f : Int)] 30))
  have he := DlBlk.new W5 v f
  obtain ⟨V5, hV5⟩ : ∃ W, W5.alloc (.cells #[.int .i64 (v : Int), .int .i64 (f : Int)] 30) = W := ⟨_, rfl⟩
  rw [hV5] at hb hp hq hd he ⊢
  clear hV5 b5
  obtain ⟨p0, p1, p2⟩ := hp.cells
  obtain ⟨q0, q1, q2⟩ := hq.cells
  obtain ⟨d0, d1⟩ := hd.cells
  obtain ⟨e0, e1⟩ := he.cells
  have HB5 := Lib.hid hb; clear hb hp hq hd he
  clear g1 g2 qa qb
  obtain ⟨u1, u2, u3, u4, u5⟩ := RA.out
  obtain ⟨v1, v2, v3, v4, v5⟩ := RB.out
  rcases HC.out with ⟨hd, y1, y2⟩ | ⟨hd, y1, y2, y3⟩ | ⟨hd, y1, y2⟩
  · simp only [Prod.mk.injEq] at hd
    obtain ⟨rfl, rfl, rfl⟩ := hd
    have s1 : bits .and .i64 (featB A B : Int) A.feat = (featB A B : Int) := by
      have h := i64_bandN (featB A B) A.feat.toNat (featB_lt RA.out) (feat_lt RA.out)
      rw [toNat_eq u4] at h
      rw [h, (feat_sub A B).1]
    have s2 : bits .and .i64 (featB A B : Int) B.feat = (featB A B : Int) := by
      have h := i64_bandN (featB A B) B.feat.toNat (featB_lt RA.out) (feat_lt RB.out)
      rw [toNat_eq v4] at h
      rw [h, (feat_sub A B).2]
    have t1 : A.low ≤ 2 := by omega
    have t2 : B.low ≤ 2 := by omega
    generalize featB A B = F at *
    go_wp2_with fail
    go_ret
    exact ⟨rfl, HB5.out⟩
  · simp only [Prod.mk.injEq] at hd
    obtain ⟨rfl, rfl, rfl⟩ := hd
    have l8 : featB A B % 8 < 8 := Nat.mod_lt _ (by decide)
    have s1 : bits .and .i64 ((featB A B % 8 : Nat) : Int) A.feat = ((featB A B % 8 : Nat) : Int) := by
      have h := i64_bandN (featB A B % 8) A.feat.toNat (by omega) (feat_lt RA.out)
      rw [toNat_eq u4] at h
      rw [h, sub_trans (sub_mod _) (feat_sub A B).1]
    have s2 : bits .and .i64 ((featB A B % 8 : Nat) : Int) B.feat = ((featB A B % 8 : Nat) : Int) := by
      have h := i64_bandN (featB A B % 8) B.feat.toNat (by omega) (feat_lt RB.out)
      rw [toNat_eq v4] at h
      rw [h, sub_trans (sub_mod _) (feat_sub A B).2]
    generalize featB A B % 8 = F at *
    have t3 : (F : Int) ≤ 7 := by omega
    have t4 : (1 : Int) ≤ A.high := by omega
    have t5 : (1 : Int) ≤ B.high := by omega
    by_cases z1 : A.high = 2
    · have z2 : B.high = 1 := by omega
      go_wp2_with fail
      go_ret
      exact ⟨rfl, HB5.out⟩
    · have z2 : A.high = 1 := by omega
      go_wp2_with fail
      go_ret
      exact ⟨rfl, HB5.out⟩
  · simp only [Prod.mk.injEq] at hd
    obtain ⟨rfl, rfl, rfl⟩ := hd
    by_cases z1 : A.high < B.low
    · go_wp2_with fail
      go_ret
      exact ⟨rfl, HB5.out⟩
    · have z2 : B.high < A.low := by omega
      go_wp2_with fail
      go_ret
      exact ⟨rfl, HB5.out⟩
end Go.Proofs.YtfnkgldfgciplaaDoor
