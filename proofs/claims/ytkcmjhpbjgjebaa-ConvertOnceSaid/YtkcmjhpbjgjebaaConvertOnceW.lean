import Derived.Test.YtkcmjhpbjgjebaaConLaw
/-
  The walk of the law ConvertOnce.
-/
namespace Go.Proofs.Ytkcmjhpbjgjebaa
open Go.RowKit
set_option linter.unusedVariables false
set_option linter.unusedSimpArgs false

theorem once_all {r : Rcd} (h : RightP 2 r) : ∃ dk dv dr dx X x, downR r = (⟨dk, dv, dr, 0, ⟨#[]⟩, dx⟩, 0) ∧ dx.length = r.extra.length + ((if 0 < r.life then 1 else 0) + (if r.note.size = 0 then 0 else 1)) ∧ RightP 1 ⟨dk, dv, dr, 0, ⟨#[]⟩, dx⟩ ∧ upR ⟨dk, dv, dr, 0, ⟨#[]⟩, dx⟩ = (r, 0) ∧ downR ⟨dk, dv, dr, 0, ⟨#[]⟩, dx⟩ = (X, x) ∧ (x = 0 ↔ (r.life = 0 ∧ r.note.size = 0)) := by
  have hR := rightR_yes h
  have hd := downR_eq hR
  obtain ⟨_, u2, u3, _, _⟩ := down_up hd
  have hlf := life_bd h
  refine ⟨_, _, _, _, (downR ⟨r.key, r.value, r.rev, 0, ⟨#[]⟩, opt 4 (ob (numD r.life)) ++ (opt 5 (ob r.note) ++ r.extra)⟩).1, (downR ⟨r.key, r.value, r.rev, 0, ⟨#[]⟩, opt 4 (ob (numD r.life)) ++ (opt 5 (ob r.note) ++ r.extra)⟩).2, hd, ?_, rightR_iff.1 u2, u3, rfl, ?_⟩
  · rw [List.length_append, List.length_append]
    by_cases h4 : r.life = 0
    · rw [opt_no (numD_zero.2 h4), if_neg (by omega)]
      by_cases h5 : r.note.size = 0
      · rw [opt_no h5, if_pos h5]; simp
      · rw [opt_yes h5, if_neg h5]; simp; omega
    · rw [opt_yes (numD_yes h4), if_pos (by omega)]
      by_cases h5 : r.note.size = 0
      · rw [opt_no h5, if_pos h5]; simp; omega
      · rw [opt_yes h5, if_neg h5]; simp; omega
  · rw [downR_right]
    constructor
    · intro h6
      have hex := extraB_iff.1 (rightR_iff.1 h6).2.2.2.2.2
      have hk := (all_mem (P := fun t _ => knowB 2 t = false)).1 hex.2.2
      simp only at hk
      constructor
      · apply Classical.byContradiction
        intro h4
        have := hk (4, numD r.life) (by rw [opt_yes (numD_yes h4)]; simp)
        exact absurd (show knowB 2 4 = false from this) (by decide)
      · apply Classical.byContradiction
        intro h5
        have := hk (5, r.note) (by rw [opt_yes h5]; simp)
        exact absurd (show knowB 2 5 = false from this) (by decide)
    · rintro ⟨h4, h5⟩
      have e : (⟨r.key, r.value, r.rev, 0, ByteArray.empty, opt 4 (ob (numD r.life)) ++ (opt 5 (ob r.note) ++ r.extra)⟩ : Rcd) = r := by
        obtain ⟨a1, a2, a3, a4, a5, a6⟩ := r
        simp only at h4 h5 ⊢
        rw [opt_no (numD_zero.2 h4), opt_no h5, empty_of h5, h4]; simp
      exact (show rightR 2 ⟨r.key, r.value, r.rev, 0, ByteArray.empty, opt 4 (ob (numD r.life)) ++ (opt 5 (ob r.note) ++ r.extra)⟩ = true from by rw [e]; exact hR)

set_option maxRecDepth 100000 in
set_option maxHeartbeats 8000000 in
theorem convertOnce_walk (x0 x1 x2 x3 x4 : Int) (A : Option Addr) (n cap : Nat) (f : Nat → Nat → Int) (B : Option Addr) (m cap2 : Nat) (g : Nat → ByteArray) (w : World) (h0 : (Lit.int .i64 x0).wf = true) (h1 : (Lit.int .i64 x1).wf = true) (h2 : (Lit.int .i64 x2).wf = true) (h3 : (Lit.int .i64 x3).wf = true) (h4 : (Lit.int .i64 x4).wf = true) (hra : IsRaw w A n 2 f) (hst : IsStrs w B m g) :
    Calls Try.prog 7 #[.agg #[.int .i64 x0, .int .i64 x1, .int .i64 x2, .int .i64 x3, .int .i64 x4], .slice A n cap, .slice B m cap2] w fun e w' => e = .returned (.bool true) ∧ Below w.heap.size w w' := by
  have hb : Below w.heap.size w (w.alloc (.cells #[.int .i64 x0, .int .i64 x1, .int .i64 x2, .int .i64 x3, .int .i64 x4] 25)) := (Below.refl _ _).alloc (Nat.le_refl _) _
  have harr : Arr5 (w.alloc (.cells #[.int .i64 x0, .int .i64 x1, .int .i64 x2, .int .i64 x3, .int .i64 x4] 25)) w.heap.size x0 x1 x2 x3 x4 := World.alloc_heap_new w _
  go_enter Try.func7, Try.ntmps7
  go_wp2_with fail
  ((with_reducible refine (awake4_any _).mono ?_); rintro e w1 ⟨rfl, b1⟩)
  replace harr := harr.below b1
  replace hb := bch hb b1
  clear b1
  have p1 := record_any 2 (.inr rfl) x0 x1 x2 x3 x4 h0 h1 h2 h3 h4 A n cap f B m cap2 g w1 (hra.below hb) (hst.below hb)
  obtain ⟨c0, c1, c2, c3, c4⟩ := harr.cells
  clear harr
  go_wp2_with fail
  ((with_reducible refine p1.mono ?_); rintro e w2 ⟨A1, n1, cap1, r, rfl, hc1, hf1, hN, b2⟩)
  replace hb := bch hb b2
  clear p1 c0 c1 c2 c3 c4 b2
  obtain ⟨dk, dv, dr, dx, X, x, hD, hlen, hDr, hU, hX, hx⟩ := once_all hN.1
  have hrw := hN.wf
  have hdw := rcwf_right hDr
  have HLEN := Lib.hid hlen
  have HX := Lib.hid hx
  have hn16 : n1 ≤ 6 := by have := hN.2.1; have := hf1.1; omega
  have HN1 := Lib.hid (show n1 = r.extra.length from hf1.1)
  have hlf := life_bd hN.1
  have r2 := hN.right
  have r1 := rightR_yes hDr
  clear hlen hx hDr
  go_upto_region 3 with fail
  obtain ⟨W2, hW⟩ : ∃ W, w2.alloc (.cells #[.string r.key, .string r.value, .int .i64 r.rev, .int .i64 r.life, .string r.note, .slice A1 n1 cap1] 24) = W := ⟨_, rfl⟩
  replace hf1 := hf1.below ((Below.refl _ _).alloc (Nat.le_refl _) (.cells #[.string r.key, .string r.value, .int .i64 r.rev, .int .i64 r.life, .string r.note, .slice A1 n1 cap1] 24))
  replace hb := hb.alloc hb.size (.cells #[.string r.key, .string r.value, .int .i64 r.rev, .int .i64 r.life, .string r.note, .slice A1 n1 cap1] 24)
  have hr : RcBlk W2 w2.heap.size r (.slice A1 n1 cap1) := by rw [← hW]; exact World.alloc_heap_new w2 _
  rw [hW] at hf1 hb
  rw [hW]
  clear hW
  generalize w2.heap.size = y2 at *
  obtain ⟨c0, c1, c2, c3, c4, c5⟩ := hr.cells
  have p2 := cDown_any r A1 n1 cap1 W2 hrw hf1
  rw [hD] at p2
  go_wp2_with fail
  ((with_reducible refine p2.mono ?_); rintro e w3 ⟨A3, n3, cap3, rfl, hc3, hf3, _, b3⟩)
  replace hf3 : IsFs w3 A3 n3 dx := hf3
  clear c0 c1 c2 c3 c4 c5
  clear p2
  replace hr := hr.below b3
  replace hf1 := hf1.below b3
  replace hb := bch hb b3
  clear b3
  go_upto_region 4 with fail
  obtain ⟨W3, hW⟩ : ∃ W, w3.alloc (.cells #[.string dk, .string dv, .int .i64 dr, .int .i64 0, .string ⟨#[]⟩, .slice A3 n3 cap3] 24) = W := ⟨_, rfl⟩
  replace hr := hr.alloc (.cells #[.string dk, .string dv, .int .i64 dr, .int .i64 0, .string ⟨#[]⟩, .slice A3 n3 cap3] 24)
  replace hf1 := hf1.below ((Below.refl _ _).alloc (Nat.le_refl _) (.cells #[.string dk, .string dv, .int .i64 dr, .int .i64 0, .string ⟨#[]⟩, .slice A3 n3 cap3] 24))
  replace hf3 := hf3.below ((Below.refl _ _).alloc (Nat.le_refl _) (.cells #[.string dk, .string dv, .int .i64 dr, .int .i64 0, .string ⟨#[]⟩, .slice A3 n3 cap3] 24))
  replace hb := hb.alloc hb.size (.cells #[.string dk, .string dv, .int .i64 dr, .int .i64 0, .string ⟨#[]⟩, .slice A3 n3 cap3] 24)
  have hd : RcBlk W3 w3.heap.size ⟨dk, dv, dr, 0, ⟨#[]⟩, dx⟩ (.slice A3 n3 cap3) := by rw [← hW]; exact World.alloc_heap_new w3 _
  rw [hW] at hr hf1 hf3 hb
  rw [hW]
  clear hW
  generalize w3.heap.size = y3 at *
  obtain ⟨c0, c1, c2, c3, c4, c5⟩ := hd.cells
  have p3 := cUp_any ⟨dk, dv, dr, 0, ⟨#[]⟩, dx⟩ A3 n3 cap3 W3 hdw hf3
  rw [hU] at p3
  go_wp2_with fail
  ((with_reducible refine p3.mono ?_); rintro e w4 ⟨A4, n4, cap4, rfl, hc4, hf4, _, b4⟩)
  replace hf4 : IsFs w4 A4 n4 r.extra := hf4
  clear c0 c1 c2 c3 c4 c5
  clear p3
  replace hr := hr.below b4
  replace hd := hd.below b4
  replace hf1 := hf1.below b4
  replace hf3 := hf3.below b4
  replace hb := bch hb b4
  clear b4
  go_upto_region 5 with fail
  obtain ⟨W4, hW⟩ : ∃ W, w4.alloc (.cells #[.string r.key, .string r.value, .int .i64 r.rev, .int .i64 r.life, .string r.note, .slice A4 n4 cap4] 24) = W := ⟨_, rfl⟩
  replace hr := hr.alloc (.cells #[.string r.key, .string r.value, .int .i64 r.rev, .int .i64 r.life, .string r.note, .slice A4 n4 cap4] 24)
  replace hd := hd.alloc (.cells #[.string r.key, .string r.value, .int .i64 r.rev, .int .i64 r.life, .string r.note, .slice A4 n4 cap4] 24)
  replace hf1 := hf1.below ((Below.refl _ _).alloc (Nat.le_refl _) (.cells #[.string r.key, .string r.value, .int .i64 r.rev, .int .i64 r.life, .string r.note, .slice A4 n4 cap4] 24))
  replace hf3 := hf3.below ((Below.refl _ _).alloc (Nat.le_refl _) (.cells #[.string r.key, .string r.value, .int .i64 r.rev, .int .i64 r.life, .string r.note, .slice A4 n4 cap4] 24))
  replace hf4 := hf4.below ((Below.refl _ _).alloc (Nat.le_refl _) (.cells #[.string r.key, .string r.value, .int .i64 r.rev, .int .i64 r.life, .string r.note, .slice A4 n4 cap4] 24))
  replace hb := hb.alloc hb.size (.cells #[.string r.key, .string r.value, .int .i64 r.rev, .int .i64 r.life, .string r.note, .slice A4 n4 cap4] 24)
  have hu : RcBlk W4 w4.heap.size r (.slice A4 n4 cap4) := by rw [← hW]; exact World.alloc_heap_new w4 _
  rw [hW] at hr hd hf1 hf3 hf4 hb
  rw [hW]
  clear hW
  generalize w4.heap.size = y4 at *
  obtain ⟨c0, c1, c2, c3, c4, c5⟩ := hd.cells
  have p4 := cDown_any ⟨dk, dv, dr, 0, ⟨#[]⟩, dx⟩ A3 n3 cap3 W4 hdw hf3
  rw [hX] at p4
  go_wp2_with fail
  ((with_reducible refine p4.mono ?_); rintro e w5 ⟨A5, n5, cap5, rfl, hc5, _, _, b5⟩)
  clear c0 c1 c2 c3 c4 c5
  clear p4
  replace hr := hr.below b5
  replace hd := hd.below b5
  replace hu := hu.below b5
  replace hf1 := hf1.below b5
  replace hf3 := hf3.below b5
  replace hf4 := hf4.below b5
  replace hb := bch hb b5
  clear b5
  go_upto_region 6 with fail
  obtain ⟨W5, hW⟩ : ∃ W, w5.alloc (.cells #[.string X.key, .string X.value, .int .i64 X.rev, .int .i64 X.life, .string X.note, .slice A5 n5 cap5] 24) = W := ⟨_, rfl⟩
  replace hr := hr.alloc (.cells #[.string X.key, .string X.value, .int .i64 X.rev, .int .i64 X.life, .string X.note, .slice A5 n5 cap5] 24)
  replace hd := hd.alloc (.cells #[.string X.key, .string X.value, .int .i64 X.rev, .int .i64 X.life, .string X.note, .slice A5 n5 cap5] 24)
  replace hu := hu.alloc (.cells #[.string X.key, .string X.value, .int .i64 X.rev, .int .i64 X.life, .string X.note, .slice A5 n5 cap5] 24)
  replace hf1 := hf1.below ((Below.refl _ _).alloc (Nat.le_refl _) (.cells #[.string X.key, .string X.value, .int .i64 X.rev, .int .i64 X.life, .string X.note, .slice A5 n5 cap5] 24))
  replace hf3 := hf3.below ((Below.refl _ _).alloc (Nat.le_refl _) (.cells #[.string X.key, .string X.value, .int .i64 X.rev, .int .i64 X.life, .string X.note, .slice A5 n5 cap5] 24))
  replace hf4 := hf4.below ((Below.refl _ _).alloc (Nat.le_refl _) (.cells #[.string X.key, .string X.value, .int .i64 X.rev, .int .i64 X.life, .string X.note, .slice A5 n5 cap5] 24))
  replace hb := hb.alloc hb.size (.cells #[.string X.key, .string X.value, .int .i64 X.rev, .int .i64 X.life, .string X.note, .slice A5 n5 cap5] 24)
  have hx5 : RcBlk W5 w5.heap.size X (.slice A5 n5 cap5) := by rw [← hW]; exact World.alloc_heap_new w5 _
  rw [hW] at hr hd hu hf1 hf3 hf4 hb
  rw [hW]
  clear hW
  generalize w5.heap.size = y5 at *
  have q1 := rRight_any 1 ⟨dk, dv, dr, 0, ⟨#[]⟩, dx⟩ A3 n3 cap3 W5 hdw hf3
  rw [r1] at q1
  have Q2 := Lib.hid (fun W h => rRight_any 2 r A4 n4 cap4 W hrw h)
  have HF4 := Lib.hid hf4
  have HU := Lib.hid hu
  have hn3 : n3 = dx.length := hf3.1
  clear hf1 hf3 hf4 hx5 hD hU hX hN hdw
  obtain ⟨c0, c1, c2, c3, c4, c5⟩ := hr.cells
  obtain ⟨d0, d1, d2, d3, d4, d5⟩ := hd.cells
  clear hr hd hu
  have hL : r.life = 0 ∨ 0 < r.life := by omega
  have hNt : r.note.size = 0 ∨ r.note.size ≠ 0 := by omega
  have hx01 : (r.life = 0 ∧ r.note.size = 0 ∧ x = 0) ∨ (¬ (r.life = 0 ∧ r.note.size = 0) ∧ x ≠ 0) := by
    by_cases h6 : r.life = 0 ∧ r.note.size = 0
    · exact .inl ⟨h6.1, h6.2, HX.out.2 h6⟩
    · exact .inr ⟨h6, fun h7 => h6 (HX.out.1 h7)⟩
  have HXX := Lib.hid hx01
  clear hx01
  rcases hL with hL | hL
  · rcases hNt with hNt | hNt
    · have hx0 : x = 0 := HX.out.2 ⟨hL, hNt⟩
      have hlen : n3 = n1 := by have := HLEN.out; have := HN1.out; rw [if_neg (by omega), if_pos hNt] at *; omega
      have e5 := (toList_size _).2 hNt
      subst hx0
      clear HX HXX HLEN hNt hn3
      subst hlen
      go_upto_region 9 with fail
      clear hL
      go_wp2_with fail
      ((with_reducible refine q1.mono ?_); rintro e w6 ⟨rfl, b6⟩)
      have q2 := Q2.out w6 (HF4.out.below b6)
      rw [r2] at q2
      have hu6 := HU.out.below b6
      replace hb := bch hb b6
      obtain ⟨u0, u1, u2, u3, u4, u5⟩ := hu6.cells
      clear hu6 b6 q1 c0 c1 c2 c3 c4 c5 d0 d1 d2 d3 d4 d5
      go_wp2_with fail
      ((with_reducible refine q2.mono ?_); rintro e w7 ⟨rfl, b7⟩)
      replace hb := bch hb b7
      go_wp2_with fail
      go_ret
      exact ⟨rfl, hb⟩
    · have hx0 : x ≠ 0 := fun h7 => hNt (HX.out.1 h7).2
      have hxx : ((x : Int) == 0) = false := by simp; omega
      have hlen : n3 = n1 + 1 := by have := HLEN.out; have := HN1.out; rw [if_neg (by omega), if_neg hNt] at *; omega
      have e5 := toList_ne0 hNt
      clear HX HXX HLEN hNt hn3
      subst hlen
      go_upto_region 9 with fail
      clear hL
      go_wp2_with fail
      ((with_reducible refine q1.mono ?_); rintro e w6 ⟨rfl, b6⟩)
      have q2 := Q2.out w6 (HF4.out.below b6)
      rw [r2] at q2
      have hu6 := HU.out.below b6
      replace hb := bch hb b6
      obtain ⟨u0, u1, u2, u3, u4, u5⟩ := hu6.cells
      clear hu6 b6 q1 c0 c1 c2 c3 c4 c5 d0 d1 d2 d3 d4 d5
      go_wp2_with fail
      ((with_reducible refine q2.mono ?_); rintro e w7 ⟨rfl, b7⟩)
      replace hb := bch hb b7
      go_wp2_with fail
      go_ret
      exact ⟨rfl, hb⟩
  · have hx0 : x ≠ 0 := fun h7 => by have := (HX.out.1 h7).1; omega
    have hxx : ((x : Int) == 0) = false := by simp; omega
    rcases hNt with hNt | hNt
    · have hlen : n3 = n1 + 1 := by have := HLEN.out; have := HN1.out; rw [if_pos hL, if_pos hNt] at *; omega
      have e5 := (toList_size _).2 hNt
      clear HX HXX HLEN hNt hn3
      subst hlen
      go_upto_region 9 with fail
      clear hL
      go_wp2_with fail
      ((with_reducible refine q1.mono ?_); rintro e w6 ⟨rfl, b6⟩)
      have q2 := Q2.out w6 (HF4.out.below b6)
      rw [r2] at q2
      have hu6 := HU.out.below b6
      replace hb := bch hb b6
      obtain ⟨u0, u1, u2, u3, u4, u5⟩ := hu6.cells
      clear hu6 b6 q1 c0 c1 c2 c3 c4 c5 d0 d1 d2 d3 d4 d5
      go_wp2_with fail
      ((with_reducible refine q2.mono ?_); rintro e w7 ⟨rfl, b7⟩)
      replace hb := bch hb b7
      go_wp2_with fail
      go_ret
      exact ⟨rfl, hb⟩
    · have hlen : n3 = n1 + 2 := by have := HLEN.out; have := HN1.out; rw [if_pos hL, if_neg hNt] at *; omega
      have e5 := toList_ne0 hNt
      clear HX HXX HLEN hNt hn3
      subst hlen
      go_upto_region 9 with fail
      clear hL
      go_wp2_with fail
      ((with_reducible refine q1.mono ?_); rintro e w6 ⟨rfl, b6⟩)
      have q2 := Q2.out w6 (HF4.out.below b6)
      rw [r2] at q2
      have hu6 := HU.out.below b6
      replace hb := bch hb b6
      obtain ⟨u0, u1, u2, u3, u4, u5⟩ := hu6.cells
      clear hu6 b6 q1 c0 c1 c2 c3 c4 c5 d0 d1 d2 d3 d4 d5
      go_wp2_with fail
      ((with_reducible refine q2.mono ?_); rintro e w7 ⟨rfl, b7⟩)
      replace hb := bch hb b7
      go_wp2_with fail
      go_ret
      exact ⟨rfl, hb⟩
end Go.Proofs.Ytkcmjhpbjgjebaa
