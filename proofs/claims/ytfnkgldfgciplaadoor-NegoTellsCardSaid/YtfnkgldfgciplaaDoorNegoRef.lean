import Derived.Test.YtfnkgldfgciplaaDoorNegoSix
import Derived.Test.YtfnkgldfgciplaaDoorGMath
/-
  The contracts of the document's own Right, Of and Agree of hellos (stage 9).
-/
namespace Go.Proofs.YtfnkgldfgciplaaDoor
open Go.RowKit
set_option linter.unusedVariables false
set_option linter.unusedSimpArgs false

set_option maxRecDepth 100000 in
set_option maxHeartbeats 2000000 in
theorem refright9_any (m : Hl) (w : World) : Calls Tryd.prog 13 #[.agg #[.int .i64 m.low, .int .i64 m.high, .int .i64 m.feat]] w fun e w' => e = .returned (.bool (rightH m)) ∧ Below w.heap.size w w' := by
  obtain ⟨l, u, f⟩ := m
  simp only
  have hc := (HlBlk.new w ⟨l, u, f⟩).cells
  simp only at hc
  obtain ⟨c0, c1, c2⟩ := hc
  by_cases h0 : 1 ≤ l
  rotate_left
  · have E : Hid (rightH ⟨l, u, f⟩ = false) := rightH_no (fun h => by have := (rH _ _ _).1 h; omega)
    go_enter Tryd.func13, Tryd.ntmps13
    go_wp2_with fail
    go_ret
    exact ⟨ret_bool E.out.symm, (Below.refl _ _).alloc (Nat.le_refl _) _⟩
  by_cases h1 : l ≤ u
  rotate_left
  · have E : Hid (rightH ⟨l, u, f⟩ = false) := rightH_no (fun h => by have := (rH _ _ _).1 h; omega)
    go_enter Tryd.func13, Tryd.ntmps13
    go_wp2_with fail
    go_ret
    exact ⟨ret_bool E.out.symm, (Below.refl _ _).alloc (Nat.le_refl _) _⟩
  by_cases h2 : u ≤ 2
  rotate_left
  · have E : Hid (rightH ⟨l, u, f⟩ = false) := rightH_no (fun h => by have := (rH _ _ _).1 h; omega)
    go_enter Tryd.func13, Tryd.ntmps13
    go_wp2_with fail
    go_ret
    exact ⟨ret_bool E.out.symm, (Below.refl _ _).alloc (Nat.le_refl _) _⟩
  by_cases h3 : 0 ≤ f
  rotate_left
  · have E : Hid (rightH ⟨l, u, f⟩ = false) := rightH_no (fun h => by have := (rH _ _ _).1 h; omega)
    go_enter Tryd.func13, Tryd.ntmps13
    go_wp2_with fail
    go_ret
    exact ⟨ret_bool E.out.symm, (Below.refl _ _).alloc (Nat.le_refl _) _⟩
  by_cases h4 : f ≤ 1048575
  rotate_left
  · have E : Hid (rightH ⟨l, u, f⟩ = false) := rightH_no (fun h => by have := (rH _ _ _).1 h; omega)
    go_enter Tryd.func13, Tryd.ntmps13
    go_wp2_with fail
    go_ret
    exact ⟨ret_bool E.out.symm, (Below.refl _ _).alloc (Nat.le_refl _) _⟩
  have E : Hid (rightH ⟨l, u, f⟩ = true) := rightH_iff.2 ((rH _ _ _).2 (by omega))
  go_enter Tryd.func13, Tryd.ntmps13
  go_wp2_with fail
  go_ret
  exact ⟨ret_bool E.out.symm, (Below.refl _ _).alloc (Nat.le_refl _) _⟩

set_option maxRecDepth 100000 in
set_option maxHeartbeats 2000000 in
theorem refof9_any (b l : Int) (w : World) : Calls Tryd.prog 15 #[.int .i64 b, .int .i64 l] w fun e w' => e = .returned (hlV (ofH b l)) ∧ Below w.heap.size w w' := by
  have hb0 : Below w.heap.size w (w.alloc (.cells #[.int .i64 0, .int .i64 0, .int .i64 0] 23)) := (Below.refl _ _).alloc (Nat.le_refl _) _
  have hx0 := HlBlk.new w ⟨0, 0, 0⟩
  simp only at hx0
  obtain ⟨W0, hW0⟩ : ∃ W, w.alloc (.cells #[.int .i64 0, .int .i64 0, .int .i64 0] 23) = W := ⟨_, rfl⟩
  rw [hW0] at hb0 hx0
  obtain ⟨x0, x1, x2⟩ := hx0.cells
  simp only at x0 x1 x2
  have f0 := hx0.frozen 0
  have f1 := hx0.frozen 1
  have f2 := hx0.frozen 2
  have HX := Lib.hid hx0; clear hx0
  have HB := Lib.hid hb0; clear hb0
  by_cases h1 : b = 1
  · have m1 : (b == 1) = true := by simpa using h1
    have E : Hid (⟨1, 1, 7⟩ = ofH b l) := by show _ = _; unfold ofH; rw [if_pos h1]
    clear h1
    go_enter Tryd.func15, Tryd.ntmps15
    go_wp2_with fail
    have hfin := HX.out.put ⟨1, 1, 7⟩
    have hbf := ((HB.out.setCell (p := ⟨w.heap.size, 0, none⟩) (Nat.le_refl _) (.int .i64 1)).setCell (p := ⟨w.heap.size, 1, none⟩) (Nat.le_refl _) (.int .i64 1)).setCell (p := ⟨w.heap.size, 2, none⟩) (Nat.le_refl _) (.int .i64 7)
    obtain ⟨e0, e1, e2⟩ := hfin.cells
    simp only at e0 e1 e2
    refine bodyPost_ret (v := hlV (ofH b l)) (by rw [← E.out]; simp [hlV, results, Tryd.results15, go_sem, e0, e1, e2]) rfl ⟨rfl, hbf⟩
  · have m1 : (b == 1) = false := by simpa using h1
    by_cases h2 : b = 2
    · have m2 : (b == 2) = true := by simpa using h2
      by_cases h3 : l = 2
      · have m3 : (l == 2) = true := by simpa using h3
        have E : Hid (⟨2, 2, 1048575⟩ = ofH b l) := by show _ = _; unfold ofH; rw [if_neg h1, if_pos h2, if_pos h3]
        clear h1 h2 h3
        go_enter Tryd.func15, Tryd.ntmps15
        go_wp2_with fail
        have hfin := HX.out.put ⟨2, 2, 1048575⟩
        have hbf := ((HB.out.setCell (p := ⟨w.heap.size, 0, none⟩) (Nat.le_refl _) (.int .i64 2)).setCell (p := ⟨w.heap.size, 1, none⟩) (Nat.le_refl _) (.int .i64 2)).setCell (p := ⟨w.heap.size, 2, none⟩) (Nat.le_refl _) (.int .i64 1048575)
        obtain ⟨e0, e1, e2⟩ := hfin.cells
        simp only at e0 e1 e2
        refine bodyPost_ret (v := hlV (ofH b l)) (by rw [← E.out]; simp [hlV, results, Tryd.results15, go_sem, e0, e1, e2]) rfl ⟨rfl, hbf⟩
      · have m3 : (l == 2) = false := by simpa using h3
        have E : Hid (⟨1, 2, 1048575⟩ = ofH b l) := by show _ = _; unfold ofH; rw [if_neg h1, if_pos h2, if_neg h3]
        clear h1 h2 h3
        go_enter Tryd.func15, Tryd.ntmps15
        go_wp2_with fail
        have hfin := HX.out.put ⟨1, 2, 1048575⟩
        have hbf := ((HB.out.setCell (p := ⟨w.heap.size, 0, none⟩) (Nat.le_refl _) (.int .i64 1)).setCell (p := ⟨w.heap.size, 1, none⟩) (Nat.le_refl _) (.int .i64 2)).setCell (p := ⟨w.heap.size, 2, none⟩) (Nat.le_refl _) (.int .i64 1048575)
        obtain ⟨e0, e1, e2⟩ := hfin.cells
        simp only at e0 e1 e2
        refine bodyPost_ret (v := hlV (ofH b l)) (by rw [← E.out]; simp [hlV, results, Tryd.results15, go_sem, e0, e1, e2]) rfl ⟨rfl, hbf⟩
    · have m2 : (b == 2) = false := by simpa using h2
      have E : Hid (⟨0, 0, 0⟩ = ofH b l) := by show _ = _; unfold ofH; rw [if_neg h1, if_neg h2]
      clear h1 h2
      go_enter Tryd.func15, Tryd.ntmps15
      go_wp2_with fail
      have hfin := HX.out.put ⟨0, 0, 0⟩
      have hbf := ((HB.out.setCell (p := ⟨w.heap.size, 0, none⟩) (Nat.le_refl _) (.int .i64 0)).setCell (p := ⟨w.heap.size, 1, none⟩) (Nat.le_refl _) (.int .i64 0)).setCell (p := ⟨w.heap.size, 2, none⟩) (Nat.le_refl _) (.int .i64 0)
      obtain ⟨e0, e1, e2⟩ := hfin.cells
      simp only at e0 e1 e2
      refine bodyPost_ret (v := hlV (ofH b l)) (by rw [← E.out]; simp [hlV, results, Tryd.results15, go_sem, e0, e1, e2]) rfl ⟨rfl, hbf⟩

/-- Does a hello know a version? -/
def knB (m : Hl) (v : Int) : Bool := decide (m.low ≤ v) && decide (v ≤ m.high)
set_option maxRecDepth 100000 in
set_option maxHeartbeats 2000000 in
theorem refknows9_any (m : Hl) (v : Int) (w : World) : Calls Tryd.prog 18 #[.agg #[.int .i64 m.low, .int .i64 m.high, .int .i64 m.feat], .int .i64 v] w fun e w' => e = .returned (.bool (knB m v)) ∧ Below w.heap.size w w' := by
  obtain ⟨l, u, f⟩ := m
  simp only
  have hc := (HlBlk.new w ⟨l, u, f⟩).cells
  simp only at hc
  obtain ⟨c0, c1, c2⟩ := hc
  by_cases h1 : l ≤ v
  · by_cases h2 : v ≤ u
    · have E : Hid (knB ⟨l, u, f⟩ v = true) := by unfold knB; simp [Hid, h1, h2]
      go_enter Tryd.func18, Tryd.ntmps18
      go_wp2_with fail
      go_ret
      exact ⟨ret_bool E.out.symm, (Below.refl _ _).alloc (Nat.le_refl _) _⟩
    · have E : Hid (knB ⟨l, u, f⟩ v = false) := by unfold knB; simp [Hid, h1, h2]
      go_enter Tryd.func18, Tryd.ntmps18
      go_wp2_with fail
      go_ret
      exact ⟨ret_bool E.out.symm, (Below.refl _ _).alloc (Nat.le_refl _) _⟩
  · have E : Hid (knB ⟨l, u, f⟩ v = false) := by unfold knB; simp [Hid, h1]
    go_enter Tryd.func18, Tryd.ntmps18
    go_wp2_with fail
    go_ret
    exact ⟨ret_bool E.out.symm, (Below.refl _ _).alloc (Nat.le_refl _) _⟩

theorem kn2 {m : Hl} (h : RightH m) : knB m 2 = (m.high == 2) := by
  obtain ⟨h1, h2, h3, _⟩ := h
  unfold knB
  rw [decide_eq_true (by omega : m.low ≤ 2), Bool.true_and]
  by_cases hh : m.high = 2
  · rw [hh]; rfl
  · rw [decide_eq_false (by omega)]; simp [hh]
theorem kn1 {m : Hl} (h : RightH m) : knB m 1 = (m.low == 1) := by
  obtain ⟨h1, h2, h3, _⟩ := h
  unfold knB
  rw [decide_eq_true (by omega : (1 : Int) ≤ m.high), Bool.and_true]
  by_cases hh : m.low = 1
  · rw [hh]; rfl
  · rw [decide_eq_false (by omega)]; simp [hh]
set_option maxRecDepth 100000 in
set_option maxHeartbeats 4000000 in
theorem refagree9_any (a b : Hl) (w : World) : Calls Tryd.prog 11 #[.agg #[.int .i64 a.low, .int .i64 a.high, .int .i64 a.feat], .agg #[.int .i64 b.low, .int .i64 b.high, .int .i64 b.feat]] w fun e w' => e = .returned (.tuple #[.agg #[.int .i64 (agH a b).1, .int .i64 (agH a b).2.1], .int .i64 (agH a b).2.2]) ∧ Below w.heap.size w w' := by
  have qa := fun W => refright9_any a W
  have qb := fun W => refright9_any b W
  have hb0 : Below w.heap.size w (((w.alloc (.cells #[.int .i64 a.low, .int .i64 a.high, .int .i64 a.feat] 23)).alloc (.cells #[.int .i64 b.low, .int .i64 b.high, .int .i64 b.feat] 23)).alloc (.cells #[.int .i64 0, .int .i64 0] 30)) := (((Below.refl _ _).alloc (Nat.le_refl _) _).alloc (by simp) _).alloc (by simp; omega) _
  have hp0 : HlBlk (((w.alloc (.cells #[.int .i64 a.low, .int .i64 a.high, .int .i64 a.feat] 23)).alloc (.cells #[.int .i64 b.low, .int .i64 b.high, .int .i64 b.feat] 23)).alloc (.cells #[.int .i64 0, .int .i64 0] 30)) w.heap.size a := ((HlBlk.new w a).below ((Below.refl _ _).alloc (Nat.le_refl _) _)).below ((Below.refl _ _).alloc (Nat.le_refl _) _)
  have hq0 : HlBlk (((w.alloc (.cells #[.int .i64 a.low, .int .i64 a.high, .int .i64 a.feat] 23)).alloc (.cells #[.int .i64 b.low, .int .i64 b.high, .int .i64 b.feat] 23)).alloc (.cells #[.int .i64 0, .int .i64 0] 30)) (w.heap.size + 1) b := by
    have h := HlBlk.new (w.alloc (.cells #[.int .i64 a.low, .int .i64 a.high, .int .i64 a.feat] 23)) b
    rw [World.size_alloc] at h
    exact h.below ((Below.refl _ _).alloc (Nat.le_refl _) _)
  have hd0 : DlBlk (((w.alloc (.cells #[.int .i64 a.low, .int .i64 a.high, .int .i64 a.feat] 23)).alloc (.cells #[.int .i64 b.low, .int .i64 b.high, .int .i64 b.feat] 23)).alloc (.cells #[.int .i64 0, .int .i64 0] 30)) (w.heap.size + 2) 0 0 := by
    have h := DlBlk.new ((w.alloc (.cells #[.int .i64 a.low, .int .i64 a.high, .int .i64 a.feat] 23)).alloc (.cells #[.int .i64 b.low, .int .i64 b.high, .int .i64 b.feat] 23)) 0 0
    rw [World.size_alloc, World.size_alloc] at h
    exact h
  obtain ⟨W0, hW0⟩ : ∃ W, ((w.alloc (.cells #[.int .i64 a.low, .int .i64 a.high, .int .i64 a.feat] 23)).alloc (.cells #[.int .i64 b.low, .int .i64 b.high, .int .i64 b.feat] 23)).alloc (.cells #[.int .i64 0, .int .i64 0] 30) = W := ⟨_, rfl⟩
  rw [hW0] at hb0 hp0 hq0 hd0
  have HB0 := Lib.hid hb0; clear hb0
  have HP0 := Lib.hid hp0; clear hp0
  have HQ0 := Lib.hid hq0; clear hq0
  have HD0 := Lib.hid hd0; clear hd0
  obtain ⟨p0, p1, p2⟩ := HP0.out.cells
  cases hra : rightH a with
  | false =>
    rw [hra] at qa
    have hno : agH a b = (0, 0, 1) := ag_no (fun h => by rw [rightH_iff.2 h.1] at hra; cases hra)
    rw [hno]
    clear hra hno qb
    go_enter Tryd.func11, Tryd.ntmps11
    go_wp2_with fail
    ((with_reducible refine (qa _).mono ?_); rintro e W1 ⟨rfl, b1⟩)
    clear p0 p1 p2
    have hd1 := HD0.out.below b1
    have HB1 := Lib.hid (bch HB0.out b1)
    obtain ⟨d0, d1⟩ := hd1.cells
    have f0 := hd1.frozen 0
    have f1 := hd1.frozen 1
    have HD1 := Lib.hid hd1; clear hd1 b1 hW0
    go_wp2_with fail
    have hfin := HD1.out.put 0 0
    have hbf := (HB1.out.setCell (p := ⟨w.heap.size + 2, 0, none⟩) (by show w.heap.size ≤ w.heap.size + 2; omega) (.int .i64 (0 : Int))).setCell (p := ⟨w.heap.size + 2, 1, none⟩) (by show w.heap.size ≤ w.heap.size + 2; omega) (.int .i64 (0 : Int))
    obtain ⟨e0, e1⟩ := hfin.cells
    refine bodyPost_ret (v := .tuple #[.agg #[.int .i64 (0 : Nat), .int .i64 (0 : Nat)], .int .i64 (1 : Nat)]) (by simp [results, Tryd.results11, go_sem, e0, e1]) rfl ⟨rfl, hbf⟩
  | true =>
    rw [hra] at qa
    cases hrb : rightH b with
    | false =>
      rw [hrb] at qb
      have hno : agH a b = (0, 0, 1) := ag_no (fun h => by rw [rightH_iff.2 h.2] at hrb; cases hrb)
      rw [hno]
      clear hra hrb hno
      go_enter Tryd.func11, Tryd.ntmps11
      go_wp2_with fail
      ((with_reducible refine (qa _).mono ?_); rintro e W1 ⟨rfl, b1⟩)
      clear p0 p1 p2
      obtain ⟨q0, q1, q2⟩ := (HQ0.out.below b1).cells
      have H_b1 := Lib.hid b1; clear b1
      go_wp2_with fail
      ((with_reducible refine (qb _).mono ?_); rintro e W2 ⟨rfl, b2⟩)
      clear q0 q1 q2
      have hd1 := (HD0.out.below H_b1.out).below b2
      have HB1 := Lib.hid (bch (bch HB0.out H_b1.out) b2)
      obtain ⟨d0, d1⟩ := hd1.cells
      have f0 := hd1.frozen 0
      have f1 := hd1.frozen 1
      have HD1 := Lib.hid hd1; clear hd1 b2 hW0
      go_wp2_with fail
      have hfin := HD1.out.put 0 0
      have hbf := (HB1.out.setCell (p := ⟨w.heap.size + 2, 0, none⟩) (by show w.heap.size ≤ w.heap.size + 2; omega) (.int .i64 (0 : Int))).setCell (p := ⟨w.heap.size + 2, 1, none⟩) (by show w.heap.size ≤ w.heap.size + 2; omega) (.int .i64 (0 : Int))
      obtain ⟨e0, e1⟩ := hfin.cells
      refine bodyPost_ret (v := .tuple #[.agg #[.int .i64 (0 : Nat), .int .i64 (0 : Nat)], .int .i64 (1 : Nat)]) (by simp [results, Tryd.results11, go_sem, e0, e1]) rfl ⟨rfl, hbf⟩
    | true =>
      rw [hrb] at qb
      have ra := rightH_iff.1 hra
      have rb := rightH_iff.1 hrb
      have hc := ag_cases ra rb
      have ka := kn2 ra
      have kb := kn2 rb
      have ja := kn1 ra
      have jb := kn1 rb
      have k2a := fun W => refknows9_any a 2 W
      have k2b := fun W => refknows9_any b 2 W
      have k1a := fun W => refknows9_any a 1 W
      have k1b := fun W => refknows9_any b 1 W
      rw [ka] at k2a
      rw [kb] at k2b
      rw [ja] at k1a
      rw [jb] at k1b
      clear ka kb ja jb hra hrb
      have hand : bits .and .i64 a.feat b.feat = (featB a b : Int) := by
        have h := i64_bandN a.feat.toNat b.feat.toNat (feat_lt ra) (feat_lt rb)
        rw [show ((a.feat.toNat : Nat) : Int) = a.feat from by have := ra.2.2.2.1; omega, show ((b.feat.toNat : Nat) : Int) = b.feat from by have := rb.2.2.2.1; omega] at h
        exact h
      have hlt := featB_lt (b := b) ra
      have hm1 : (featB a b : Int) % 8 = ((featB a b % 8 : Nat) : Int) := by omega
      have hm2 : (featB a b : Int).tmod 8 = ((featB a b % 8 : Nat) : Int) := by rw [Int.tmod_eq_emod_of_nonneg (by omega)]; exact hm1
      obtain ⟨R, hR⟩ : ∃ R, agH a b = R := ⟨_, rfl⟩
      rw [hR] at hc ⊢
      clear hR ra rb
      generalize featB a b % 8 = G at *
      generalize featB a b = F at *
      have HC := Lib.hid hc; clear hc
      go_enter Tryd.func11, Tryd.ntmps11
      go_wp2_with fail
      ((with_reducible refine (qa _).mono ?_); rintro e W1 ⟨rfl, b1⟩)
      clear p0 p1 p2 hW0
      obtain ⟨q0, q1, q2⟩ := (HQ0.out.below b1).cells
      have H_b1 := Lib.hid b1; clear b1
      go_wp2_with fail
      ((with_reducible refine (qb _).mono ?_); rintro e W2 ⟨rfl, b2⟩)
      clear q0 q1 q2 qa qb
      have HD2 := Lib.hid ((HD0.out.below H_b1.out).below b2)
      have HP2 := Lib.hid ((HP0.out.below H_b1.out).below b2)
      have HQ2 := Lib.hid ((HQ0.out.below H_b1.out).below b2)
      have HB2 := Lib.hid (bch (bch HB0.out H_b1.out) b2)
      clear b2 H_b1 HD0 HP0 HQ0 HB0
      go_wp2_with fail
      go_loopw [6] (fun i wy => ∃ (k : Nat) (wq : World), wq = wy ∧ k ≤ 2 ∧ i = .int .i64 k ∧ (k ≤ 1 → ¬ (a.high = 2 ∧ b.high = 2)) ∧ (k = 0 → ¬ (a.low = 1 ∧ b.low = 1)) ∧ Below W2.heap.size W2 wq) (fun i _ => (intOf i).toNat)
      case atStart => exact ⟨2, _, rfl, by omega, rfl, by omega, by omega, Below.refl _ _⟩
      case round =>
        obtain ⟨k, wq, rfl, hk, rfl, hn2, hn1, hbq⟩ := hrel
        obtain ⟨p0, p1, p2⟩ := (HP2.out.below hbq).cells
        have HN2 := Lib.hid hn2; clear hn2
        have HN1 := Lib.hid hn1; clear hn1
        have HBQ := Lib.hid hbq; clear hbq
        rcases (by omega : k = 0 ∨ k = 1 ∨ k = 2) with rfl | rfl | rfl
        · have hR : R = (0, 0, 22) := by
            rcases HC.out with ⟨e, y1, y2⟩ | ⟨e, y1, y2, y3⟩ | ⟨e, _⟩
            · exact absurd ⟨y1, y2⟩ (HN2.out (by omega))
            · exact absurd ⟨y2, y3⟩ (HN1.out rfl)
            · exact e
          subst hR
          clear p0 p1 p2
          have hd1 := HD2.out.below HBQ.out
          have HB1 := Lib.hid (bch HB2.out HBQ.out)
          obtain ⟨d0, d1⟩ := hd1.cells
          have f0 := hd1.frozen 0
          have f1 := hd1.frozen 1
          have HD1 := Lib.hid hd1; clear hd1
          go_wp2_with fail
          have hfin := HD1.out.put 0 0
          have hbf := (HB1.out.setCell (p := ⟨w.heap.size + 2, 0, none⟩) (by show w.heap.size ≤ w.heap.size + 2; omega) (.int .i64 (0 : Int))).setCell (p := ⟨w.heap.size + 2, 1, none⟩) (by show w.heap.size ≤ w.heap.size + 2; omega) (.int .i64 (0 : Int))
          obtain ⟨e0, e1⟩ := hfin.cells
          refine bodyPost_ret (v := .tuple #[.agg #[.int .i64 (0 : Nat), .int .i64 (0 : Nat)], .int .i64 (22 : Nat)]) (by simp [results, Tryd.results11, go_sem, e0, e1]) rfl ⟨rfl, hbf⟩
        · by_cases ha : a.low = 1
          · have ea : (a.low == 1) = true := by simpa using ha
            by_cases hb : b.low = 1
            · have eb : (b.low == 1) = true := by simpa using hb
              have hR : R = (1, G, 0) := by
                rcases HC.out with ⟨e, y1, y2⟩ | ⟨e, y1, y2, y3⟩ | ⟨e, y1, y2⟩
                · exact absurd ⟨y1, y2⟩ (HN2.out (by omega))
                · exact e
                · exact absurd ⟨ha, hb⟩ y2
              subst hR
              have HAB : Hid (a.low = 1 ∧ b.low = 1) := ⟨ha, hb⟩
              clear ha hb
              go_wp2_with fail
              ((with_reducible refine (k1a _).mono ?_); rintro e X1 ⟨rfl, x1⟩)
              clear p0 p1 p2
              obtain ⟨q0, q1, q2⟩ := ((HQ2.out.below HBQ.out).below x1).cells
              have HX1 := Lib.hid x1; clear x1
              go_wp2_with fail
              ((with_reducible refine (k1b _).mono ?_); rintro e X2 ⟨rfl, x2⟩)
              clear q0 q1 q2
              obtain ⟨p0, p1, p2⟩ := (((HP2.out.below HBQ.out).below HX1.out).below x2).cells
              obtain ⟨q0, q1, q2⟩ := (((HQ2.out.below HBQ.out).below HX1.out).below x2).cells
              have hd1 := ((HD2.out.below HBQ.out).below HX1.out).below x2
              have HB1 := Lib.hid (bch (bch (bch HB2.out HBQ.out) HX1.out) x2)
              obtain ⟨d0, d1⟩ := hd1.cells
              have f0 := hd1.frozen 0
              have f1 := hd1.frozen 1
              have HD1 := Lib.hid hd1; clear hd1 x2
              go_wp2_with fail
              have hfin := HD1.out.put 1 G
              have hbf := (HB1.out.setCell (p := ⟨w.heap.size + 2, 0, none⟩) (by show w.heap.size ≤ w.heap.size + 2; omega) (.int .i64 (1 : Int))).setCell (p := ⟨w.heap.size + 2, 1, none⟩) (by show w.heap.size ≤ w.heap.size + 2; omega) (.int .i64 (G : Int))
              obtain ⟨e0, e1⟩ := hfin.cells
              refine bodyPost_ret (v := .tuple #[.agg #[.int .i64 (1 : Nat), .int .i64 (G : Nat)], .int .i64 (0 : Nat)]) (by simp [results, Tryd.results11, go_sem, e0, e1]) rfl ⟨rfl, hbf⟩
            · have eb : (b.low == 1) = false := by simpa using hb
              have HAB : Hid (¬ (a.low = 1 ∧ b.low = 1)) := fun h => hb h.2
              clear ha hb
              go_wp2_with fail
              ((with_reducible refine (k1a _).mono ?_); rintro e X1 ⟨rfl, x1⟩)
              clear p0 p1 p2
              obtain ⟨q0, q1, q2⟩ := ((HQ2.out.below HBQ.out).below x1).cells
              have HX1 := Lib.hid x1; clear x1
              go_wp2_with fail
              ((with_reducible refine (k1b _).mono ?_); rintro e X2 ⟨rfl, x2⟩)
              clear q0 q1 q2
              have HX2 := Lib.hid x2; clear x2
              go_wp2_with fail
              go_roundw
              case rel => exact ⟨0, _, rfl, by omega, rfl, fun _ => HN2.out (by omega), fun _ => HAB.out, bch (bch HBQ.out HX1.out) HX2.out⟩
              case measure => simp [intOf]
          · have ea : (a.low == 1) = false := by simpa using ha
            have HAB : Hid (¬ (a.low = 1 ∧ b.low = 1)) := fun h => ha h.1
            clear ha
            go_wp2_with fail
            ((with_reducible refine (k1a _).mono ?_); rintro e X1 ⟨rfl, x1⟩)
            clear p0 p1 p2
            have HX1 := Lib.hid x1; clear x1
            go_wp2_with fail
            go_roundw
            case rel => exact ⟨0, _, rfl, by omega, rfl, fun _ => HN2.out (by omega), fun _ => HAB.out, bch HBQ.out HX1.out⟩
            case measure => simp [intOf]
        · by_cases ha : a.high = 2
          · have ea : (a.high == 2) = true := by simpa using ha
            by_cases hb : b.high = 2
            · have eb : (b.high == 2) = true := by simpa using hb
              have hR : R = (2, F, 0) := by
                rcases HC.out with ⟨e, y1, y2⟩ | ⟨e, y1, y2, y3⟩ | ⟨e, y1, y2⟩
                · exact e
                · exact absurd ⟨ha, hb⟩ y1
                · exact absurd ⟨ha, hb⟩ y1
              subst hR
              have HAB : Hid (a.high = 2 ∧ b.high = 2) := ⟨ha, hb⟩
              clear ha hb
              go_wp2_with fail
              ((with_reducible refine (k2a _).mono ?_); rintro e X1 ⟨rfl, x1⟩)
              clear p0 p1 p2
              obtain ⟨q0, q1, q2⟩ := ((HQ2.out.below HBQ.out).below x1).cells
              have HX1 := Lib.hid x1; clear x1
              go_wp2_with fail
              ((with_reducible refine (k2b _).mono ?_); rintro e X2 ⟨rfl, x2⟩)
              clear q0 q1 q2
              obtain ⟨p0, p1, p2⟩ := (((HP2.out.below HBQ.out).below HX1.out).below x2).cells
              obtain ⟨q0, q1, q2⟩ := (((HQ2.out.below HBQ.out).below HX1.out).below x2).cells
              have hd1 := ((HD2.out.below HBQ.out).below HX1.out).below x2
              have HB1 := Lib.hid (bch (bch (bch HB2.out HBQ.out) HX1.out) x2)
              obtain ⟨d0, d1⟩ := hd1.cells
              have f0 := hd1.frozen 0
              have f1 := hd1.frozen 1
              have HD1 := Lib.hid hd1; clear hd1 x2
              go_wp2_with fail
              have hfin := HD1.out.put 2 F
              have hbf := (HB1.out.setCell (p := ⟨w.heap.size + 2, 0, none⟩) (by show w.heap.size ≤ w.heap.size + 2; omega) (.int .i64 (2 : Int))).setCell (p := ⟨w.heap.size + 2, 1, none⟩) (by show w.heap.size ≤ w.heap.size + 2; omega) (.int .i64 (F : Int))
              obtain ⟨e0, e1⟩ := hfin.cells
              refine bodyPost_ret (v := .tuple #[.agg #[.int .i64 (2 : Nat), .int .i64 (F : Nat)], .int .i64 (0 : Nat)]) (by simp [results, Tryd.results11, go_sem, e0, e1]) rfl ⟨rfl, hbf⟩
            · have eb : (b.high == 2) = false := by simpa using hb
              have HAB : Hid (¬ (a.high = 2 ∧ b.high = 2)) := fun h => hb h.2
              clear ha hb
              go_wp2_with fail
              ((with_reducible refine (k2a _).mono ?_); rintro e X1 ⟨rfl, x1⟩)
              clear p0 p1 p2
              obtain ⟨q0, q1, q2⟩ := ((HQ2.out.below HBQ.out).below x1).cells
              have HX1 := Lib.hid x1; clear x1
              go_wp2_with fail
              ((with_reducible refine (k2b _).mono ?_); rintro e X2 ⟨rfl, x2⟩)
              clear q0 q1 q2
              have HX2 := Lib.hid x2; clear x2
              go_wp2_with fail
              go_roundw
              case rel => exact ⟨1, _, rfl, by omega, rfl, fun _ => HAB.out, by omega, bch (bch HBQ.out HX1.out) HX2.out⟩
              case measure => simp [intOf]
          · have ea : (a.high == 2) = false := by simpa using ha
            have HAB : Hid (¬ (a.high = 2 ∧ b.high = 2)) := fun h => ha h.1
            clear ha
            go_wp2_with fail
            ((with_reducible refine (k2a _).mono ?_); rintro e X1 ⟨rfl, x1⟩)
            clear p0 p1 p2
            have HX1 := Lib.hid x1; clear x1
            go_wp2_with fail
            go_roundw
            case rel => exact ⟨1, _, rfl, by omega, rfl, fun _ => HAB.out, by omega, bch HBQ.out HX1.out⟩
            case measure => simp [intOf]
end Go.Proofs.YtfnkgldfgciplaaDoor
