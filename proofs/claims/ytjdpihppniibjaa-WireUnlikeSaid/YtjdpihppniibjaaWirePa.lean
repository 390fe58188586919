import Derived.Test.YtjdpihppniibjaaWire
import Derived.Test.YtjdpihppniibjaaGPick
/-
  The contracts of the program's own small functions of messages (stage 8): isNumber, lastTag, rightBy, Right.
-/
namespace Go.Proofs.Ytjdpihppniibjaa
open Go.RowKit
set_option linter.unusedVariables false

set_option maxRecDepth 100000 in
set_option maxHeartbeats 1000000 in
theorem isNumber_any (n : Int) (w : World) : Calls Try.prog 22 #[.int .i64 n] w fun e w' => e = .returned (.bool (fitB n)) ∧ w = w' := by
  by_cases h1 : 0 ≤ n
  · by_cases h2 : n ≤ 9007199254740992
    · have E : Hid (fitB n = true) := fitB_iff.2 ⟨h1, h2⟩
      go_enter Try.func22, Try.ntmps22
      go_wp2_with fail
      go_ret
      exact ⟨ret_bool E.out.symm, rfl⟩
    · have E : Hid (fitB n = false) := by show _ = _; rw [Bool.eq_false_iff]; intro h; have := fitB_iff.1 h; omega
      go_enter Try.func22, Try.ntmps22
      go_wp2_with fail
      go_ret
      exact ⟨ret_bool E.out.symm, rfl⟩
  · have E : Hid (fitB n = false) := by show _ = _; rw [Bool.eq_false_iff]; intro h; have := fitB_iff.1 h; omega
    go_enter Try.func22, Try.ntmps22
    go_wp2_with fail
    go_ret
    exact ⟨ret_bool E.out.symm, rfl⟩

/-- The last tag that a version knows. -/
def lastTg (v : Int) : Int := if v = 1 then 5 else if v = 2 then 6 else 0
set_option maxRecDepth 100000 in
set_option maxHeartbeats 1000000 in
theorem lastTag_any (v : Int) (w : World) : Calls Try.prog 24 #[.int .i64 v] w fun e w' => e = .returned (.int .i64 (lastTg v)) ∧ w = w' := by
  by_cases h1 : v = 1
  · subst h1
    go_enter Try.func24, Try.ntmps24
    go_wp2_with fail
    go_ret
    exact ⟨ret_int rfl, rfl⟩
  by_cases h2 : v = 2
  · subst h2
    go_enter Try.func24, Try.ntmps24
    go_wp2_with fail
    go_ret
    exact ⟨ret_int rfl, rfl⟩
  · have E : Hid (lastTg v = 0) := by show _ = _; unfold lastTg; rw [if_neg h1, if_neg h2]
    have e1 : (v == 1) = false := by simpa using h1
    have e2 : (v == 2) = false := by simpa using h2
    clear h1 h2
    go_enter Try.func24, Try.ntmps24
    go_wp2_with fail
    go_ret
    exact ⟨ret_int E.out.symm, rfl⟩

/-- May that be in which the versions differ? -/
def byB (v : Int) (m : Mg) : Bool := if v = 1 then decide (m.kind ≤ 9) && decide (m.trace = 0) else if v = 2 then decide (m.kind ≤ 20) && fitB m.trace else false
set_option maxRecDepth 100000 in
set_option maxHeartbeats 2000000 in
theorem rightBy_any (v : Int) (m : Mg) (w : World) : Calls Try.prog 21 #[.int .i64 v, mgV m] w fun e w' => e = .returned (.bool (byB v m)) ∧ Below w.heap.size w w' := by
  have hb0 : Below w.heap.size w (w.alloc (.cells #[.int .i64 m.kind, .int .i64 m.frm, .int .i64 m.to, .int .i64 m.seq, .string m.body, .int .i64 m.trace] 23)) := (Below.refl _ _).alloc (Nat.le_refl _) _
  obtain ⟨c0, c1, c2, c3, c4, c5⟩ := (MgBlk.new w m).cells
  have q := isNumber_any m.trace
  obtain ⟨R, hR⟩ : ∃ R, byB v m = R := ⟨_, rfl⟩
  rw [hR]
  unfold byB at hR
  unfold mgV
  by_cases h1 : v = 1
  · subst h1
    rw [if_pos rfl] at hR
    by_cases h2 : m.kind ≤ 9
    · by_cases h3 : m.trace = 0
      · have E : Hid (R = true) := by show _ = _; rw [← hR]; simp [h2, h3]
        rw [h3] at hb0 c5 ⊢
        clear hR q
        go_enter Try.func21, Try.ntmps21
        go_wp2_with fail
        go_ret
        exact ⟨ret_bool E.out.symm, hb0⟩
      · have E : Hid (R = false) := by show _ = _; rw [← hR]; simp [h3]
        have e3 : (m.trace == 0) = false := by simpa using h3
        clear hR q h3
        go_enter Try.func21, Try.ntmps21
        go_wp2_with fail
        go_ret
        exact ⟨ret_bool E.out.symm, hb0⟩
    · have E : Hid (R = false) := by show _ = _; rw [← hR]; simp [h2]
      clear hR q
      go_enter Try.func21, Try.ntmps21
      go_wp2_with fail
      go_ret
      exact ⟨ret_bool E.out.symm, hb0⟩
  rw [if_neg h1] at hR
  have e1 : (v == 1) = false := by simpa using h1
  by_cases h2 : v = 2
  · subst h2
    rw [if_pos rfl] at hR
    by_cases h2 : m.kind ≤ 20
    · have E : Hid (R = fitB m.trace) := by show _ = _; rw [← hR]; simp [h2]
      generalize fitB m.trace = F at *
      clear hR h1 e1
      go_enter Try.func21, Try.ntmps21
      go_wp2_with fail
      ((with_reducible refine (q _).mono ?_); rintro e W1 ⟨rfl, rfl⟩)
      go_wp2_with fail
      go_ret
      exact ⟨ret_bool E.out.symm, hb0⟩
    · have E : Hid (R = false) := by show _ = _; rw [← hR]; simp [h2]
      clear hR q h1 e1
      go_enter Try.func21, Try.ntmps21
      go_wp2_with fail
      go_ret
      exact ⟨ret_bool E.out.symm, hb0⟩
  · rw [if_neg h2] at hR
    have e2 : (v == 2) = false := by simpa using h2
    have E : Hid (R = false) := hR.symm
    clear hR q h1 h2
    go_enter Try.func21, Try.ntmps21
    go_wp2_with fail
    go_ret
    exact ⟨ret_bool E.out.symm, hb0⟩

theorem byB_iff {v : Int} {m : Mg} : byB v m = true ↔ (v = 1 ∧ m.kind ≤ 9 ∧ m.trace = 0) ∨ (v = 2 ∧ m.kind ≤ 20 ∧ 0 ≤ m.trace ∧ m.trace ≤ 9007199254740992) := by
  unfold byB
  split
  · rename_i h; subst h; simp
  · split
    · rename_i h; subst h; simp [fitB_iff]
    · rename_i h1 h2; simp [h1, h2]
/-- All of Right, in the order of the program. -/
theorem rightM_parts (v : Int) (m : Mg) : rightM v m = (byB v m && (decide (1 ≤ m.kind) && (fitB m.frm && (fitB m.to && (fitB m.seq && decide (m.body.size ≤ 1000)))))) := by
  have : (rightM v m = true) ↔ ((byB v m && (decide (1 ≤ m.kind) && (fitB m.frm && (fitB m.to && (fitB m.seq && decide (m.body.size ≤ 1000)))))) = true) := by
    rw [rightM_iff]
    unfold RightM
    simp only [Bool.and_eq_true, fitB_iff, byB_iff, decide_eq_true_eq]
    omega
  exact Bool.eq_iff_iff.2 this

set_option maxRecDepth 100000 in
set_option maxHeartbeats 4000000 in
theorem rightC : RightW := by
  intro v m hv hm hs w
  have hb0 : Below w.heap.size w (w.alloc (.cells #[.int .i64 m.kind, .int .i64 m.frm, .int .i64 m.to, .int .i64 m.seq, .string m.body, .int .i64 m.trace] 23)) := (Below.refl _ _).alloc (Nat.le_refl _) _
  have hm0 := MgBlk.new w m
  have q0 := rightBy_any v m
  have q2 := isNumber_any m.frm
  have q3 := isNumber_any m.to
  have q4 := isNumber_any m.seq
  have hR := rightM_parts v m
  obtain ⟨R, hR0⟩ : ∃ R, rightM v m = R := ⟨_, rfl⟩
  rw [hR0] at hR ⊢
  clear hR0 hv hm
  unfold mgV at *
  obtain ⟨W0, hW0⟩ : ∃ W, w.alloc (.cells #[.int .i64 m.kind, .int .i64 m.frm, .int .i64 m.to, .int .i64 m.seq, .string m.body, .int .i64 m.trace] 23) = W := ⟨_, rfl⟩
  rw [hW0] at hb0 hm0
  have HB0 := Lib.hid hb0; clear hb0
  have HM := Lib.hid hm0; clear hm0
  obtain ⟨c0, c1, c2, c3, c4, c5⟩ := HM.out.cells
  cases e0 : byB v m with
  | false =>
    rw [e0] at q0
    have E : Hid (R = false) := by show _ = _; rw [hR, e0]; rfl
    clear hR
    go_enter Try.func13, Try.ntmps13
    go_wp2_with fail
    ((with_reducible refine (q0 _).mono ?_); rintro e W1 ⟨rfl, b1⟩)
    clear c0 c1 c2 c3 c4 c5
    obtain ⟨c0, c1, c2, c3, c4, c5⟩ := (HM.out.below b1).cells
    have HB1 := Lib.hid (bch HB0.out b1); clear b1
    go_wp2_with fail
    go_ret
    exact ⟨ret_bool E.out.symm, HB1.out⟩
  | true =>
    rw [e0] at q0
    cases e1 : decide (1 ≤ m.kind) with
    | false =>
      have k1 : decide (1 ≤ m.kind) = false := e1
      have E : Hid (R = false) := by show _ = _; rw [hR, e0, e1]; rfl
      clear hR
      go_enter Try.func13, Try.ntmps13
      go_wp2_with fail
      ((with_reducible refine (q0 _).mono ?_); rintro e W1 ⟨rfl, b1⟩)
      clear c0 c1 c2 c3 c4 c5
      obtain ⟨c0, c1, c2, c3, c4, c5⟩ := (HM.out.below b1).cells
      have HB1 := Lib.hid (bch HB0.out b1); clear b1
      go_wp2_with fail
      go_ret
      exact ⟨ret_bool E.out.symm, HB1.out⟩
    | true =>
      have k1 : decide (1 ≤ m.kind) = true := e1
      cases e2 : fitB m.frm with
      | false =>
        rw [e2] at q2
        have E : Hid (R = false) := by show _ = _; rw [hR, e0, e1, e2]; rfl
        clear hR
        go_enter Try.func13, Try.ntmps13
        go_wp2_with fail
        ((with_reducible refine (q0 _).mono ?_); rintro e W1 ⟨rfl, b1⟩)
        clear c0 c1 c2 c3 c4 c5
        obtain ⟨c0, c1, c2, c3, c4, c5⟩ := (HM.out.below b1).cells
        have HB1 := Lib.hid (bch HB0.out b1); clear b1
        go_wp2_with fail
        ((with_reducible refine (q2 _).mono ?_); rintro e W2 ⟨rfl, rfl⟩)
        go_wp2_with fail
        go_ret
        exact ⟨ret_bool E.out.symm, HB1.out⟩
      | true =>
        rw [e2] at q2
        cases e3 : fitB m.to with
        | false =>
          rw [e3] at q3
          have E : Hid (R = false) := by show _ = _; rw [hR, e0, e1, e2, e3]; rfl
          clear hR
          go_enter Try.func13, Try.ntmps13
          go_wp2_with fail
          ((with_reducible refine (q0 _).mono ?_); rintro e W1 ⟨rfl, b1⟩)
          clear c0 c1 c2 c3 c4 c5
          obtain ⟨c0, c1, c2, c3, c4, c5⟩ := (HM.out.below b1).cells
          have HB1 := Lib.hid (bch HB0.out b1); clear b1
          go_wp2_with fail
          ((with_reducible refine (q2 _).mono ?_); rintro e W2 ⟨rfl, rfl⟩)
          go_wp2_with fail
          ((with_reducible refine (q3 _).mono ?_); rintro e W3 ⟨rfl, rfl⟩)
          go_wp2_with fail
          go_ret
          exact ⟨ret_bool E.out.symm, HB1.out⟩
        | true =>
          rw [e3] at q3
          cases e4 : fitB m.seq with
          | false =>
            rw [e4] at q4
            have E : Hid (R = false) := by show _ = _; rw [hR, e0, e1, e2, e3, e4]; rfl
            clear hR
            go_enter Try.func13, Try.ntmps13
            go_wp2_with fail
            ((with_reducible refine (q0 _).mono ?_); rintro e W1 ⟨rfl, b1⟩)
            clear c0 c1 c2 c3 c4 c5
            obtain ⟨c0, c1, c2, c3, c4, c5⟩ := (HM.out.below b1).cells
            have HB1 := Lib.hid (bch HB0.out b1); clear b1
            go_wp2_with fail
            ((with_reducible refine (q2 _).mono ?_); rintro e W2 ⟨rfl, rfl⟩)
            go_wp2_with fail
            ((with_reducible refine (q3 _).mono ?_); rintro e W3 ⟨rfl, rfl⟩)
            go_wp2_with fail
            ((with_reducible refine (q4 _).mono ?_); rintro e W4 ⟨rfl, rfl⟩)
            go_wp2_with fail
            go_ret
            exact ⟨ret_bool E.out.symm, HB1.out⟩
          | true =>
            rw [e4] at q4
            cases e5 : decide (m.body.size ≤ 1000) with
            | false =>
              have k5 : decide ((m.body.size : Int) ≤ 1000) = false := decide_eq_false (by have := of_decide_eq_false e5; omega)
              have E : Hid (R = false) := by show _ = _; rw [hR, e0, e1, e2, e3, e4, e5]; rfl
              clear hR
              go_enter Try.func13, Try.ntmps13
              go_wp2_with fail
              ((with_reducible refine (q0 _).mono ?_); rintro e W1 ⟨rfl, b1⟩)
              clear c0 c1 c2 c3 c4 c5
              obtain ⟨c0, c1, c2, c3, c4, c5⟩ := (HM.out.below b1).cells
              have HB1 := Lib.hid (bch HB0.out b1); clear b1
              go_wp2_with fail
              ((with_reducible refine (q2 _).mono ?_); rintro e W2 ⟨rfl, rfl⟩)
              go_wp2_with fail
              ((with_reducible refine (q3 _).mono ?_); rintro e W3 ⟨rfl, rfl⟩)
              go_wp2_with fail
              ((with_reducible refine (q4 _).mono ?_); rintro e W4 ⟨rfl, rfl⟩)
              go_wp2_with fail
              go_ret
              exact ⟨ret_bool E.out.symm, HB1.out⟩
            | true =>
              have k5 : decide ((m.body.size : Int) ≤ 1000) = true := decide_eq_true (by have := of_decide_eq_true e5; omega)
              have E : Hid (R = true) := by show _ = _; rw [hR, e0, e1, e2, e3, e4, e5]; rfl
              clear hR
              go_enter Try.func13, Try.ntmps13
              go_wp2_with fail
              ((with_reducible refine (q0 _).mono ?_); rintro e W1 ⟨rfl, b1⟩)
              clear c0 c1 c2 c3 c4 c5
              obtain ⟨c0, c1, c2, c3, c4, c5⟩ := (HM.out.below b1).cells
              have HB1 := Lib.hid (bch HB0.out b1); clear b1
              go_wp2_with fail
              ((with_reducible refine (q2 _).mono ?_); rintro e W2 ⟨rfl, rfl⟩)
              go_wp2_with fail
              ((with_reducible refine (q3 _).mono ?_); rintro e W3 ⟨rfl, rfl⟩)
              go_wp2_with fail
              ((with_reducible refine (q4 _).mono ?_); rintro e W4 ⟨rfl, rfl⟩)
              go_wp2_with fail
              go_ret
              exact ⟨ret_bool E.out.symm, HB1.out⟩
end Go.Proofs.Ytjdpihppniibjaa
