import Derived.Test.YtjdpihppniibjaaWire
import Derived.Test.YtjdpihppniibjaaGPick
/-
  The contracts of the document's own Right and number (stage 8).
-/
namespace Go.Proofs.Ytjdpihppniibjaa
open Go.RowKit
set_option linter.unusedVariables false

/-- The last four tests, and the Body's. -/
def restB (m : Mg) : Bool := fitB m.frm && fitB m.to && fitB m.seq && fitB m.trace && decide (m.body.size ≤ 1000)
theorem right_of {v : Int} {m : Mg} (h : (v = 1 ∧ m.kind ≤ 9 ∧ m.trace = 0 ∨ v = 2) ∧ 1 ≤ m.kind ∧ m.kind ≤ 20) : rightM v m = restB m := by
  have : (rightM v m = true) ↔ (restB m = true) := by
    rw [rightM_iff]
    unfold RightM restB
    simp only [Bool.and_eq_true, fitB_iff, decide_eq_true_eq]
    constructor
    · rintro ⟨_, _, h2, h3, h4, h6, h5⟩; exact ⟨⟨⟨⟨h2, h3⟩, h4⟩, h6⟩, h5⟩
    · rintro ⟨⟨⟨⟨h2, h3⟩, h4⟩, h6⟩, h5⟩; exact ⟨h.1, h.2, h2, h3, h4, h6, h5⟩
  cases h1 : rightM v m <;> cases h2 : restB m <;> simp_all

set_option maxRecDepth 100000 in
set_option maxHeartbeats 4000000 in
theorem refrightW_1 (m : Mg) (hs : m.body.size ≤ 140737488355328) (w : World) :
    Calls Try.prog 14 #[.int .i64 1, mgV m] w fun e w' => e = .returned (.bool (rightM 1 m)) ∧ Below w.heap.size w w' := by
  have hb0 : Below w.heap.size w (w.alloc (.cells #[.int .i64 m.kind, .int .i64 m.frm, .int .i64 m.to, .int .i64 m.seq, .string m.body, .int .i64 m.trace] 23)) := (Below.refl _ _).alloc (Nat.le_refl _) _
  obtain ⟨c0, c1, c2, c3, c4, c5⟩ := (MgBlk.new w m).cells
  unfold mgV
  obtain ⟨R, hR⟩ : ∃ R, rightM 1 m = R := ⟨_, rfl⟩
  rw [hR]
  by_cases h1 : 9 < m.kind
  · skip
    have HE : Hid (R = false) := by
      show _ = _; rw [← hR]; exact rightM_no (fun h => by have h1 := h.1; have h2 := h.2.1; omega)
    clear hR
    go_enter Try.func14, Try.ntmps14
    go_wp2_with fail
    go_ret
    exact ⟨ret_bool HE.out.symm, hb0⟩
  by_cases h2 : m.trace = 0
  · simp only [h2] at hb0 c0 c1 c2 c3 c4 c5
    by_cases h3 : m.kind < 1
    · skip
      have HE : Hid (R = false) := by
        show _ = _; rw [← hR]; exact rightM_no (fun h => by have h1 := h.1; have h2 := h.2.1; omega)
      clear hR
      go_enter Try.func14, Try.ntmps14
      go_wp2_with fail
      go_ret
      exact ⟨ret_bool HE.out.symm, hb0⟩
    · have hc : ((1 : Int) = 1 ∧ m.kind ≤ 9 ∧ m.trace = 0 ∨ (1 : Int) = 2) ∧ 1 ≤ m.kind ∧ m.kind ≤ 20 := by omega
      have q0 := reffits_any m.frm
      cases e0 : fitB m.frm with
      | false =>
        rw [e0] at q0
        have HE : Hid (R = false) := by
          show _ = _; rw [← hR, right_of hc]; unfold restB; rw [e0]; simp
        clear hR hc e0
        go_enter Try.func14, Try.ntmps14
        go_wp2_with fail
        ((with_reducible refine (q0 _).mono ?_); rintro e W0 ⟨rfl, rfl⟩)
        go_wp2_with fail
        go_ret
        exact ⟨ret_bool HE.out.symm, hb0⟩
      | true =>
        rw [e0] at q0
        have q1 := reffits_any m.to
        cases e1 : fitB m.to with
        | false =>
          rw [e1] at q1
          have HE : Hid (R = false) := by
            show _ = _; rw [← hR, right_of hc]; unfold restB; rw [e0, e1]; simp
          clear hR hc e0 e1
          go_enter Try.func14, Try.ntmps14
          go_wp2_with fail
          ((with_reducible refine (q0 _).mono ?_); rintro e W0 ⟨rfl, rfl⟩)
          go_wp2_with fail
          ((with_reducible refine (q1 _).mono ?_); rintro e W1 ⟨rfl, rfl⟩)
          go_wp2_with fail
          go_ret
          exact ⟨ret_bool HE.out.symm, hb0⟩
        | true =>
          rw [e1] at q1
          have q2 := reffits_any m.seq
          cases e2 : fitB m.seq with
          | false =>
            rw [e2] at q2
            have HE : Hid (R = false) := by
              show _ = _; rw [← hR, right_of hc]; unfold restB; rw [e0, e1, e2]; simp
            clear hR hc e0 e1 e2
            go_enter Try.func14, Try.ntmps14
            go_wp2_with fail
            ((with_reducible refine (q0 _).mono ?_); rintro e W0 ⟨rfl, rfl⟩)
            go_wp2_with fail
            ((with_reducible refine (q1 _).mono ?_); rintro e W1 ⟨rfl, rfl⟩)
            go_wp2_with fail
            ((with_reducible refine (q2 _).mono ?_); rintro e W2 ⟨rfl, rfl⟩)
            go_wp2_with fail
            go_ret
            exact ⟨ret_bool HE.out.symm, hb0⟩
          | true =>
            rw [e2] at q2
            have q3 := reffits_any m.trace
            cases e3 : fitB m.trace with
            | false =>
              rw [e3] at q3
              try rw [h2] at q3
              have HE : Hid (R = false) := by
                show _ = _; rw [← hR, right_of hc]; unfold restB; rw [e0, e1, e2, e3]; simp
              clear hR hc e0 e1 e2 e3
              go_enter Try.func14, Try.ntmps14
              go_wp2_with fail
              ((with_reducible refine (q0 _).mono ?_); rintro e W0 ⟨rfl, rfl⟩)
              go_wp2_with fail
              ((with_reducible refine (q1 _).mono ?_); rintro e W1 ⟨rfl, rfl⟩)
              go_wp2_with fail
              ((with_reducible refine (q2 _).mono ?_); rintro e W2 ⟨rfl, rfl⟩)
              go_wp2_with fail
              ((with_reducible refine (q3 _).mono ?_); rintro e W3 ⟨rfl, rfl⟩)
              go_wp2_with fail
              go_ret
              exact ⟨ret_bool HE.out.symm, hb0⟩
            | true =>
              rw [e3] at q3
              try rw [h2] at q3
              have HE : Hid (R = decide ((m.body.size : Int) ≤ 1000)) := by
                show _ = _; rw [← hR, right_of hc]; unfold restB; rw [e0, e1, e2, e3]; simp only [Bool.true_and, Bool.and_self]; exact decide_eq_decide.2 (by omega)
              clear hR hc e0 e1 e2 e3
              go_enter Try.func14, Try.ntmps14
              go_wp2_with fail
              ((with_reducible refine (q0 _).mono ?_); rintro e W0 ⟨rfl, rfl⟩)
              go_wp2_with fail
              ((with_reducible refine (q1 _).mono ?_); rintro e W1 ⟨rfl, rfl⟩)
              go_wp2_with fail
              ((with_reducible refine (q2 _).mono ?_); rintro e W2 ⟨rfl, rfl⟩)
              go_wp2_with fail
              ((with_reducible refine (q3 _).mono ?_); rintro e W3 ⟨rfl, rfl⟩)
              go_wp2_with fail
              go_ret
              exact ⟨ret_bool HE.out.symm, hb0⟩
  · have h2' : (m.trace == 0) = false := by simpa using h2
    have h2'' : (m.trace != 0) = true := by simpa using h2
    have HE : Hid (R = false) := by
      show _ = _; rw [← hR]; exact rightM_no (fun h => by have h1 := h.1; have h2 := h.2.1; omega)
    clear hR
    go_enter Try.func14, Try.ntmps14
    go_wp2_with fail
    go_ret
    exact ⟨ret_bool HE.out.symm, hb0⟩

set_option maxRecDepth 100000 in
set_option maxHeartbeats 4000000 in
theorem refrightW_2 (m : Mg) (hs : m.body.size ≤ 140737488355328) (w : World) :
    Calls Try.prog 14 #[.int .i64 2, mgV m] w fun e w' => e = .returned (.bool (rightM 2 m)) ∧ Below w.heap.size w w' := by
  have hb0 : Below w.heap.size w (w.alloc (.cells #[.int .i64 m.kind, .int .i64 m.frm, .int .i64 m.to, .int .i64 m.seq, .string m.body, .int .i64 m.trace] 23)) := (Below.refl _ _).alloc (Nat.le_refl _) _
  obtain ⟨c0, c1, c2, c3, c4, c5⟩ := (MgBlk.new w m).cells
  unfold mgV
  obtain ⟨R, hR⟩ : ∃ R, rightM 2 m = R := ⟨_, rfl⟩
  rw [hR]
  by_cases h3 : m.kind < 1
  · skip
    have HE : Hid (R = false) := by
      show _ = _; rw [← hR]; exact rightM_no (fun h => by have h1 := h.1; have h2 := h.2.1; omega)
    clear hR
    go_enter Try.func14, Try.ntmps14
    go_wp2_with fail
    go_ret
    exact ⟨ret_bool HE.out.symm, hb0⟩
  by_cases h4 : 20 < m.kind
  · skip
    have HE : Hid (R = false) := by
      show _ = _; rw [← hR]; exact rightM_no (fun h => by have h1 := h.1; have h2 := h.2.1; omega)
    clear hR
    go_enter Try.func14, Try.ntmps14
    go_wp2_with fail
    go_ret
    exact ⟨ret_bool HE.out.symm, hb0⟩
  have hc : ((2 : Int) = 1 ∧ m.kind ≤ 9 ∧ m.trace = 0 ∨ (2 : Int) = 2) ∧ 1 ≤ m.kind ∧ m.kind ≤ 20 := by omega
  have q0 := reffits_any m.frm
  cases e0 : fitB m.frm with
  | false =>
    rw [e0] at q0
    have HE : Hid (R = false) := by
      show _ = _; rw [← hR, right_of hc]; unfold restB; rw [e0]; simp
    clear hR hc e0
    go_enter Try.func14, Try.ntmps14
    go_wp2_with fail
    ((with_reducible refine (q0 _).mono ?_); rintro e W0 ⟨rfl, rfl⟩)
    go_wp2_with fail
    go_ret
    exact ⟨ret_bool HE.out.symm, hb0⟩
  | true =>
    rw [e0] at q0
    have q1 := reffits_any m.to
    cases e1 : fitB m.to with
    | false =>
      rw [e1] at q1
      have HE : Hid (R = false) := by
        show _ = _; rw [← hR, right_of hc]; unfold restB; rw [e0, e1]; simp
      clear hR hc e0 e1
      go_enter Try.func14, Try.ntmps14
      go_wp2_with fail
      ((with_reducible refine (q0 _).mono ?_); rintro e W0 ⟨rfl, rfl⟩)
      go_wp2_with fail
      ((with_reducible refine (q1 _).mono ?_); rintro e W1 ⟨rfl, rfl⟩)
      go_wp2_with fail
      go_ret
      exact ⟨ret_bool HE.out.symm, hb0⟩
    | true =>
      rw [e1] at q1
      have q2 := reffits_any m.seq
      cases e2 : fitB m.seq with
      | false =>
        rw [e2] at q2
        have HE : Hid (R = false) := by
          show _ = _; rw [← hR, right_of hc]; unfold restB; rw [e0, e1, e2]; simp
        clear hR hc e0 e1 e2
        go_enter Try.func14, Try.ntmps14
        go_wp2_with fail
        ((with_reducible refine (q0 _).mono ?_); rintro e W0 ⟨rfl, rfl⟩)
        go_wp2_with fail
        ((with_reducible refine (q1 _).mono ?_); rintro e W1 ⟨rfl, rfl⟩)
        go_wp2_with fail
        ((with_reducible refine (q2 _).mono ?_); rintro e W2 ⟨rfl, rfl⟩)
        go_wp2_with fail
        go_ret
        exact ⟨ret_bool HE.out.symm, hb0⟩
      | true =>
        rw [e2] at q2
        have q3 := reffits_any m.trace
        cases e3 : fitB m.trace with
        | false =>
          rw [e3] at q3
          try rw [h2] at q3
          have HE : Hid (R = false) := by
            show _ = _; rw [← hR, right_of hc]; unfold restB; rw [e0, e1, e2, e3]; simp
          clear hR hc e0 e1 e2 e3
          go_enter Try.func14, Try.ntmps14
          go_wp2_with fail
          ((with_reducible refine (q0 _).mono ?_); rintro e W0 ⟨rfl, rfl⟩)
          go_wp2_with fail
          ((with_reducible refine (q1 _).mono ?_); rintro e W1 ⟨rfl, rfl⟩)
          go_wp2_with fail
          ((with_reducible refine (q2 _).mono ?_); rintro e W2 ⟨rfl, rfl⟩)
          go_wp2_with fail
          ((with_reducible refine (q3 _).mono ?_); rintro e W3 ⟨rfl, rfl⟩)
          go_wp2_with fail
          go_ret
          exact ⟨ret_bool HE.out.symm, hb0⟩
        | true =>
          rw [e3] at q3
          try rw [h2] at q3
          have HE : Hid (R = decide ((m.body.size : Int) ≤ 1000)) := by
            show _ = _; rw [← hR, right_of hc]; unfold restB; rw [e0, e1, e2, e3]; simp only [Bool.true_and, Bool.and_self]; exact decide_eq_decide.2 (by omega)
          clear hR hc e0 e1 e2 e3
          go_enter Try.func14, Try.ntmps14
          go_wp2_with fail
          ((with_reducible refine (q0 _).mono ?_); rintro e W0 ⟨rfl, rfl⟩)
          go_wp2_with fail
          ((with_reducible refine (q1 _).mono ?_); rintro e W1 ⟨rfl, rfl⟩)
          go_wp2_with fail
          ((with_reducible refine (q2 _).mono ?_); rintro e W2 ⟨rfl, rfl⟩)
          go_wp2_with fail
          ((with_reducible refine (q3 _).mono ?_); rintro e W3 ⟨rfl, rfl⟩)
          go_wp2_with fail
          go_ret
          exact ⟨ret_bool HE.out.symm, hb0⟩

set_option maxRecDepth 100000 in
set_option maxHeartbeats 4000000 in
theorem refrightW_no (v : Int) (h1 : (v == 1) = false) (h2 : (v == 2) = false) (m : Mg) (w : World) :
    Calls Try.prog 14 #[.int .i64 v, mgV m] w fun e w' => e = .returned (.bool (rightM v m)) ∧ Below w.heap.size w w' := by
  have hb0 : Below w.heap.size w (w.alloc (.cells #[.int .i64 m.kind, .int .i64 m.frm, .int .i64 m.to, .int .i64 m.seq, .string m.body, .int .i64 m.trace] 23)) := (Below.refl _ _).alloc (Nat.le_refl _) _
  obtain ⟨c0, c1, c2, c3, c4, c5⟩ := (MgBlk.new w m).cells
  unfold mgV
  obtain ⟨R, hR⟩ : ∃ R, rightM v m = R := ⟨_, rfl⟩
  rw [hR]
  have HE : Hid (R = false) := by
    show _ = _; rw [← hR]; exact rightM_no (fun h => by simp at h1 h2; rcases h.v with e | e <;> contradiction)
  have n1 : (v != 1) = true := by simpa using h1
  have n2 : (v != 2) = true := by simpa using h2
  clear hR
  go_enter Try.func14, Try.ntmps14
  go_wp2_with fail
  go_ret
  exact ⟨ret_bool HE.out.symm, hb0⟩

theorem ver_casesW (v : Int) : v = 1 ∨ v = 2 ∨ (v == 1) = false ∧ (v == 2) = false := by
  by_cases h1 : v = 1
  · exact .inl h1
  by_cases h2 : v = 2
  · exact .inr (.inl h2)
  · exact .inr (.inr ⟨by simpa using h1, by simpa using h2⟩)
theorem refrightW_any (v : Int) (m : Mg) (hs : m.body.size ≤ 140737488355328) (w : World) :
    Calls Try.prog 14 #[.int .i64 v, mgV m] w fun e w' => e = .returned (.bool (rightM v m)) ∧ Below w.heap.size w w' := by
  rcases ver_casesW v with rfl | rfl | ⟨h1, h2⟩
  · exact refrightW_1 m hs w
  · exact refrightW_2 m hs w
  · exact refrightW_no v h1 h2 m w
end Go.Proofs.Ytjdpihppniibjaa
