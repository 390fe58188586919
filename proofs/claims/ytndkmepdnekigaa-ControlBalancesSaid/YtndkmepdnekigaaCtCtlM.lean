import Derived.Test.YtndkmepdnekigaaCtWf
import Derived.Test.YtndkmepdnekigaaGPick
/-
  Plain mathematics: the controller that raw steps make (stage 18).
-/
namespace Go.Proofs.Ytndkmepdnekigaa
set_option linter.unusedVariables false

/-- One raw step. -/
def stpC (c : CtR) (f : Nat → Int) : CtR :=
  let a := pickN (f 0) 10
  let s : Int := (pickN (f 1) 8 : Nat)
  let h : Int := 1 + (pickN (f 2) 10 : Nat)
  let b : Int := 1 + (pickN (f 1) 2 : Nat)
  if a ≤ 2 then (joinC c h b).1 else if a ≤ 4 then (reportC c h b).1 else if a = 5 then (finalC c).1 else if a ≤ 7 then (planC c s h).1 else if a = 8 then (commitC c s).1 else (cancelC c s).1
def ctlD (c0 : CtR) (f : Nat → Nat → Int) : Nat → CtR
  | 0 => c0
  | k + 1 => stpC (ctlD c0 f k) (f k)
def ctlC (x y : Int) (f : Nat → Nat → Int) (n : Nat) : CtR := ctlD (newC (1 + (pickN x 8 : Nat)) 5 (1 + (pickN y 2 : Nat))) f (min n 30)
/-- What the raw steps' controllers keep: right, of numbers, names of 1 to 10. -/
def CtOk (c : CtR) : Prop := RightC c ∧ CtW c ∧ ∀ m ∈ c.mem, m.1 ≤ 10
theorem pick_le (x n : Int) (h : 0 < n) : (pickN x n : Int) < n := pickN_lt x n h
theorem CtOk.join {c : CtR} {x b : Int} (h : CtOk c) (h1 : -1000 ≤ x) (h2 : x ≤ 10) (h3 : -1000 ≤ b) (h4 : b ≤ 1000) : CtOk (joinC c x b).1 := by
  refine ⟨join_right h.1, h.2.1.join (wf_i h1 (by omega)) (wf_i h3 (by omega)), ?_⟩
  by_cases h0 : (joinC c x b).2 = 0
  · rw [(join_ok h0).2.2.2.2.2.2.2]
    intro m hm
    rcases ins_mem.1 hm with rfl | hm
    · exact h2
    · exact h.2.2 m hm
  · rw [join_no h0]; exact h.2.2
theorem CtOk.report {c : CtR} {x b : Int} (h : CtOk c) (h1 : -1000 ≤ x) (h2 : x ≤ 10) (h3 : -1000 ≤ b) (h4 : b ≤ 1000) : CtOk (reportC c x b).1 := by
  refine ⟨report_right h.1, h.2.1.report (wf_i h1 (by omega)) (wf_i h3 (by omega)), ?_⟩
  by_cases h0 : (reportC c x b).2 = 0
  · rw [(report_ok h0).2.2.2.2]
    intro m hm
    rcases List.mem_or_eq_of_mem_set hm with hm | rfl
    · exact h.2.2 m hm
    · exact h2
  · rw [report_no h0]; exact h.2.2
theorem CtOk.final {c : CtR} (h : CtOk c) : CtOk (finalC c).1 := by
  refine ⟨final_right h.1, h.2.1.final, ?_⟩
  by_cases h0 : (finalC c).2 = 0
  · rw [(final_ok h0).2.2]; exact h.2.2
  · rw [final_no h0]; exact h.2.2
theorem CtOk.plan {c : CtR} {s t : Int} (h : CtOk c) (h1 : -1000 ≤ t) (h2 : t ≤ 1000) : CtOk (planC c s t).1 := by
  refine ⟨plan_right h.1, h.2.1.plan (wf_i h1 (by omega)), ?_⟩
  by_cases h0 : (planC c s t).2 = 0
  · rw [(plan_ok h0).2.2.2.2.2]; exact h.2.2
  · rw [plan_no h0]; exact h.2.2
theorem CtOk.commit {c : CtR} {s : Int} (h : CtOk c) : CtOk (commitC c s).1 := by
  refine ⟨commit_right h.1, h.2.1.commit, ?_⟩
  by_cases h0 : (commitC c s).2 = 0
  · rw [(commit_ok h0).2.2.2]; exact h.2.2
  · rw [commit_no h0]; exact h.2.2
theorem CtOk.cancel {c : CtR} {s : Int} (h : CtOk c) : CtOk (cancelC c s).1 := by
  refine ⟨cancel_right h.1, h.2.1.cancel, ?_⟩
  by_cases h0 : (cancelC c s).2 = 0
  · rw [(cancel_ok h0).2.2]; exact h.2.2
  · rw [cancel_no h0]; exact h.2.2
theorem CtOk.step {c : CtR} {f : Nat → Int} (h : CtOk c) : CtOk (stpC c f) := by
  have e1 := pick_le (f 2) 10 (by decide)
  have e2 := pick_le (f 1) 2 (by decide)
  unfold stpC
  simp only
  split
  · exact h.join (by omega) (by omega) (by omega) (by omega)
  split
  · exact h.report (by omega) (by omega) (by omega) (by omega)
  split
  · exact h.final
  split
  · exact h.plan (by omega) (by omega)
  split
  · exact h.commit
  · exact h.cancel
theorem ctlD_ok {c0 : CtR} (h : CtOk c0) (f : Nat → Nat → Int) : ∀ k, CtOk (ctlD c0 f k)
  | 0 => h
  | k + 1 => (ctlD_ok h f k).step
theorem new_ok (x y : Int) : CtOk (newC (1 + (pickN x 8 : Nat)) 5 (1 + (pickN y 2 : Nat))) := by
  have e1 := pick_le x 8 (by decide)
  have e2 := pick_le y 2 (by decide)
  have h := new_right (n := 1 + (pickN x 8 : Nat)) (h := 5) (b := 1 + (pickN y 2 : Nat)) (by omega) (by omega) (by omega) (by omega) (by omega)
  rw [h.1]
  refine ⟨h.2, .raw (wf_i (t := 5) (by decide) (by decide)) (wf_i (by omega) (by omega)), fun m hm => ?_⟩
  have : m = ((5 : Int), (1 + (pickN y 2 : Nat) : Int)) := by simpa [newRaw] using hm
  rw [this]; show (5 : Int) ≤ 10; decide
theorem ctlC_ok (x y : Int) (f : Nat → Nat → Int) (n : Nat) : CtOk (ctlC x y f n) := ctlD_ok (new_ok x y) f _
/-- A name above 10 is no member's. -/
theorem CtOk.far {c : CtR} (h : CtOk c) {x : Int} (hx : 10 < x) : ¬ isMem c.mem x := fun ⟨m, hm, e⟩ => by have := h.2.2 m hm; omega
end Go.Proofs.Ytndkmepdnekigaa
