import Derived.Test.YtndkmepdnekigaaCt
import Derived.Test.YtndkmepdnekigaaCtMathB
/-
  What comes out of a command of controllers is of numbers (stage 18).
-/
namespace Go.Proofs.Ytndkmepdnekigaa
set_option linter.unusedVariables false

theorem atM9_def (l : List MbR) (k : Nat) : atM9 l k = l.getD k (0, 0) := rfl
theorem wf_i {t : Int} (h0 : -1000 ≤ t) (h : t ≤ 9007199254740993) : (Lit.int .i64 t).wf = true := by
  rw [show (Lit.int .i64 t).wf = (decide (-9223372036854775808 ≤ t) && decide (t ≤ 9223372036854775807)) from rfl]
  simp; omega
theorem MbW.ins {l : List MbR} {x : MbR} (h : MbW l) (h1 : (Lit.int .i64 x.1).wf = true) (h2 : (Lit.int .i64 x.2).wf = true) : MbW (insM l x) := fun y hy => by
  rcases ins_mem.1 hy with rfl | hy
  · exact ⟨h1, h2⟩
  · exact h y hy
theorem MbW.set {l : List MbR} {k : Nat} {x : MbR} (h : MbW l) (h1 : (Lit.int .i64 x.1).wf = true) (h2 : (Lit.int .i64 x.2).wf = true) : MbW (l.set k x) := fun y hy => by
  rcases List.mem_or_eq_of_mem_set hy with hy | rfl
  · exact h y hy
  · exact ⟨h1, h2⟩
theorem PlW.set {l : List PlR} {k : Nat} {x : PlR} (h : PlW l) (h1 : (Lit.int .i64 x.1).wf = true) (h2 : (Lit.int .i64 x.2.1).wf = true) (h3 : (Lit.int .i64 x.2.2).wf = true) : PlW (l.set k x) := fun y hy => by
  rcases List.mem_or_eq_of_mem_set hy with hy | rfl
  · exact h y hy
  · exact ⟨h1, h2, h3⟩
theorem CtW.join {c : CtR} {x b : Int} (h : CtW c) (hx : (Lit.int .i64 x).wf = true) (hb : (Lit.int .i64 b).wf = true) : CtW (joinC c x b).1 := by
  by_cases h0 : (joinC c x b).2 = 0
  · rw [(join_ok h0).2.2.2.2.2.2.2]
    exact ⟨h.1, h.2.1.ins hx hb, h.2.2⟩
  · rw [join_no h0]; exact h
theorem CtW.report {c : CtR} {x b : Int} (h : CtW c) (hx : (Lit.int .i64 x).wf = true) (hb : (Lit.int .i64 b).wf = true) : CtW (reportC c x b).1 := by
  by_cases h0 : (reportC c x b).2 = 0
  · rw [(report_ok h0).2.2.2.2]
    exact ⟨h.1, h.2.1.set hx hb, h.2.2⟩
  · rw [report_no h0]; exact h
theorem CtW.final {c : CtR} (h : CtW c) : CtW (finalC c).1 := by
  by_cases h0 : (finalC c).2 = 0
  · rw [(final_ok h0).2.2]
    exact ⟨wf_i (t := 2) (by decide) (by decide), h.2.1, h.2.2⟩
  · rw [final_no h0]; exact h
theorem CtW.at {c : CtR} {k : Nat} (h : CtW c) (hk : k < c.pl.length) : (Lit.int .i64 (atP9 c.pl k).1).wf = true ∧ (Lit.int .i64 (atP9 c.pl k).2.1).wf = true ∧ (Lit.int .i64 (atP9 c.pl k).2.2).wf = true :=
  h.2.2 _ (atP9_mem hk)
theorem CtW.plan {c : CtR} {s t : Int} (h : CtW c) (ht : (Lit.int .i64 t).wf = true) : CtW (planC c s t).1 := by
  by_cases h0 : (planC c s t).2 = 0
  · have h1 := plan_ok h0
    rw [h1.2.2.2.2.2]
    have h2 := h.at (place_ok h1.1).2.2
    exact ⟨h.1, h.2.1, h.2.2.set h2.1 h2.2.1 ht⟩
  · rw [plan_no h0]; exact h
theorem CtW.commit {c : CtR} {s : Int} (h : CtW c) : CtW (commitC c s).1 := by
  by_cases h0 : (commitC c s).2 = 0
  · have h1 := commit_ok h0
    rw [h1.2.2.2]
    have h3 := place_ok h1.1
    have h2 := h.at h3.2.2
    have h4 := h3.1.2.2.2.2 _ (atP9_mem h3.2.2)
    exact ⟨h.1, h.2.1, h.2.2.set h2.2.2 (wf_i (by have := h4.2.1; show -1000 ≤ (atP9 c.pl s.toNat).2.1 + 1; omega) (by have := h4.2.2.1; show (atP9 c.pl s.toNat).2.1 + 1 ≤ _; omega)) (wf_i (t := 0) (by decide) (by decide))⟩
  · rw [commit_no h0]; exact h
theorem CtW.cancel {c : CtR} {s : Int} (h : CtW c) : CtW (cancelC c s).1 := by
  by_cases h0 : (cancelC c s).2 = 0
  · have h1 := cancel_ok h0
    rw [h1.2.2]
    have h2 := h.at (place_ok h1.1).2.2
    exact ⟨h.1, h.2.1, h.2.2.set h2.1 h2.2.1 (wf_i (t := 0) (by decide) (by decide))⟩
  · rw [cancel_no h0]; exact h
theorem CtW.zero : CtW zeroC := ⟨wf_i (t := 0) (by decide) (by decide), fun x (hx : x ∈ ([] : List MbR)) => absurd hx (List.not_mem_nil), fun x (hx : x ∈ ([] : List PlR)) => absurd hx (List.not_mem_nil)⟩
theorem CtW.raw {n h b : Int} (h1 : (Lit.int .i64 h).wf = true) (h2 : (Lit.int .i64 b).wf = true) : CtW (newRaw n h b) := by
  refine ⟨wf_i (t := 1) (by decide) (by decide), fun x hx => ?_, fun x hx => ?_⟩
  · have : x = (h, b) := by simpa [newRaw] using hx
    subst this; exact ⟨h1, h2⟩
  · have : x = (h, 1, 0) := (List.mem_replicate.1 hx).2
    subst this; exact ⟨h1, wf_i (t := 1) (by decide) (by decide), wf_i (t := 0) (by decide) (by decide)⟩
theorem CtW.new {n h b : Int} (h1 : (Lit.int .i64 h).wf = true) (h2 : (Lit.int .i64 b).wf = true) : CtW (newC n h b) := by
  unfold newC; split
  · exact .raw h1 h2
  · exact .zero
/-- What is right is small. -/
theorem RightC.small {c : CtR} (h : RightC c) : c.mem.length ≤ 8 ∧ c.pl.length ≤ 8 := ⟨h.2.1.2, h.2.2.1.2⟩
theorem newC_small (n h b : Int) : (newC n h b).mem.length ≤ 8 ∧ (newC n h b).pl.length ≤ 8 := by
  unfold newC; split
  · rename_i h; exact h.small
  · exact ⟨by simp [zeroC], by simp [zeroC]⟩
end Go.Proofs.Ytndkmepdnekigaa
