import Derived.Test.YtgckoihangccbaaTabs
import Derived.Test.YtgckoihangccbaaRecRefRight
import Derived.Test.YtgckoihangccbaaRecRefSame
import Derived.Laws.Cover1
/-
  The contracts of the document's own at, Right and Same of tables (stage 12).
-/
namespace Go.Proofs.Ytgckoihangccbaa
open Go.RowKit
set_option linter.unusedVariables false
set_option linter.unusedSimpArgs false

/-- A place as a number; below 0: none. -/
def plcT (x : Option Nat) : Int := match x with | none => -1 | some i => (i : Int)
theorem idx_found {t : List Rcd} {k : ByteArray} {i : Nat} (h : ∀ j, j < i → (atR t j).key ≠ k) (hi : i < t.length) (hk : (atR t i).key = k) : idxT t k = some i := by
  unfold idxT
  rw [List.findIdx?_eq_some_iff_getElem]
  refine ⟨hi, by rw [atR_get hi] at hk; simpa using hk, fun j hj => ?_⟩
  have := h j hj
  rw [atR_get (by omega)] at this
  simpa using this
theorem idx_not {t : List Rcd} {k : ByteArray} (h : ∀ j, j < t.length → (atR t j).key ≠ k) : idxT t k = none := by
  unfold idxT
  rw [List.findIdx?_eq_none_iff]
  intro r hr
  obtain ⟨j, hj, rfl⟩ := List.getElem_of_mem hr
  have := h j hj
  rw [atR_get hj] at this
  simpa using this
theorem tb_eq {a b : ByteArray} (h : a = b) : (a.toList == b.toList) = true := by rw [h]; simp
theorem tb_ne {a b : ByteArray} (h : a ≠ b) : (a.toList == b.toList) = false := by
  rw [beq_eq_false_iff_ne]; exact fun e => h (bax e)
theorem rise_snoc {l : List Rcd} {r : Rcd} (h : Rise l) (hl : ∀ x ∈ l, ltB x.key r.key = true) : Rise (l ++ [r]) :=
  List.pairwise_append.2 ⟨h, List.pairwise_singleton _ _, fun a ha b hb => by rw [List.mem_singleton.1 hb]; exact hl a ha⟩
theorem rise_next {t : List Rcd} {j : Nat} (h : Rise (t.take (j + 1))) (hj : j + 1 < t.length) (hl : ltB (atR t j).key (atR t (j + 1)).key = true) : Rise (t.take (j + 1 + 1)) := by
  rw [take_succR hj]
  refine rise_snoc h fun x hx => ?_
  obtain ⟨i, hi, rfl⟩ := List.getElem_of_mem hx
  rw [List.length_take] at hi
  have e : (t.take (j + 1))[i]'(by rw [List.length_take]; exact hi) = atR t i := by rw [List.getElem_take, atR_get (by omega)]
  rw [e]
  rcases (by omega : i = j ∨ i < j) with rfl | h2
  · exact hl
  · have := rise_lt h (i := i) (j := j) h2 (by rw [List.length_take]; omega)
    have e1 : atR (t.take (j + 1)) i = atR t i := by rw [atR_get (by rw [List.length_take]; omega), List.getElem_take, atR_get (by omega)]
    have e2 : atR (t.take (j + 1)) j = atR t j := by rw [atR_get (by rw [List.length_take]; omega), List.getElem_take, atR_get (by omega)]
    rw [e1, e2] at this
    exact lt_trans this hl
theorem rise_next2 {t : List Rcd} {i j : Nat} (e : j = i + 1) (h : Rise (t.take j)) (hj : j < t.length) (hl : ltB (atR t i).key (atR t j).key = true) : Rise (t.take (j + 1)) := by
  subst e; exact rise_next h hj hl
end Go.Proofs.Ytgckoihangccbaa
