import Derived.Test.YtndkmepdnekigaaCtRight
/-
  Plain mathematics of controllers: what may be, member by member (stage 18).
-/
namespace Go.Proofs.Ytndkmepdnekigaa
set_option linter.unusedVariables false

def lastM (l : List MbR) : Nat → Int
  | 0 => 0
  | k + 1 => (l.getD k (0, 0)).1
def okM (lv : Int) (l : List MbR) (j : Nat) : Prop := lastM l j < (l.getD j (0, 0)).1 ∧ (l.getD j (0, 0)).1 ≤ 100 ∧ binB lv (l.getD j (0, 0)).2 = true
theorem getD_mem9 {l : List MbR} {j : Nat} (h : j < l.length) : l.getD j (0, 0) ∈ l := by
  rw [List.getD_eq_getElem?_getD, List.getElem?_eq_getElem h]; exact List.getElem_mem _
theorem memOk_iff {lv : Int} {l : List MbR} : MemOk lv l ↔ ∀ j, j < l.length → okM lv l j := by
  constructor
  · rintro ⟨h1, h2⟩ j hj
    have h3 := h2 _ (getD_mem9 hj)
    refine ⟨?_, h3.2.1, h3.2.2⟩
    cases j with
    | zero => show (0 : Int) < _; omega
    | succ j =>
      have := List.pairwise_iff_getElem.1 h1 j (j + 1) (by omega) hj (by omega)
      show (l.getD j (0, 0)).1 < _
      rw [List.getD_eq_getElem?_getD, List.getD_eq_getElem?_getD, List.getElem?_eq_getElem hj, List.getElem?_eq_getElem (by omega)]
      exact this
  · intro h
    have hlo : ∀ j, j < l.length → 1 ≤ (l.getD j (0, 0)).1 := by
      intro j
      induction j with
      | zero => intro hj; have := (h 0 hj).1; have h0 : lastM l 0 = 0 := rfl; omega
      | succ j ih => intro hj; have h1 := (h (j + 1) hj).1; have h2 := ih (by omega); have h0 : lastM l (j + 1) = (l.getD j (0, 0)).1 := rfl; omega
    have hup : ∀ d i, i + d + 1 < l.length → (l.getD i (0, 0)).1 < (l.getD (i + d + 1) (0, 0)).1 := by
      intro d
      induction d with
      | zero => intro i hi; exact (h (i + 1) hi).1
      | succ d ih =>
        intro i hi
        have h1 := ih i (by omega)
        have h2 := (h (i + d + 1 + 1) hi).1
        have h0 : lastM l (i + d + 1 + 1) = (l.getD (i + d + 1) (0, 0)).1 := rfl
        rw [show i + (d + 1) + 1 = i + d + 1 + 1 by omega]; omega
    refine ⟨List.pairwise_iff_getElem.2 fun i j hi hj hij => ?_, fun m hm => ?_⟩
    · have := hup (j - i - 1) i (by omega)
      rw [show i + (j - i - 1) + 1 = j by omega, List.getD_eq_getElem?_getD, List.getD_eq_getElem?_getD, List.getElem?_eq_getElem hi, List.getElem?_eq_getElem hj] at this
      exact this
    · obtain ⟨j, hj, rfl⟩ := List.getElem_of_mem hm
      have h1 := hlo j hj
      obtain ⟨_, h2, h3⟩ := h j hj
      rw [List.getD_eq_getElem?_getD, List.getElem?_eq_getElem hj] at h1 h2 h3
      exact ⟨h1, h2, h3⟩
theorem rightC_iff {c : CtR} : RightC c ↔ (c.level = 1 ∨ c.level = 2) ∧ (1 ≤ c.mem.length ∧ c.mem.length ≤ 8) ∧ (1 ≤ c.pl.length ∧ c.pl.length ≤ 8) ∧ (∀ j, j < c.mem.length → okM c.level c.mem j) ∧ ∀ j, j < c.pl.length → PlOk c.mem (atP9 c.pl j) := by
  unfold RightC
  rw [memOk_iff]
  constructor
  · rintro ⟨h1, h2, h3, h4, h5⟩
    exact ⟨h1, h2, h3, h4, fun j hj => h5 _ (atP9_mem hj)⟩
  · rintro ⟨h1, h2, h3, h4, h5⟩
    refine ⟨h1, h2, h3, h4, fun p hp => ?_⟩
    obtain ⟨j, hj, rfl⟩ := List.getElem_of_mem hp
    have := h5 j hj
    unfold atP9 at this
    rw [List.getD_eq_getElem?_getD, List.getElem?_eq_getElem hj] at this
    exact this
end Go.Proofs.Ytndkmepdnekigaa
