/-
  Plain mathematics of mail (stage 11): lists of letters, what is posted, doubled, lost, taken, found. Nothing of the program is named here.
-/
namespace Go.Proofs.Ytljjbpgbddaekaa

structure Lt where
  frm : Int
  to : Int
  bytes : ByteArray
def zeroL : Lt := ⟨0, 0, ⟨#[]⟩⟩
def atL (l : List Lt) (i : Nat) : Lt := l.getD i zeroL
theorem atL_get {l : List Lt} {i : Nat} (h : i < l.length) : atL l i = l[i] := by unfold atL; rw [List.getD_eq_getElem?_getD, List.getElem?_eq_getElem h]; rfl
theorem atL_mem {l : List Lt} {i : Nat} (h : i < l.length) : atL l i ∈ l := by rw [atL_get h]; exact List.getElem_mem _
theorem take_succL {l : List Lt} {k : Nat} (h : k < l.length) : l.take (k + 1) = l.take k ++ [atL l k] := by rw [List.take_succ_eq_append_getElem h, atL_get h]
def thereL (l : List Lt) (i : Int) : Bool := decide (0 ≤ i) && decide (i < l.length)
theorem thereL_iff {l : List Lt} {i : Int} : thereL l i = true ↔ 0 ≤ i ∧ i < l.length := by unfold thereL; simp
theorem thereL_nat {l : List Lt} {k : Nat} (h : k < l.length) : thereL l (k : Int) = true := thereL_iff.2 ⟨by omega, by omega⟩
theorem thereL_no {l : List Lt} {i : Int} (h : ¬ (0 ≤ i ∧ i < l.length)) : thereL l i = false := by rw [Bool.eq_false_iff]; intro e; exact h (thereL_iff.1 e)
/-- K1. -/
def postL (l : List Lt) (m : Lt) : List Lt × Nat := if 200 ≤ l.length then (l, 50) else (l ++ [m], 0)
def copyL (l : List Lt) (i : Int) : List Lt × Nat := if thereL l i = true then postL l (atL l i.toNat) else (l, 1)
/-- The first k without the i-th. -/
def skipL (l : List Lt) (i : Int) : Nat → List Lt
  | 0 => []
  | k + 1 => skipL l i k ++ (if (k : Int) = i then [] else [atL l k])
def restL (l : List Lt) (i : Int) : List Lt := skipL l i l.length
def loseL (l : List Lt) (i : Int) : List Lt × Nat := if thereL l i = true then (restL l i, 0) else (l, 1)
def takeL (l : List Lt) (i : Int) : Lt × List Lt × Bool := if thereL l i = true then (atL l i.toNat, restL l i, true) else (zeroL, l, false)
/-- K2. -/
def forK (l : List Lt) (t : Int) : Nat → List Int
  | 0 => []
  | k + 1 => forK l t k ++ (if (atL l k).to = t then [(k : Int)] else [])
def forL (l : List Lt) (t : Int) : List Int := forK l t l.length
theorem skip_len (l : List Lt) (i : Int) : ∀ k, (skipL l i k).length ≤ k := by
  intro k
  induction k with
  | zero => exact Nat.le_refl _
  | succ k ih => rw [skipL, List.length_append]; split <;> simp <;> omega
theorem skip_mem (l : List Lt) (i : Int) : ∀ k, k ≤ l.length → ∀ m ∈ skipL l i k, m ∈ l := by
  intro k
  induction k with
  | zero => intro _ m h; cases h
  | succ k ih =>
    intro hk m h
    rw [skipL, List.mem_append] at h
    rcases h with h | h
    · exact ih (by omega) m h
    · split at h
      · cases h
      · rw [List.mem_singleton] at h; subst h; exact atL_mem (by omega)
theorem skip_no {l : List Lt} {i : Int} : ∀ k, k ≤ l.length → (i < 0 ∨ (k : Int) ≤ i) → skipL l i k = l.take k := by
  intro k
  induction k with
  | zero => intro _ _; simp [skipL]
  | succ k ih =>
    intro hk h
    rw [skipL, ih (by omega) (by omega), if_neg (by omega), take_succL (by omega)]
theorem skip_yes {l : List Lt} {j : Nat} : ∀ k, j < k → k ≤ l.length → skipL l (j : Int) k = l.take j ++ (l.take k).drop (j + 1) := by
  intro k
  induction k with
  | zero => intro h; omega
  | succ k ih =>
    intro hj hk
    rw [skipL]
    by_cases e : k = j
    · subst e
      rw [if_pos rfl, skip_no k (by omega) (by omega), List.append_nil, List.drop_eq_nil_of_le (by rw [List.length_take]; omega), List.append_nil]
    · rw [if_neg (by omega), ih (by omega) (by omega), take_succL (by omega), List.drop_append_of_le_length (by rw [List.length_take]; omega), List.append_assoc]
theorem rest_yes {l : List Lt} {j : Nat} (h : j < l.length) : restL l (j : Int) = l.take j ++ l.drop (j + 1) := by
  unfold restL
  rw [skip_yes _ h (Nat.le_refl _), List.take_length]
theorem rest_no {l : List Lt} {i : Int} (h : thereL l i = false) : restL l i = l := by
  have h2 : ¬ (0 ≤ i ∧ i < l.length) := fun e => by rw [thereL_iff.2 e] at h; cases h
  unfold restL
  rw [skip_no _ (Nat.le_refl _) (by omega), List.take_length]
theorem rest_len {l : List Lt} {j : Nat} (h : j < l.length) : (restL l (j : Int)).length + 1 = l.length := by
  rw [rest_yes h, List.length_append, List.length_take, List.length_drop]; omega
theorem for_bound (l : List Lt) (t : Int) : ∀ k, ∀ z ∈ forK l t k, 0 ≤ z ∧ z < k := by
  intro k
  induction k with
  | zero => intro z h; cases h
  | succ k ih =>
    intro z h
    rw [forK, List.mem_append] at h
    rcases h with h | h
    · have := ih z h; omega
    · split at h
      · rw [List.mem_singleton] at h; omega
      · cases h
theorem for_len (l : List Lt) (t : Int) : ∀ k, (forK l t k).length ≤ k := by
  intro k
  induction k with
  | zero => exact Nat.le_refl _
  | succ k ih => rw [forK, List.length_append]; split <;> simp <;> omega
end Go.Proofs.Ytljjbpgbddaekaa
