import Derived.Test.YtpnkkiokkhmjpaaTabOp
/-
  Plain mathematics of the law package's own Table (stage 12): a table of raw ops.
-/
namespace Go.Proofs.Ytpnkkiokkhmjpaa
set_option linter.unusedVariables false

theorem pick_lt' (z : Int) (n : Int) (h : 0 < n) : (pickN z n : Int) < n := pickN_lt z n h
theorem keyR_size (z : Int) : 1 ≤ (keyR z).size ∧ (keyR z).size ≤ 5 := keyN_size _
theorem val_size (j : Nat) : (valK j).size ≤ 5 := by
  rcases (by omega : j = 0 ∨ j = 1 ∨ j = 2 ∨ 3 ≤ j) with rfl | rfl | rfl | h
  · decide
  · decide
  · decide
  · obtain ⟨k, rfl⟩ : ∃ k, j = k + 3 := ⟨j - 3, by omega⟩
    show (⟨#[118, 97, 108, 117, 101]⟩ : ByteArray).size ≤ 5
    decide
theorem not_size (j : Nat) : (notK j).size ≤ 4 := by
  rcases (by omega : j = 0 ∨ j = 1 ∨ 2 ≤ j) with rfl | rfl | h
  · decide
  · decide
  · obtain ⟨k, rfl⟩ : ∃ k, j = k + 2 := ⟨j - 2, by omega⟩
    show (⟨#[110, 111, 116, 101]⟩ : ByteArray).size ≤ 4
    decide
theorem end_size (j : Nat) : (endK j).size ≤ 3 := by
  rcases (by omega : j = 0 ∨ j = 1 ∨ j = 2 ∨ 3 ≤ j) with rfl | rfl | rfl | h
  · decide
  · decide
  · decide
  · obtain ⟨k, rfl⟩ : ∃ k, j = k + 3 := ⟨j - 3, by omega⟩
    show (⟨#[97, 98, 49]⟩ : ByteArray).size ≤ 3
    decide
/-- An op of raw numbers, its parts bounded. -/
theorem opR_bounds (a : Nat → Int) : (1 ≤ (opR a).kind ∧ (opR a).kind ≤ 6) ∧ (opR a).key.size ≤ 5 ∧ ((opR a).key.size = 0 → (opR a).kind = 6) ∧ (opR a).value.size ≤ 5 ∧ (0 ≤ (opR a).rev ∧ (opR a).rev < 4) ∧ (opR a).upto.size ≤ 3 ∧ (0 ≤ (opR a).life ∧ (opR a).life < 50) ∧ (opR a).note.size ≤ 4 := by
  have p0 := pick_lt' (a 0) 6 (by omega)
  have p3 := pick_lt' (a 3) 4 (by omega)
  have p2 := pick_lt' (a 2) 50 (by omega)
  have k1 := keyR_size (a 1)
  unfold opR
  simp only
  refine ⟨⟨by omega, by omega⟩, ?_, ?_, ?_, ⟨by omega, by omega⟩, ?_, ?_, ?_⟩
  · split
    · show (0 : Nat) ≤ 5; omega
    · exact k1.2
  · intro h
    split at h
    · rename_i h2; have := h2.1; omega
    · omega
  · split
    · exact val_size _
    · show (0 : Nat) ≤ 5; omega
  · split
    · exact end_size _
    · show (0 : Nat) ≤ 3; omega
  · split
    · exact ⟨by omega, by omega⟩
    · exact ⟨by omega, by omega⟩
  · split
    · exact not_size _
    · show (0 : Nat) ≤ 4; omega
theorem opR_wf (a : Nat → Int) : OpWf (opR a) := by
  obtain ⟨h1, h2, _, h4, h5, h6, h7, h8⟩ := opR_bounds a
  exact ⟨wf_within (by omega) (by omega), by omega, by omega, wf_within (by omega) (by omega), by omega, wf_within (by omega) (by omega), by omega⟩
theorem opR_ok (a : Nat → Int) : checkO 2 (opR a) = 0 := by
  obtain ⟨h1, h2, h3, h4, h5, h6, h7, h8⟩ := opR_bounds a
  unfold checkO
  rw [if_neg, if_neg (by omega)]
  unfold BadO maxN
  intro h
  rcases h with h | h | h | h | h | h | h | h | h | h | h | h
  · exact h (.inr rfl)
  all_goals first | omega | exact h.2 (h3 h.1)
/-- The tables behind the first k ops. -/
noncomputable def tabD (f : Nat → Nat → Int) : Nat → List Rcd
  | 0 => []
  | k + 1 => (doT (tabD f k) (opR (f k))).1
theorem tabD_right (f : Nat → Nat → Int) : ∀ k, RightT (tabD f k)
  | 0 => right_nil
  | k + 1 => do_right (tabD_right f k) _
def carriedB : ByteArray := ⟨#[99, 97, 114, 114, 105, 101, 100]⟩
/-- What the law's Table turns of the i-th record. -/
def tw1 (i : Nat) (r : Rcd) : Rcd := if i % 3 = 1 then { r with extra := [(9 + (i : Int), carriedB)] } else r
def tw2 (n i : Nat) (r : Rcd) : Rcd := if i % 5 = 4 ∧ 7 < n then { r with rev := maxN } else r
def twR (n i : Nat) (r : Rcd) : Rcd := tw2 n i (tw1 i r)
def twK (n : Nat) (t : List Rcd) : Nat → List Rcd
  | 0 => t
  | k + 1 => (twK n t k).set k (twR n k (atR (twK n t k) k))
noncomputable def tableR (f : Nat → Nat → Int) (n : Nat) : List Rcd := twK n (tabD f (min n 40)) (tabD f (min n 40)).length
theorem twK_len (n : Nat) (t : List Rcd) : ∀ k, (twK n t k).length = t.length
  | 0 => rfl
  | k + 1 => by rw [twK, List.length_set, twK_len n t k]
theorem tw_key (n i : Nat) (r : Rcd) : (twR n i r).key = r.key := by unfold twR tw2 tw1; split <;> split <;> rfl
theorem tw_right {n i : Nat} {r : Rcd} (h : RightP 2 r) (hi : i < 20) : RightP 2 (twR n i r) := by
  have h1 : RightP 2 (tw1 i r) := by
    unfold tw1
    split
    · obtain ⟨a, b, c, d, e, _⟩ := h
      refine ⟨a, b, c, d, e, ?_⟩
      refine extraB_iff.2 ⟨rightB_iff.2 ⟨by simp, fun j hj => ?_⟩, ?_, fun j hj => ?_⟩
      · have : j = 0 := by simpa using hj
        subst this
        rw [okAt, Bool.and_eq_true, mayB_iff, decide_eq_true_eq]
        exact ⟨⟨by show (0 : Int) < 9 + (i : Int); omega, by show 9 + (i : Int) ≤ 1000000; omega⟩, by show carriedB.size ≤ 1000; decide⟩
      · exact Nat.le_trans (few_le _) (by simp)
      · have : j = 0 := by simpa using hj
        subst this
        rw [knowB_no]
        show ¬ (1 ≤ 9 + (i : Int) ∧ 9 + (i : Int) ≤ topT 2)
        unfold topT
        simp
        omega
    · exact h
  unfold twR tw2
  split
  · obtain ⟨a, b, c, d, e, g⟩ := h1
    exact ⟨a, b, c, ⟨by show (0 : Int) ≤ 9007199254740992; decide, by show (9007199254740992 : Int) ≤ 9007199254740992; decide⟩, e, g⟩
  · exact h1
theorem twK_right {n : Nat} {t : List Rcd} (h : RightT t) : ∀ k, k ≤ t.length → RightT (twK n t k)
  | 0, _ => h
  | k + 1, hk => by
    have hr := twK_right (n := n) h k (by omega)
    have hl : k < (twK n t k).length := by rw [twK_len]; omega
    exact right_set hr hl (tw_key _ _ _) (tw_right (hr.at (atR_mem hl)) (by have := h.2.2; omega))
theorem table_right (f : Nat → Nat → Int) (n : Nat) : RightT (tableR f n) := twK_right (tabD_right f _) _ (Nat.le_refl _)
theorem carried_wf (i : Nat) (h : i < 20) : FsWf [(9 + (i : Int), carriedB)] := fun x hx => by
  rw [List.mem_singleton] at hx; subst hx
  exact ⟨wf_within (by omega) (by omega), by show carriedB.size ≤ 9223372036854775807; decide⟩
end Go.Proofs.Ytpnkkiokkhmjpaa
