import Derived.Test.YtnfpfcbbbabckaaSumFour
/-
  The law package's own first calls ('awake') of stage 5, and what its laws' walks share.
-/
namespace Go.Proofs.Ytnfpfcbbbabckaa
open Go.RowKit

theorem ofA (w : World) : Calls Try.prog 9 #[.string ⟨#[49, 50, 51, 52, 53, 54, 55, 56, 57]⟩] w fun e w' => e = .returned (.int .i64 3421780262) ∧ w = w' := by
  have h := of_any ⟨#[49, 50, 51, 52, 53, 54, 55, 56, 57]⟩ (by decide) w
  have e : sumR (ByteArray.mk #[49, 50, 51, 52, 53, 54, 55, 56, 57]).data.toList = 3421780262 := by decide +kernel
  rw [e] at h
  exact h
theorem ofB (w : World) : Calls Try.prog 9 #[.string ⟨#[]⟩] w fun e w' => e = .returned (.int .i64 0) ∧ w = w' := of_any ⟨#[]⟩ (by decide) w
theorem bytesA (w : World) : Calls Try.prog 11 #[.int .i64 3421780262] w fun e w' => e = .returned (.string ⟨#[38, 57, 244, 203]⟩) ∧ Below w.heap.size w w' := by
  have h := bytes_ok 3421780262 (by decide) w
  have e : bs (le4 3421780262) = ⟨#[38, 57, 244, 203]⟩ := by decide +kernel
  rw [e] at h
  exact h
theorem bytesB (n : Int) (h : n < 0 ∨ 4294967295 < n) (w : World) : Calls Try.prog 11 #[.int .i64 n] w fun e w' => e = .returned (.string ⟨#[]⟩) ∧ w = w' := bytes_no n h w

set_option maxRecDepth 100000 in
set_option maxHeartbeats 1000000 in
theorem awake5_any (w : World) : Calls Try.prog 8 #[] w fun e w' => e = .returned (.bool true) ∧ Below w.heap.size w w' := by
  go_enter Try.func8, Try.ntmps8
  go_wp2_with fail
  ((with_reducible refine (ofA _).mono ?_); rintro e w1 ⟨rfl, rfl⟩)
  go_wp2_with fail
  ((with_reducible refine (ofB _).mono ?_); rintro e w1 ⟨rfl, rfl⟩)
  go_wp2_with fail
  ((with_reducible refine (bytesA _).mono ?_); rintro e w1 ⟨rfl, b1⟩)
  go_wp2_with fail
  ((with_reducible refine (bytesB (-1) (.inl (by omega)) _).mono ?_); rintro e w2 ⟨rfl, rfl⟩)
  go_wp2_with fail
  ((with_reducible refine (bytesB 4294967296 (.inr (by omega)) _).mono ?_); rintro e w3 ⟨rfl, rfl⟩)
  go_wp2_with fail
  go_ret
  exact ⟨rfl, b1⟩

/-- The lesser of a number and a text's size. -/
theorem least (T : ByteArray) (k : Nat) : ∃ m : Nat, (if (k : Int) < (T.size : Int) then (k : Int) else (T.size : Int)) = (m : Int) ∧ m ≤ T.size ∧ m ≤ k := by
  by_cases h : (k : Int) < (T.size : Int)
  · exact ⟨k, if_pos h, by omega, Nat.le_refl _⟩
  · exact ⟨T.size, if_neg h, Nat.le_refl _, by omega⟩
/-- What Of tells of a text, by its bytes. -/
theorem of_list {S : ByteArray} {l : List UInt8} {u : Nat} (h : S.data.toList = l) (hu : sumR l = u) (hs : S.size ≤ 140737488355328) (w : World) :
    Calls Try.prog 9 #[.string S] w fun e w' => e = .returned (.int .i64 u) ∧ w = w' := by
  have := of_any S hs w
  rwa [h, hu] at this
theorem bytes_at {n : Nat} {S : ByteArray} (h : n < 4294967296) (hS : bs (le4 n) = S) (w : World) :
    Calls Try.prog 11 #[.int .i64 n] w fun e w' => e = .returned (.string S) ∧ Below w.heap.size w w' := by
  have := bytes_ok n h w
  rwa [hS] at this
theorem beqT {a b : Nat} (h : a = b) : ((a : Int) == (b : Int)) = true := by rw [h]; simp
theorem beqF {a b : Nat} (h : ¬ a = b) : ((a : Int) == (b : Int)) = false := by simp; omega
theorem beqI {a b c d : Nat} (h : a = b ↔ c = d) : ((a : Int) == (b : Int)) = ((c : Int) == (d : Int)) := by
  by_cases g : c = d
  · rw [beqT g, beqT (h.2 g)]
  · rw [beqF g, beqF (fun e => g (h.1 e))]
end Go.Proofs.Ytnfpfcbbbabckaa
