import Derived.Test.YtpnkkiokkhmjpaaGPick
import Derived.Test.YtpnkkiokkhmjpaaTabRefB
/-
  The contract of the law package's own Key (stage 12): a key of a raw number.
-/
namespace Go.Proofs.Ytpnkkiokkhmjpaa
open Go.RowKit
set_option linter.unusedVariables false
set_option linter.unusedSimpArgs false

def fstK : Nat → ByteArray
  | 0 => ⟨#[97]⟩ | 1 => ⟨#[98]⟩ | 2 => ⟨#[97, 98]⟩ | _ => ⟨#[98, 111, 98]⟩
def sndK : Nat → ByteArray
  | 0 => ⟨#[]⟩ | 1 => ⟨#[49]⟩ | 2 => ⟨#[50]⟩ | 3 => ⟨#[0]⟩ | 4 => ⟨#[122, 122]⟩ | _ => ⟨#[57]⟩
def keyN (k : Nat) : ByteArray := fstK (k % 4) ++ sndK (k / 4)
/-- The key of a raw number. -/
def keyR (z : Int) : ByteArray := keyN (pickN z 24)
theorem fst_get {j : Nat} (h : j < [Value.string ⟨#[97]⟩, .string ⟨#[98]⟩, .string ⟨#[97, 98]⟩, .string ⟨#[98, 111, 98]⟩].length) : [Value.string ⟨#[97]⟩, .string ⟨#[98]⟩, .string ⟨#[97, 98]⟩, .string ⟨#[98, 111, 98]⟩][j] = .string (fstK j) := by
  have h4 : j < 4 := h
  rcases (by omega : j = 0 ∨ j = 1 ∨ j = 2 ∨ j = 3) with rfl | rfl | rfl | rfl <;> rfl
theorem snd_get {j : Nat} (h : j < [Value.string ⟨#[]⟩, .string ⟨#[49]⟩, .string ⟨#[50]⟩, .string ⟨#[0]⟩, .string ⟨#[122, 122]⟩, .string ⟨#[57]⟩].length) : [Value.string ⟨#[]⟩, .string ⟨#[49]⟩, .string ⟨#[50]⟩, .string ⟨#[0]⟩, .string ⟨#[122, 122]⟩, .string ⟨#[57]⟩][j] = .string (sndK j) := by
  have h6 : j < 6 := h
  rcases (by omega : j = 0 ∨ j = 1 ∨ j = 2 ∨ j = 3 ∨ j = 4 ∨ j = 5) with rfl | rfl | rfl | rfl | rfl | rfl <;> rfl
theorem fst_at {j : Nat} (h : j < 4) : (#[Value.string ⟨#[97]⟩, .string ⟨#[98]⟩, .string ⟨#[97, 98]⟩, .string ⟨#[98, 111, 98]⟩] : Array Value)[j]? = some (.string (fstK j)) := by
  rcases (by omega : j = 0 ∨ j = 1 ∨ j = 2 ∨ j = 3) with rfl | rfl | rfl | rfl <;> rfl
theorem snd_at {j : Nat} (h : j < 6) : (#[Value.string ⟨#[]⟩, .string ⟨#[49]⟩, .string ⟨#[50]⟩, .string ⟨#[0]⟩, .string ⟨#[122, 122]⟩, .string ⟨#[57]⟩] : Array Value)[j]? = some (.string (sndK j)) := by
  rcases (by omega : j = 0 ∨ j = 1 ∨ j = 2 ∨ j = 3 ∨ j = 4 ∨ j = 5) with rfl | rfl | rfl | rfl | rfl | rfl <;> rfl
theorem fst_size (j : Nat) : 1 ≤ (fstK j).size ∧ (fstK j).size ≤ 3 := by
  rcases (by omega : j = 0 ∨ j = 1 ∨ j = 2 ∨ 3 ≤ j) with rfl | rfl | rfl | h
  · decide
  · decide
  · decide
  · obtain ⟨k, rfl⟩ : ∃ k, j = k + 3 := ⟨j - 3, by omega⟩
    show 1 ≤ (⟨#[98, 111, 98]⟩ : ByteArray).size ∧ (⟨#[98, 111, 98]⟩ : ByteArray).size ≤ 3
    decide
theorem snd_size (j : Nat) : (sndK j).size ≤ 2 := by
  rcases (by omega : j = 0 ∨ j = 1 ∨ j = 2 ∨ j = 3 ∨ j = 4 ∨ 5 ≤ j) with rfl | rfl | rfl | rfl | rfl | h
  · decide
  · decide
  · decide
  · decide
  · decide
  · obtain ⟨k, rfl⟩ : ∃ k, j = k + 5 := ⟨j - 5, by omega⟩
    show (⟨#[57]⟩ : ByteArray).size ≤ 2
    decide
theorem keyN_size (k : Nat) : 1 ≤ (keyN k).size ∧ (keyN k).size ≤ 5 := by
  unfold keyN
  have h1 := fst_size (k % 4)
  have h2 := snd_size (k / 4)
  rw [ByteArray.size_append]
  omega
set_option maxRecDepth 100000 in
set_option maxHeartbeats 4000000 in
theorem key_any (z : Int) (hz : (Lit.int .i64 z).wf = true) (w : World) :
    Calls Try.prog 26 #[.int .i64 z] w fun e w' => e = .returned (.string (keyR z)) ∧ Below w.heap.size w w' := by
  have q := pickN12_nat z 24 (by omega) (by omega) hz w
  have hk : pickN z 24 < 24 := by have := pickN_lt z 24 (by omega); omega
  obtain ⟨R, hR⟩ : ∃ R, keyR z = R := ⟨_, rfl⟩
  rw [hR]
  unfold keyR keyN at hR
  generalize pickN z 24 = k at *
  have HR := Lib.hid hR; clear hR
  have e1 : ((k : Int)).tmod 4 = ((k % 4 : Nat) : Int) := by rw [Int.tmod_eq_emod_of_nonneg (by omega)]; omega
  have e2 : ((k : Int)).tdiv 4 = ((k / 4 : Nat) : Int) := by rw [Int.tdiv_eq_ediv_of_nonneg (by omega)]; omega
  have e3 : IntKind.i64.wrap ((k % 4 : Nat) : Int) = ((k % 4 : Nat) : Int) := IntWalk.i64_in _ (by omega)
  have e4 : IntKind.i64.wrap ((k / 4 : Nat) : Int) = ((k / 4 : Nat) : Int) := IntWalk.i64_in _ (by omega)
  have h4 : k % 4 < 4 := by omega
  have h6 : k / 4 < 6 := by omega
  have f1 := fst_at h4
  have f2 := snd_at h6
  have f3 := @fst_get (k % 4)
  have f4 := @snd_get (k / 4)
  have hs : ∀ W : World, (Op.stringOp .add (fstK (k % 4)) (sndK (k / 4))).run Try.prog W = .ok (.string R) W := fun W => by
    rw [← HR.out]
    exact str_add (by have := fst_size (k % 4); have := snd_size (k / 4); omega) W
  generalize k % 4 = j at *
  generalize k / 4 = i at *
  generalize fstK j = a at *
  generalize sndK i = b at *
  have g1 : decide ((j : Int) < 0) = false := decide_eq_false (by omega)
  have g2 : decide ((4 : Int) ≤ (j : Int)) = false := decide_eq_false (by omega)
  have g3 : decide ((i : Int) < 0) = false := decide_eq_false (by omega)
  have g4 : decide ((6 : Int) ≤ (i : Int)) = false := decide_eq_false (by omega)
  have g5 : (j : Int) < 4 := by omega
  have g6 : (i : Int) < 6 := by omega
  have g7 : (0 : Int) ≤ (j : Int) := by omega
  have g8 : (0 : Int) ≤ (i : Int) := by omega
  go_enter Try.func26, Try.ntmps26
  go_wp2_with fail
  ((with_reducible refine q.mono ?_); rintro e W_ ⟨rfl, rfl⟩)
  go_wp2_with fail
  go_region
  all_goals
    go_wp2_with fail
    go_ret
    exact ⟨rfl, by first | exact (((Below.refl _ _).alloc (Nat.le_refl _) _).alloc (by simp) _).drew | exact bdn (((Below.refl _ _).alloc (Nat.le_refl _) _).alloc (by simp) _) _ | exact ((Below.refl _ _).alloc (Nat.le_refl _) _).alloc (by simp) _⟩
end Go.Proofs.Ytpnkkiokkhmjpaa
