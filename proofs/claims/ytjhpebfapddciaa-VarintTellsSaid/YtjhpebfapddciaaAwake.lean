/-
  The law's own first calls ('awake'): they answer true, and nothing that was in memory changes.
-/
import Derived.Test.YtjhpebfapddciaaTake
namespace Go.Proofs.Ytjhpebfapddciaa
open Go.RowKit

theorem vb300 : bs (vb ((300 : Int).toNat)) = ⟨#[172, 2]⟩ := by
  rw [show (300 : Int).toNat = 300 from rfl, vb_big (by omega), vb_small (by omega)]; rfl

theorem put300 (w : World) : Calls Try.prog 11 #[.int .i64 300] w fun e w' => e = .returned (.tuple #[.string ⟨#[172, 2]⟩, .int .i64 0]) ∧ Below w.heap.size w w' := by
  have := put_ok 300 (by omega) (by omega) w
  rwa [vb300] at this
theorem takeA (w : World) : Calls Try.prog 13 #[.string ⟨#[172, 2, 120]⟩] w fun e w' => e = .returned (.tuple #[.int .i64 300, .int .i64 2, .int .i64 0]) ∧ Below w.heap.size w w' :=
  take_any ⟨#[172, 2, 120]⟩ (by decide) w
theorem takeB (w : World) : Calls Try.prog 13 #[.string ⟨#[128, 0]⟩] w fun e w' => e = .returned (.tuple #[.int .i64 0, .int .i64 0, .int .i64 11]) ∧ Below w.heap.size w w' :=
  take_any ⟨#[128, 0]⟩ (by decide) w
theorem takeC (w : World) : Calls Try.prog 13 #[.string ⟨#[128]⟩] w fun e w' => e = .returned (.tuple #[.int .i64 0, .int .i64 0, .int .i64 10]) ∧ Below w.heap.size w w' :=
  take_any ⟨#[128]⟩ (by decide) w

set_option maxRecDepth 100000 in
set_option maxHeartbeats 1000000 in
theorem awake_any (w : World) : Calls Try.prog 9 #[] w fun e w' => e = .returned (.bool true) ∧ Below w.heap.size w w' := by
  go_enter Try.func9, Try.ntmps9
  go_wp2_with fail
  refine (put300 _).mono ?_; rintro e w1 ⟨rfl, b1⟩
  go_wp2_with fail
  refine (put_no (-1) (.inl (by omega)) _).mono ?_; rintro e w2 ⟨rfl, b2⟩
  go_wp2_with fail
  refine (takeA _).mono ?_; rintro e w3 ⟨rfl, b3⟩
  go_wp2_with fail
  refine (takeB _).mono ?_; rintro e w4 ⟨rfl, b4⟩
  go_wp2_with fail
  refine (takeC _).mono ?_; rintro e w5 ⟨rfl, b5⟩
  go_wp2_with fail
  go_ret
  exact ⟨rfl, b1.trans ((b2.mono b1.size).trans ((b3.mono (Nat.le_trans b1.size b2.size)).trans ((b4.mono (Nat.le_trans (Nat.le_trans b1.size b2.size) b3.size)).trans (b5.mono (Nat.le_trans (Nat.le_trans (Nat.le_trans b1.size b2.size) b3.size) b4.size)))))⟩
end Go.Proofs.Ytjhpebfapddciaa
