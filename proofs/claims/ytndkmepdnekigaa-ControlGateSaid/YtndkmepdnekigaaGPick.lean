import Derived.Test.YtndkmepdnekigaaRows
import Derived.WalkKit
import Derived.ProofKit
import Derived.OpenShut
/-
  The contract of the law's own helper 'pick': of n things (n from 1 on) it picks one, from 0 to n - 1, and leaves the memory alone.
-/
namespace Go.Proofs.Ytndkmepdnekigaa
open Go.RowKit

theorem ret_int {k : IntKind} {a b : Int} (h : a = b) : Ending.returned (.int k a) = .returned (.int k b) := by rw [h]
theorem ret_bool {a b : Bool} (h : a = b) : Ending.returned (.bool a) = .returned (.bool b) := by rw [h]

/-- Which of n things a raw number speaks of. -/
def pickZ (c n : Int) : Int := (if c < 0 then -(c + 1) else c) % n
theorem pickZ_lo (c n : Int) (h : 0 < n) : 0 ≤ pickZ c n := Int.emod_nonneg _ (by omega)
theorem pickZ_hi (c n : Int) (h : 0 < n) : pickZ c n < n := Int.emod_lt_of_pos _ h
theorem pickZ_neg {c n : Int} (h : c < 0) : (-(c + 1)) % n = pickZ c n := by unfold pickZ; rw [if_pos h]
theorem pickZ_pos {c n : Int} (h : 0 ≤ c) : c % n = pickZ c n := by unfold pickZ; rw [if_neg (by omega)]

set_option maxHeartbeats 400000 in
theorem pick_any (c n : Int) (hn : 0 < n) (hn2 : n ≤ 9223372036854775807) (hc1 : -9223372036854775808 ≤ c) (hc2 : c ≤ 9223372036854775807) (w : World) :
    Calls Try.prog 14 #[.int .i64 c, .int .i64 n] w fun e w' => e = .returned (.int .i64 (pickZ c n)) ∧ w = w' := by
  by_cases h : c < 0
  · go_enter Try.func14, Try.ntmps14
    go_wp2
    go_ret
    exact ⟨ret_int (by rw [← pickZ_neg h, ← Int.neg_tmod, Int.tmod_eq_emod_of_nonneg (by omega)]), rfl⟩
  · have h' : 0 ≤ c := by omega
    go_enter Try.func14, Try.ntmps14
    go_wp2
    go_ret
    exact ⟨ret_int (pickZ_pos h'), rfl⟩

/-- The same as a natural number. -/
def pickN (c n : Int) : Nat := (pickZ c n).toNat
theorem pickN_lt (c n : Int) (h : 0 < n) : (pickN c n : Int) < n := by
  have h1 := pickZ_lo c n h
  have h2 := pickZ_hi c n h
  unfold pickN; omega
theorem pick_nat (c n : Int) (hn : 0 < n) (hn2 : n ≤ 9223372036854775807) (hc : (Lit.int .i64 c).wf = true) (w : World) :
    Calls Try.prog 14 #[.int .i64 c, .int .i64 n] w fun e w' => e = .returned (.int .i64 (pickN c n)) ∧ w = w' := by
  have hb := bounds_i64 hc
  refine (pick_any c n hn hn2 hb.1 hb.2 w).mono ?_
  rintro e w' ⟨rfl, rfl⟩
  exact ⟨ret_int (by have := pickZ_lo c n hn; unfold pickN; omega), rfl⟩
end Go.Proofs.Ytndkmepdnekigaa


/-
  The contract of the law package's own 'pick' (beside careenlaw02's): of n things it picks one.
-/
namespace Go.Proofs.Ytndkmepdnekigaa
open Go.RowKit

end Go.Proofs.Ytndkmepdnekigaa


/-
  The contract of the law package's own 'pick' (beside careenlaw02's): of n things it picks one.
-/
namespace Go.Proofs.Ytndkmepdnekigaa
open Go.RowKit

end Go.Proofs.Ytndkmepdnekigaa


/-
  The contract of the law package's own 'pick' (beside careenlaw02's): of n things it picks one.
-/
namespace Go.Proofs.Ytndkmepdnekigaa
open Go.RowKit

end Go.Proofs.Ytndkmepdnekigaa


/-
  The contract of the law package's own 'pick' (beside careenlaw02's): of n things it picks one.
-/
namespace Go.Proofs.Ytndkmepdnekigaa
open Go.RowKit

end Go.Proofs.Ytndkmepdnekigaa


/-
  The contract of the law package's own 'pick' (beside careenlaw02's): of n things it picks one.
-/
namespace Go.Proofs.Ytndkmepdnekigaa
open Go.RowKit

end Go.Proofs.Ytndkmepdnekigaa


/-
  The contract of the law package's own 'pick' (beside careenlaw02's): of n things it picks one.
-/
namespace Go.Proofs.Ytndkmepdnekigaa
open Go.RowKit

end Go.Proofs.Ytndkmepdnekigaa


/-
  The contract of the law package's own 'pick' (beside careenlaw02's): of n things it picks one.
-/
namespace Go.Proofs.Ytndkmepdnekigaa
open Go.RowKit

end Go.Proofs.Ytndkmepdnekigaa


/-
  The contract of the law package's own 'pick' (beside careenlaw02's): of n things it picks one.
-/
namespace Go.Proofs.Ytndkmepdnekigaa
open Go.RowKit

end Go.Proofs.Ytndkmepdnekigaa


/-
  The contract of the law package's own 'pick' (beside careenlaw02's): of n things it picks one.
-/
namespace Go.Proofs.Ytndkmepdnekigaa
open Go.RowKit

end Go.Proofs.Ytndkmepdnekigaa


/-
  The contract of the law package's own 'pick' (beside careenlaw02's): of n things it picks one.
-/
namespace Go.Proofs.Ytndkmepdnekigaa
open Go.RowKit

end Go.Proofs.Ytndkmepdnekigaa


/-
  The contract of the law package's own 'pick' (beside careenlaw02's): of n things it picks one.
-/
namespace Go.Proofs.Ytndkmepdnekigaa
open Go.RowKit

end Go.Proofs.Ytndkmepdnekigaa

