/-
  The contract of the law package's own 'pick' (beside careenlaw02's): of n things it picks one.
-/
import Derived.Test.YtkhpkjnnkmoeoaaPick
namespace Go.Proofs.Ytkhpkjnnkmoeoaa
open Go.RowKit

set_option maxHeartbeats 400000 in
theorem pickL_any (c n : Int) (hn : 0 < n) (hn2 : n ≤ 9223372036854775807) (hc1 : -9223372036854775808 ≤ c) (hc2 : c ≤ 9223372036854775807) (w : World) :
    Calls Try.prog 11 #[.int .i64 c, .int .i64 n] w fun e w' => e = .returned (.int .i64 (pickZ c n)) ∧ w = w' := by
  by_cases h : c < 0
  · go_enter Try.func11, Try.ntmps11
    go_wp2
    go_ret
    exact ⟨ret_int (by rw [← pickZ_neg h, ← Int.neg_tmod, Int.tmod_eq_emod_of_nonneg (by omega)]), rfl⟩
  · have h' : 0 ≤ c := by omega
    go_enter Try.func11, Try.ntmps11
    go_wp2
    go_ret
    exact ⟨ret_int (pickZ_pos h'), rfl⟩

theorem pickL_nat (c n : Int) (hn : 0 < n) (hn2 : n ≤ 9223372036854775807) (hc : (Lit.int .i64 c).wf = true) (w : World) :
    Calls Try.prog 11 #[.int .i64 c, .int .i64 n] w fun e w' => e = .returned (.int .i64 (pickN c n)) ∧ w = w' := by
  have hb := bounds_i64 hc
  refine (pickL_any c n hn hn2 hb.1 hb.2 w).mono ?_
  rintro e w' ⟨rfl, rfl⟩
  exact ⟨ret_int (by have := pickZ_lo c n hn; unfold pickN; omega), rfl⟩
end Go.Proofs.Ytkhpkjnnkmoeoaa
