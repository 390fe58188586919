/-
  The walk of the law VarintForth: for every text it returns true, and nothing that was in memory changes.
-/
import Derived.Test.YtjhpebfapddciaaStr
namespace Go.Proofs.Ytjhpebfapddciaa
open Go.RowKit

set_option maxRecDepth 100000 in
set_option maxHeartbeats 2000000 in
theorem varintForth_walk (s : ByteArray) (w : World) (hs : s.size ≤ 140737488351232) :
    Calls Try.prog 5 #[.string s] w fun e w' => e = .returned (.bool true) ∧ Below w.heap.size w w' := by
  have ht := take_any s (by unfold maxLen; omega)
  obtain ⟨n, k, r, hr⟩ : ∃ n k r, takeR s.data.toList = (n, k, r) := ⟨_, _, _, rfl⟩
  rw [hr] at ht
  dsimp only at ht
  have hl : s.data.toList.length = s.size := by simp
  by_cases h0 : r = 0
  · subst h0
    obtain ⟨hn, hk1, hk2, hv⟩ := takeR_ok hr
    have hn' : (n : Int) ≤ 9007199254740992 := by omega
    rw [hl] at hk2
    have hsl : ∀ W : World, (Instr.slice 9 (.string s) none (some (.int .i64 k)) none).run Try.prog W = .ok (.string (bs (vb n))) W := fun W => slice_to (by rw [hv]; rw [← bs_take]; rfl) hk2 W
    clear hn
    have HR := Lib.hid hr; clear hr
    have HV := Lib.hid hv; clear hv hl
    go_enter Try.func5, Try.ntmps5
    go_wp2_with fail
    refine (awake_any _).mono ?_; rintro e wa ⟨rfl, ba⟩
    go_wp2_with fail
    refine (ht _).mono ?_; rintro e W1 ⟨rfl, b1⟩
    go_wp2_with fail
    refine (put_nat n hn' _).mono ?_; rintro e W2 ⟨rfl, b2⟩
    go_wp2_with fail
    go_ret
    exact ⟨rfl, bch (bch ba b1) b2⟩
  · obtain ⟨rfl, rfl, h1, h2⟩ := takeR_no hr h0
    have HR := Lib.hid hr; clear hr
    rw [hl] at h2
    clear hl
    rcases h1 with rfl | rfl
    · have h8 : s.size < 8 := by omega
      clear h2 h0
      go_enter Try.func5, Try.ntmps5
      go_wp2_with fail
      refine (awake_any _).mono ?_; rintro e wa ⟨rfl, ba⟩
      go_wp2_with fail
      refine (ht _).mono ?_; rintro e W1 ⟨rfl, b1⟩
      go_wp2_with fail
      go_ret
      exact ⟨ret_bool (by simp; omega), bch ba b1⟩
    · clear h2 h0
      go_enter Try.func5, Try.ntmps5
      go_wp2_with fail
      refine (awake_any _).mono ?_; rintro e wa ⟨rfl, ba⟩
      go_wp2_with fail
      refine (ht _).mono ?_; rintro e W1 ⟨rfl, b1⟩
      go_wp2_with fail
      go_ret
      exact ⟨rfl, bch ba b1⟩
end Go.Proofs.Ytjhpebfapddciaa
