import Derived.Test.YtkcmjhpbjgjebaaFs
/-
  The contracts of field.Find and of the document's own: what findR says; nothing that was in memory changes.
-/
namespace Go.Proofs.Ytkcmjhpbjgjebaa
open Go.RowKit

set_option maxRecDepth 100000 in
set_option maxHeartbeats 2000000 in
theorem reffind_any (A : Option Addr) (n cap : Nat) (fs : List Fld) (tag : Int) (w : World) (h : IsFs w A n fs) :
    Calls Try.prog 58 #[.slice A n cap, .int .i64 tag] w fun e w' => e = .returned (.tuple #[.string (findR fs tag).1, .bool (findR fs tag).2]) ∧ w = w' := by
  obtain ⟨hn, hm, hwf, hc⟩ := h
  unfold maxLen at hm
  have HN := Lib.hid hn; clear hn
  have HC := Lib.hid hc; clear hc
  go_enter Try.func58, Try.ntmps58
  go_wp2_with fail
  go_loop [6] (fun i => ∃ k : Nat, k ≤ n ∧ i = .int .i64 k ∧ Hid (∀ j, j < k → tg fs j ≠ tag)) (fun i => n - (intOf i).toNat)
  case atStart => exact ⟨0, by omega, rfl, fun j hj => by omega⟩
  case round =>
    obtain ⟨k, hk, rfl, hno⟩ := hrel
    by_cases hlt : k < n
    · obtain ⟨b, off, hA, hb, hat⟩ := HC.out (by omega)
      subst hA
      obtain ⟨c1, c2⟩ : w.cell? ⟨b, off + k * 2, none⟩ = some (.int .i64 (tg fs k)) ∧ w.cell? ⟨b, off + k * 2 + 1, none⟩ = some (.string (dt fs k)) := hat k (by have := HN.out; omega)
      clear hat
      by_cases he : tg fs k = tag
      · have he' : (tg fs k == tag) = true := by simp [he]
        have HF : Hid (findR fs tag = (dt fs k, true)) := findR_at (by have := HN.out; omega) hno.out he
        clear he
        go_wp2_with fail
        go_ret2
        exact ⟨by rw [HF.out]; rfl, rfl⟩
      · have he' : (tg fs k == tag) = false := by simp [he]
        have HE : Hid (tg fs k ≠ tag) := he
        clear he
        go_wp2_with fail
        go_round
        case rel => exact ⟨k + 1, by omega, by go_num, fun j hj => by rcases Nat.lt_or_ge j k with h | h; exact hno.out j h; rw [show j = k by omega]; exact HE.out⟩
        case measure => simp [intOf]; omega
    · have hkn : n = k := by omega
      subst hkn
      have HF : Hid (findR fs tag = (ByteArray.empty, false)) := findR_no (by have := HN.out; rw [← this]; exact hno.out)
      go_wp2_with fail
      go_ret2
      exact ⟨by rw [HF.out]; rfl, rfl⟩
end Go.Proofs.Ytkcmjhpbjgjebaa
