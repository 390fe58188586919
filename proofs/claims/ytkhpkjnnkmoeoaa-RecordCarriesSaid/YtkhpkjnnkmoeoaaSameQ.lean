/-
  The contract of the document's Same of fields once more: it only draws.
-/
import Derived.Test.YtkhpkjnnkmoeoaaSame
namespace Go.Proofs.Ytkhpkjnnkmoeoaa
open Go.RowKit

/-- Nothing but draws. -/
def DrewPost (w w' : World) : Prop := ∃ nn, w' = w.drewN nn

set_option maxRecDepth 100000 in
set_option maxHeartbeats 4000000 in
theorem same_quiet (A B : Option Addr) (n m cap cap2 : Nat) (fs gs : List Fld) (w : World) (h : IsFs w A n fs) (h2 : IsFs w B m gs) :
    Calls Try.prog 21 #[.slice A n cap, .slice B m cap2] w fun e w' => e = .returned (.bool (sameB fs gs)) ∧ DrewPost w w' := by
  obtain ⟨hn, hm, _, hc⟩ := h
  obtain ⟨hn2, hm2, _, hc2⟩ := h2
  unfold maxLen at hm hm2
  have HN := Lib.hid hn; clear hn
  have HC := Lib.hid hc; clear hc
  have HN2 := Lib.hid hn2; clear hn2
  have HC2 := Lib.hid hc2; clear hc2
  by_cases hnm : n = m
  · subst hnm
    go_enter Try.func21, Try.ntmps21
    go_wp2_with fail
    go_loopw [5] (fun i wr => ∃ k : Nat, k ≤ n ∧ i = .int .i64 k ∧ Hid (∀ j, j < k → tg fs j = tg gs j ∧ (dt fs j).toList = (dt gs j).toList) ∧ ∃ nn, wr = w.drewN nn) (fun i _ => n - (intOf i).toNat)
    case atStart => exact ⟨0, by omega, rfl, fun j hj => by omega, 0, rfl⟩
    case round =>
      obtain ⟨k, hk, rfl, hno, nn, rfl⟩ := hrel
      by_cases hlt : k < n
      · obtain ⟨b, off, hA, hb, hat⟩ := HC.out (by omega)
        subst hA
        obtain ⟨b2, off2, hA2, hb2, hat2⟩ := HC2.out (by omega)
        subst hA2
        have HK : Hid (k < fs.length) := by have := HN.out; show k < fs.length; omega
        obtain ⟨c1, c2⟩ : w.cell? ⟨b, off + k * 2, none⟩ = some (.int .i64 (tg fs k)) ∧ w.cell? ⟨b, off + k * 2 + 1, none⟩ = some (.string (dt fs k)) := by
          have h := hat k HK.out
          exact ⟨h.1, h.2⟩
        obtain ⟨c3, c4⟩ : w.cell? ⟨b2, off2 + k * 2, none⟩ = some (.int .i64 (tg gs k)) ∧ w.cell? ⟨b2, off2 + k * 2 + 1, none⟩ = some (.string (dt gs k)) := by
          have h := hat2 k (by have := HN2.out; omega)
          exact ⟨h.1, h.2⟩
        clear hat hat2
        have hb0 : (0 : Int) ≤ (k : Int) := by omega
        have hb1 : (k : Int) < (n : Int) := by omega
        have hgu := guardFld
        have heq := eqFld (tg fs k) (tg gs k) (dt fs k) (dt gs k)
        by_cases he : tg fs k = tg gs k ∧ (dt fs k).toList = (dt gs k).toList
        · have hE : (tg fs k == tg gs k && (dt fs k).toList == (dt gs k).toList) = true := by simp [he.1, he.2]
          rw [hE] at heq
          have HE := Lib.hid he; clear he hE
          go_wp2_with fail
          go_quiet (fail)
          go_wp2
          go_roundw
          case rel => exact ⟨k + 1, by omega, by go_num, fun j hj => by rcases Nat.lt_or_ge j k with h | h; exact hno.out j h; rw [show j = k by omega]; exact HE.out, _, rfl⟩
          case measure => simp [intOf]; omega
        · have hE : (tg fs k == tg gs k && (dt fs k).toList == (dt gs k).toList) = false := by simpa using he
          have HR : Hid (sameB fs gs = false) := sameB_no_at (i := k) (by by_cases h : tg fs k = tg gs k; exact .inr (fun h3 => he ⟨h, h3⟩); exact .inl h)
          rw [hE] at heq
          clear he hE
          go_wp2_with fail
          go_quiet (fail)
          go_wp2
          go_ret
          exact ⟨ret_bool HR.out.symm, nn + nq, by simp⟩
      · have hkn : n = k := by omega
        subst hkn
        have HR : Hid (sameB fs gs = true) := sameB_yes (by have := HN.out; have := HN2.out; omega) (by have := HN.out; rw [← this]; exact hno.out)
        go_wp2_with fail
        go_ret
        exact ⟨ret_bool HR.out.symm, _, rfl⟩
  · have HR : Hid (sameB fs gs = false) := sameB_no_len (by have := HN.out; have := HN2.out; omega)
    have hd : ((n : Int) == (m : Int)) = false := by simp; omega
    go_enter Try.func21, Try.ntmps21
    go_wp2_with fail
    go_ret
    exact ⟨ret_bool HR.out.symm, 0, rfl⟩
end Go.Proofs.Ytkhpkjnnkmoeoaa
