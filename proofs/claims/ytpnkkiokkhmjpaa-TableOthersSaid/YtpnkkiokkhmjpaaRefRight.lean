import Derived.Test.YtpnkkiokkhmjpaaRight
/-
  The contract of the document's own Right: what rightB says; memory stays as it was but for what is drawn.
-/
namespace Go.Proofs.Ytpnkkiokkhmjpaa
open Go.RowKit

set_option maxRecDepth 100000 in
set_option maxHeartbeats 4000000 in
theorem refright_any (A : Option Addr) (n cap : Nat) (fs : List Fld) (w : World) (h : IsFs w A n fs) :
    Calls Try.prog 72 #[.slice A n cap] w fun e w' => e = .returned (.bool (rightB fs)) ∧ Below w.heap.size w w' := by
  obtain ⟨hn, hm, hwf, hc⟩ := h
  unfold maxLen at hm
  have HN := Lib.hid hn; clear hn
  have HC := Lib.hid hc; clear hc
  go_enter Try.func72, Try.ntmps72
  go_wp2_with fail
  go_loopw [3] (fun i wr => ∃ k : Nat, k ≤ n ∧ i = .int .i64 k ∧ Hid (∀ j, j < k → okAt fs j = true) ∧ Below w.heap.size w wr) (fun i _ => n - (intOf i).toNat)
  case atStart => exact ⟨0, by omega, rfl, fun j hj => by omega, Below.refl _ _⟩
  case round =>
    obtain ⟨k, hk, rfl, hno, hbw⟩ := hrel
    by_cases hlt : k < n
    · obtain ⟨b, off, hA, hb, hat⟩ := HC.out (by omega)
      subst hA
      have HK : Hid (k < fs.length) := by have := HN.out; show k < fs.length; omega
      obtain ⟨c1, c2⟩ : wr.cell? ⟨b, off + k * 2, none⟩ = some (.int .i64 (tg fs k)) ∧ wr.cell? ⟨b, off + k * 2 + 1, none⟩ = some (.string (dt fs k)) := by
        have h := hat k HK.out
        exact ⟨(hbw.cell (p := ⟨b, off + k * 2, none⟩) hb).trans h.1, (hbw.cell (p := ⟨b, off + k * 2 + 1, none⟩) hb).trans h.2⟩
      have hsz : (dt fs k).size ≤ 9223372036854775807 := dt_sz hwf HK.out
      have hhd := hd_nonneg k (Nat.le_of_lt HK.out) hno.out
      have hb0 : (0 : Int) ≤ (k : Int) := by omega
      have hb1 : (k : Int) < (n : Int) := by omega
      by_cases t1 : tg fs k < 1
      · have HR : Hid (rightB fs = false) := rightB_no HK.out (okAt_no (by omega))
        clear hhd
        go_wp2_with fail
        go_quiet (fail)
        go_wp2
        go_ret
        exact ⟨ret_bool HR.out.symm, bdn hbw _⟩
      have d1 : decide (tg fs k < 1) = false := by simpa using t1
      by_cases t2 : 1000000 < tg fs k
      · have HR : Hid (rightB fs = false) := rightB_no HK.out (okAt_no (by omega))
        clear hhd
        go_wp2_with fail
        go_quiet (fail)
        go_wp2
        go_ret
        exact ⟨ret_bool HR.out.symm, bdn hbw _⟩
      have d2 : decide (1000000 < tg fs k) = false := by simpa using t2
      rcases Nat.eq_zero_or_pos k with hk0 | hkp
      · have hd0 : hd fs k = 0 := by rw [hk0, hd_zero]
        have d3 : decide (0 < k) = false := by simpa using hk0
        have d3' : decide ((0 : Int) < (k : Int)) = false := by simp; omega
        by_cases t4 : 1000 < (dt fs k).size
        · have HR : Hid (rightB fs = false) := rightB_no HK.out (okAt_no (by omega))
          clear hhd hd0 hk0
          go_wp2_with fail
          go_quiet (fail)
          go_wp2
          go_ret
          exact ⟨ret_bool HR.out.symm, bdn hbw _⟩
        · have d4 : decide (1000 < (dt fs k).size) = false := by simpa using t4
          have HO : Hid (okAt fs k = true) := okAt_iff.2 (by omega)
          clear hhd hd0
          have H0 := Lib.hid hk0; clear hk0
          go_wp2_with fail
          go_quiet (fail)
          go_wp2
          go_roundw
          case rel => exact ⟨k + 1, by omega, by go_num, fun j hj => by have := H0.out; rw [show j = k by omega]; exact HO.out, bdn hbw _⟩
          case measure => simp [intOf]; omega
      · obtain ⟨q, rfl⟩ : ∃ q, k = q + 1 := ⟨k - 1, by omega⟩
        obtain ⟨c3, c4⟩ : wr.cell? ⟨b, off + q * 2, none⟩ = some (.int .i64 (tg fs q)) ∧ wr.cell? ⟨b, off + q * 2 + 1, none⟩ = some (.string (dt fs q)) := by
          have h := hat q (by have := HK.out; omega)
          exact ⟨(hbw.cell (p := ⟨b, off + q * 2, none⟩) hb).trans h.1, (hbw.cell (p := ⟨b, off + q * 2 + 1, none⟩) hb).trans h.2⟩
        rw [hd_succ] at hhd
        clear hat
        by_cases t3 : tg fs (q + 1) ≤ tg fs q
        · have HR : Hid (rightB fs = false) := rightB_no HK.out (okAt_no (by rw [hd_succ]; omega))
          clear hhd
          go_wp2_with fail
          go_quiet (fail)
          go_wp2
          go_ret
          exact ⟨ret_bool HR.out.symm, bdn hbw _⟩
        have d3 : decide (tg fs (q + 1) ≤ tg fs q) = false := by simpa using t3
        by_cases t4 : 1000 < (dt fs (q + 1)).size
        · have HR : Hid (rightB fs = false) := rightB_no HK.out (okAt_no (by omega))
          clear hhd
          go_wp2_with fail
          go_quiet (fail)
          go_wp2
          go_ret
          exact ⟨ret_bool HR.out.symm, bdn hbw _⟩
        · have d4 : decide (1000 < (dt fs (q + 1)).size) = false := by simpa using t4
          have HO : Hid (okAt fs (q + 1) = true) := okAt_iff.2 (by rw [hd_succ]; omega)
          clear hhd
          go_wp2_with fail
          go_quiet (fail)
          go_wp2
          go_roundw
          case rel => exact ⟨q + 1 + 1, by omega, by go_num, fun j hj => by rcases Nat.lt_or_ge j (q + 1) with h | h; exact hno.out j h; rw [show j = q + 1 by omega]; exact HO.out, bdn hbw _⟩
          case measure => simp [intOf]; omega
    · have hkn : n = k := by omega
      subst hkn
      by_cases h64 : n ≤ 64
      · have HR : Hid (rightB fs = true) := rightB_yes (by have := HN.out; omega) (by have := HN.out; rw [← this]; exact hno.out)
        go_wp2_with fail
        go_ret
        exact ⟨ret_bool (by rw [HR.out]; simp; omega), hbw⟩
      · have HR : Hid (rightB fs = false) := rightB_long (by have := HN.out; omega)
        go_wp2_with fail
        go_ret
        exact ⟨ret_bool (by rw [HR.out]; simp; omega), hbw⟩
end Go.Proofs.Ytpnkkiokkhmjpaa
