import Derived.Test.YtpnkkiokkhmjpaaFs
import Derived.Deep.QuietTactic
import Derived.BigQuiet
/-
  The contracts of field.Right and of the document's own: what rightB says; nothing that was in memory changes.
-/
namespace Go.Proofs.Ytpnkkiokkhmjpaa
open Go.RowKit

set_option maxHeartbeats 400000 in
theorem mayFollow_any (t a : Int) (w : World) :
    Calls Try.prog 78 #[.int .i64 t, .int .i64 a] w fun e w' => e = .returned (.bool (mayB t a)) ∧ w = w' := by
  by_cases h1 : a < t
  · by_cases h2 : t ≤ 1000000
    · have HM : Hid (mayB t a = true) := mayB_yes h1 h2
      go_enter Try.func78, Try.ntmps78
      go_wp2
      go_ret
      exact ⟨ret_bool (by rw [HM.out]), rfl⟩
    · have HM : Hid (mayB t a = false) := mayB_no.2 (by omega)
      go_enter Try.func78, Try.ntmps78
      go_wp2
      go_ret
      exact ⟨ret_bool (by rw [HM.out]), rfl⟩
  · have HM : Hid (mayB t a = false) := mayB_no.2 (by omega)
    go_enter Try.func78, Try.ntmps78
    go_wp2
    go_ret
    exact ⟨ret_bool (by rw [HM.out]), rfl⟩

set_option maxRecDepth 100000 in
set_option maxHeartbeats 2000000 in
theorem right_any (A : Option Addr) (n cap : Nat) (fs : List Fld) (w : World) (h : IsFs w A n fs) :
    Calls Try.prog 68 #[.slice A n cap] w fun e w' => e = .returned (.bool (rightB fs)) ∧ Below w.heap.size w w' := by
  obtain ⟨hn, hm, hwf, hc⟩ := h
  unfold maxLen at hm
  have HN := Lib.hid hn; clear hn
  have HC := Lib.hid hc; clear hc
  by_cases h64 : 64 < n
  · have HR : Hid (rightB fs = false) := rightB_long (by have := HN.out; omega)
    go_enter Try.func68, Try.ntmps68
    go_wp2_with fail
    go_ret
    exact ⟨ret_bool HR.out.symm, Below.refl _ _⟩
  · go_enter Try.func68, Try.ntmps68
    go_wp2_with fail
    go_loopw [3, 11] (fun a i wr => ∃ k : Nat, k ≤ n ∧ i = .int .i64 k ∧ a = .int .i64 (hd fs k) ∧ Hid (∀ j, j < k → okAt fs j = true) ∧ Below w.heap.size w wr) (fun _ i _ => n - (intOf i).toNat)
    case atStart => exact ⟨0, by omega, rfl, by rw [hd_zero], fun j hj => by omega, Below.refl _ _⟩
    case round =>
      obtain ⟨k, hk, rfl, rfl, hno, hbw⟩ := hrel
      by_cases hlt : k < n
      · obtain ⟨b, off, hA, hb, hat⟩ := HC.out (by omega)
        subst hA
        have HK : Hid (k < fs.length) := by have := HN.out; show k < fs.length; omega
        obtain ⟨c1, c2⟩ : wr.cell? ⟨b, off + k * 2, none⟩ = some (.int .i64 (tg fs k)) ∧ wr.cell? ⟨b, off + k * 2 + 1, none⟩ = some (.string (dt fs k)) := by
          have h := hat k HK.out
          exact ⟨(hbw.cell (p := ⟨b, off + k * 2, none⟩) hb).trans h.1, (hbw.cell (p := ⟨b, off + k * 2 + 1, none⟩) hb).trans h.2⟩
        have hsz : (dt fs k).size ≤ 9223372036854775807 := dt_sz hwf HK.out
        clear hat
        cases hM : mayB (tg fs k) (hd fs k) with
        | false =>
          have HR : Hid (rightB fs = false) := rightB_no HK.out (by unfold okAt; rw [hM]; rfl)
          go_wp2_with fail
          refine (mayFollow_any _ _ _).mono ?_; rintro e w' ⟨rfl, rfl⟩
          rw [hM]
          go_wp2_with fail
          go_ret
          exact ⟨ret_bool HR.out.symm, hbw.alloc hbw.size _⟩
        | true =>
          by_cases h1000 : 1000 < (dt fs k).size
          · have HR : Hid (rightB fs = false) := rightB_no HK.out (by unfold okAt; rw [hM]; simp; omega)
            go_wp2_with fail
            refine (mayFollow_any _ _ _).mono ?_; rintro e w' ⟨rfl, rfl⟩
            rw [hM]
            go_wp2_with fail
            go_ret
            exact ⟨ret_bool HR.out.symm, hbw.alloc hbw.size _⟩
          · have HO : Hid (okAt fs k = true) := by show okAt fs k = true; unfold okAt; rw [hM]; simp; omega
            go_wp2_with fail
            refine (mayFollow_any _ _ _).mono ?_; rintro e w' ⟨rfl, rfl⟩
            rw [hM]
            go_wp2_with fail
            go_roundw
            case rel => exact ⟨k + 1, by omega, by go_num, by rw [hd_succ], fun j hj => by rcases Nat.lt_or_ge j k with h | h; exact hno.out j h; rw [show j = k by omega]; exact HO.out, hbw.alloc hbw.size _⟩
            case measure => simp [intOf]; omega
      · have hkn : n = k := by omega
        subst hkn
        have HR : Hid (rightB fs = true) := rightB_yes (by have := HN.out; omega) (by have := HN.out; rw [← this]; exact hno.out)
        go_wp2_with fail
        go_ret
        exact ⟨ret_bool HR.out.symm, hbw⟩
end Go.Proofs.Ytpnkkiokkhmjpaa
