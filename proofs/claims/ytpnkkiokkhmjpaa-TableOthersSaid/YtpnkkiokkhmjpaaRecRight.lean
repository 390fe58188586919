import Derived.Test.YtpnkkiokkhmjpaaRight
import Derived.Test.YtpnkkiokkhmjpaaGMath
import Derived.Deep.QuietTactic
import Derived.BigQuiet
/-
  The contracts of record.Right and of what it calls: what rightR says; nothing that was in memory changes.
-/
namespace Go.Proofs.Ytpnkkiokkhmjpaa
open Go.RowKit

/-- A record as a value. -/
abbrev rcV (r : Rcd) (x : Value) : Value := .agg #[.string r.key, .string r.value, .int .i64 r.rev, .int .i64 r.life, .string r.note, x]
/-- Its texts are not too long. -/
def RcWf (r : Rcd) : Prop := r.key.size ≤ 140737488365000 ∧ r.value.size ≤ 140737488365000 ∧ r.note.size ≤ 140737488365000

def verB (v : Int) : Bool := decide (v = 1 ∨ v = 2)
theorem version_any (v : Int) (w : World) : Calls Try.prog 53 #[.int .i64 v] w fun e w' => e = .returned (.bool (verB v)) ∧ w = w' := by
  by_cases h1 : v = 1
  · subst h1
    go_enter Try.func53, Try.ntmps53
    go_wp2
    go_ret
    exact ⟨rfl, rfl⟩
  · by_cases h2 : v = 2
    · subst h2
      go_enter Try.func53, Try.ntmps53
      go_wp2
      go_ret
      exact ⟨rfl, rfl⟩
    · have HB : Hid (verB v = false) := by show verB v = false; unfold verB; simp [h1, h2]
      have e1 : (v == 1) = false := by simpa using h1
      have e2 : (v == 2) = false := by simpa using h2
      clear h1 h2
      go_enter Try.func53, Try.ntmps53
      go_wp2
      go_ret
      exact ⟨ret_bool (by rw [HB.out]), rfl⟩

def textB (s : ByteArray) (m : Int) : Bool := decide (1 ≤ s.size ∧ (s.size : Int) ≤ m)
theorem toList_size (s : ByteArray) : s.toList = [] ↔ s.size = 0 := by
  have e : s.toList = s.data.toList := by rw [bs_of s, bs_toList]; simp [bs]
  rw [e]
  constructor
  · intro h; have : s.data.toList.length = 0 := by rw [h]; rfl
    simpa using this
  · intro h; exact List.eq_nil_of_length_eq_zero (by simpa using h)
theorem isText_any (s : ByteArray) (m : Int) (hs : s.size ≤ 9223372036854775807) (w : World) : Calls Try.prog 54 #[.string s, .int .i64 m] w fun e w' => e = .returned (.bool (textB s m)) ∧ w = w' := by
  by_cases h1 : s.size = 0
  · have HB : Hid (textB s m = false) := by show textB s m = false; unfold textB; simp; omega
    have e1 : s.toList = [] := (toList_size s).2 h1
    clear h1
    go_enter Try.func54, Try.ntmps54
    go_wp2
    go_ret
    exact ⟨ret_bool (by rw [HB.out]), rfl⟩
  · have e1 : s.toList.isEmpty = false := by
      rw [Bool.eq_false_iff]; intro h; exact h1 ((toList_size s).1 (by simpa using h))
    by_cases h2 : (s.size : Int) ≤ m
    · have HB : Hid (textB s m = true) := by show textB s m = true; unfold textB; simp; omega
      clear h1
      go_enter Try.func54, Try.ntmps54
      go_wp2
      go_ret
      exact ⟨ret_bool (by rw [HB.out]), rfl⟩
    · have HB : Hid (textB s m = false) := by show textB s m = false; unfold textB; simp; omega
      clear h1
      go_enter Try.func54, Try.ntmps54
      go_wp2
      go_ret
      exact ⟨ret_bool (by rw [HB.out]), rfl⟩

def numB (n : Int) : Bool := decide (0 ≤ n ∧ n ≤ 9007199254740992)
theorem isNumber_any (n : Int) (w : World) : Calls Try.prog 55 #[.int .i64 n] w fun e w' => e = .returned (.bool (numB n)) ∧ w = w' := by
  by_cases h1 : 0 ≤ n
  · by_cases h2 : n ≤ 9007199254740992
    · have HB : Hid (numB n = true) := by show numB n = true; unfold numB; simp; omega
      go_enter Try.func55, Try.ntmps55
      go_wp2
      go_ret
      exact ⟨ret_bool (by rw [HB.out]), rfl⟩
    · have HB : Hid (numB n = false) := by show numB n = false; unfold numB; simp; omega
      go_enter Try.func55, Try.ntmps55
      go_wp2
      go_ret
      exact ⟨ret_bool (by rw [HB.out]), rfl⟩
  · have HB : Hid (numB n = false) := by show numB n = false; unfold numB; simp; omega
    go_enter Try.func55, Try.ntmps55
    go_wp2
    go_ret
    exact ⟨ret_bool (by rw [HB.out]), rfl⟩

theorem knows_any (v t : Int) (w : World) : Calls Try.prog 70 #[.int .i64 v, .int .i64 t] w fun e w' => e = .returned (.bool (knowB v t)) ∧ w = w' := by
  obtain ⟨k, hk⟩ : ∃ k, topT v = k := ⟨_, rfl⟩
  have HK := Lib.hid hk
  by_cases hv : v = 2
  · have hk5 : k = 5 := by rw [← hk]; unfold topT; rw [if_pos hv]
    subst hk5
    have e2 : (v == 2) = true := by simpa using hv
    clear hv hk
    by_cases h1 : 1 ≤ t
    · by_cases h2 : t ≤ 5
      · have HB : Hid (knowB v t = true) := knowB_iff.2 (by rw [HK.out]; omega)
        go_enter Try.func70, Try.ntmps70
        go_wp2
        go_ret
        exact ⟨ret_bool (by rw [HB.out]), rfl⟩
      · have HB : Hid (knowB v t = false) := knowB_no.2 (by rw [HK.out]; omega)
        go_enter Try.func70, Try.ntmps70
        go_wp2
        go_ret
        exact ⟨ret_bool (by rw [HB.out]), rfl⟩
    · have HB : Hid (knowB v t = false) := knowB_no.2 (by rw [HK.out]; omega)
      go_enter Try.func70, Try.ntmps70
      go_wp2
      go_ret
      exact ⟨ret_bool (by rw [HB.out]), rfl⟩
  · have hk5 : k = 3 := by rw [← hk]; unfold topT; rw [if_neg hv]
    subst hk5
    have e2 : (v == 2) = false := by simpa using hv
    clear hv hk
    by_cases h1 : 1 ≤ t
    · by_cases h2 : t ≤ 3
      · have HB : Hid (knowB v t = true) := knowB_iff.2 (by rw [HK.out]; omega)
        go_enter Try.func70, Try.ntmps70
        go_wp2
        go_ret
        exact ⟨ret_bool (by rw [HB.out]), rfl⟩
      · have HB : Hid (knowB v t = false) := knowB_no.2 (by rw [HK.out]; omega)
        go_enter Try.func70, Try.ntmps70
        go_wp2
        go_ret
        exact ⟨ret_bool (by rw [HB.out]), rfl⟩
    · have HB : Hid (knowB v t = false) := knowB_no.2 (by rw [HK.out]; omega)
      go_enter Try.func70, Try.ntmps70
      go_wp2
      go_ret
      exact ⟨ret_bool (by rw [HB.out]), rfl⟩

set_option maxRecDepth 100000 in
set_option maxHeartbeats 2000000 in
theorem fewExtra_any (A : Option Addr) (n cap : Nat) (fs : List Fld) (w : World) (h : IsFs w A n fs) :
    Calls Try.prog 69 #[.slice A n cap] w fun e w' => e = .returned (.bool (decide (few fs ≤ 8))) ∧ Below w.heap.size w w' := by
  obtain ⟨hn, hm, hwf, hc⟩ := h
  unfold maxLen at hm
  have HN := Lib.hid hn; clear hn
  have HC := Lib.hid hc; clear hc
  go_enter Try.func69, Try.ntmps69
  go_wp2_with fail
  go_loopw [3, 8] (fun a i wr => ∃ (k q : Nat), k ≤ n ∧ q ≤ k ∧ i = .int .i64 k ∧ a = .int .i64 q ∧ Hid (few (fs.take k) = q) ∧ Below w.heap.size w wr) (fun _ i _ => n - (intOf i).toNat)
  case atStart => exact ⟨0, 0, by omega, by omega, rfl, rfl, rfl, Below.refl _ _⟩
  case round =>
    obtain ⟨k, q, hk, hq, rfl, rfl, hf, hbw⟩ := hrel
    by_cases hlt : k < n
    · obtain ⟨b, off, hA, hb, hat⟩ := HC.out (by omega)
      subst hA
      have HK : Hid (k < fs.length) := by have := HN.out; show k < fs.length; omega
      obtain ⟨c1, c2⟩ : wr.cell? ⟨b, off + k * 2, none⟩ = some (.int .i64 (tg fs k)) ∧ wr.cell? ⟨b, off + k * 2 + 1, none⟩ = some (.string (dt fs k)) := by
        have h := hat k HK.out
        exact ⟨(hbw.cell (p := ⟨b, off + k * 2, none⟩) hb).trans h.1, (hbw.cell (p := ⟨b, off + k * 2 + 1, none⟩) hb).trans h.2⟩
      clear hat
      by_cases h4 : tg fs k = 4
      · have HS : Hid (few (fs.take (k + 1)) = q) := (few_take HK.out).trans (by rw [hf.out, if_neg (by simp [h4])]; rfl)
        have e4 : (tg fs k != 4) = false := by simpa using h4
        clear h4
        go_wp2_with fail
        go_roundw
        case rel => exact ⟨k + 1, q, by omega, by omega, by go_num, rfl, HS, hbw.alloc hbw.size _⟩
        case measure => simp [intOf]; omega
      · by_cases h5 : tg fs k = 5
        · have HS : Hid (few (fs.take (k + 1)) = q) := (few_take HK.out).trans (by rw [hf.out, if_neg (by simp [h5])]; rfl)
          have e4 : (tg fs k != 4) = true := by simpa using h4
          have e5 : (tg fs k != 5) = false := by simpa using h5
          clear h4 h5
          go_wp2_with fail
          go_roundw
          case rel => exact ⟨k + 1, q, by omega, by omega, by go_num, rfl, HS, hbw.alloc hbw.size _⟩
          case measure => simp [intOf]; omega
        · have HS : Hid (few (fs.take (k + 1)) = q + 1) := (few_take HK.out).trans (by rw [hf.out, if_pos ⟨h4, h5⟩])
          have e4 : (tg fs k != 4) = true := by simpa using h4
          have e5 : (tg fs k != 5) = true := by simpa using h5
          clear h4 h5
          go_wp2_with fail
          go_roundw
          case rel => exact ⟨k + 1, q + 1, by omega, by omega, by go_num, by go_num, HS, hbw.alloc hbw.size _⟩
          case measure => simp [intOf]; omega
    · have hkn : n = k := by omega
      subst hkn
      have HQ : Hid (few fs = q) := by
        have := hf.out
        rwa [HN.out, List.take_of_length_le (Nat.le_refl _)] at this
      by_cases h8 : q ≤ 8
      · go_wp2_with fail
        go_ret
        exact ⟨ret_bool (by rw [HQ.out]; simp; omega), hbw⟩
      · go_wp2_with fail
        go_ret
        exact ⟨ret_bool (by rw [HQ.out]; simp; omega), hbw⟩
end Go.Proofs.Ytpnkkiokkhmjpaa
