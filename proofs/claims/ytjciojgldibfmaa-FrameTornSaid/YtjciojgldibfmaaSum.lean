import Derived.Test.YtjciojgldibfmaaStr
import Derived.Test.YtjciojgldibfmaaGMath
import Derived.Laws.BitsAllLaws
/-
  The contracts of sum.Of (with its helper mixed), sum.Bytes and the document's own (careenref05.Of, careenref05.Bytes): Of answers sumR of the text's bytes; Bytes has the four bytes of a number that is a sum, nothing else. Nothing that was in memory changes.
-/
namespace Go.Proofs.Ytjciojgldibfmaa
open Go.RowKit

theorem u32_low (m : Nat) (h : m < 4294967296) : bits .and .u32 (m : Int) 1 = (m : Int) % 2 := by
  have := u32_and_nat m 1 h (by decide)
  rw [Nat.and_one_is_mod] at this
  simpa using this
theorem u32_put (a b : Nat) (ha : a < 4294967296) (hb : b < 4294967296) : bits .xor .u32 (a : Int) (b : Int) = ((a ^^^ b : Nat) : Int) := u32_xor_nat a b ha hb
/-- Exclusive or of two ints of 32 bits. -/
theorem i64_put (a b : Nat) (ha : a < 4294967296) (hb : b < 4294967296) : bits .xor .i64 (a : Int) (b : Int) = ((a ^^^ b : Nat) : Int) := by
  have hx := xor_lt32 ha hb
  show IntKind.i64.wrap ((BitVec.ofInt 64 (a : Int) ^^^ BitVec.ofInt 64 (b : Int)).toNat : Int) = _
  rw [BitVec.toNat_xor, BitVec.ofInt_natCast, BitVec.ofInt_natCast, BitVec.toNat_ofNat, BitVec.toNat_ofNat, Nat.mod_eq_of_lt (by omega), Nat.mod_eq_of_lt (by omega), IntKind.wrap_i64]
  omega
theorem crcN_odd {k m : Nat} (h : m % 2 = 1) : crcN (k + 1) m = crcN k ((m / 2) ^^^ 3988292384) := by show crcN k (crcStep m) = _; unfold crcStep; rw [if_pos h]
theorem crcN_even {k m : Nat} (h : ¬ m % 2 = 1) : crcN (k + 1) m = crcN k (m / 2) := by show crcN k (crcStep m) = _; unfold crcStep; rw [if_neg h]
theorem crcF_take (n : Nat) (s : ByteArray) (k : Nat) (h : k < s.size) : crcF n (s.data.toList.take (k + 1)) = crc8 (crcF n (s.data.toList.take k) ^^^ s[k].toNat) := by
  rw [List.take_succ_eq_append_getElem (by simpa using h), crcF_append]
  rfl

set_option maxRecDepth 100000 in
set_option maxHeartbeats 1000000 in
theorem mixed_any (n : Nat) (hn : n < 4294967296) (w : World) :
    Calls Try.prog 40 #[.int .u32 n] w fun e w' => e = .returned (.int .u32 (crc8 n)) ∧ w = w' := by
  go_enter Try.func40, Try.ntmps40
  go_wp2
  go_loop [0, 4] (fun s i => ∃ (k m : Nat), k ≤ 8 ∧ i = .int .i64 (8 - k : Nat) ∧ s = .int .u32 m ∧ m < 4294967296 ∧ crcN k m = crc8 n) (fun _ i => 8 - (intOf i).toNat)
  case atStart => exact ⟨8, n, by omega, rfl, rfl, hn, rfl⟩
  case round =>
    obtain ⟨k, m, hk, rfl, rfl, hm, hc⟩ := hrel
    have hl := u32_low m hm
    by_cases hk0 : k = 0
    · subst hk0
      go_wp2
      go_ret
      exact ⟨ret_int (by rw [← hc]; rfl), rfl⟩
    · obtain ⟨j, rfl⟩ : ∃ j, k = j + 1 := ⟨k - 1, by omega⟩
      by_cases ho : m % 2 = 1
      · have hd := crcN_odd (k := j) ho
        have hp := u32_put (m / 2) 3988292384 (by omega) (by decide)
        have hx : m / 2 ^^^ 3988292384 < 4294967296 := xor_lt32 (by omega) (by decide)
        have HX := Lib.hid hx; clear hx
        have HP := Lib.hid hp; clear hp
        have HC := Lib.hid hc; clear hc
        have HD := Lib.hid hd; clear hd
        go_wp2
        go_round
        case rel => exact ⟨j, m / 2 ^^^ 3988292384, by omega, by congr 1; omega, by rw [← HP.out]; rfl, HX.out, by rw [← HD.out]; exact HC.out⟩
        case measure => simp [intOf]; omega
      · have hd := crcN_even (k := j) ho
        have HC := Lib.hid hc; clear hc
        have HD := Lib.hid hd; clear hd
        go_wp2
        go_round
        case rel => exact ⟨j, m / 2, by omega, by congr 1; omega, rfl, by omega, by rw [← HD.out]; exact HC.out⟩
        case measure => simp [intOf]; omega

theorem not_u32 {m q : Nat} (h : m < 4294967296) (hq : 4294967295 - m = q) : bits .xor .u32 IntKind.u32.max (m : Int) = (q : Int) := by
  subst hq
  have h1 := u32_put 4294967295 m (by decide) h
  have h2 : (4294967295 : Nat) ^^^ m = 4294967295 - m := by
    have e : (4294967295 : Nat) ^^^ m = (m ^^^ (4294967295 - m)) ^^^ m := by rw [xor_ones h]
    rw [e, Nat.xor_comm m, Nat.xor_assoc, Nat.xor_self, Nat.xor_zero]
  rw [h2] at h1
  exact h1

set_option maxRecDepth 100000 in
set_option maxHeartbeats 1000000 in
theorem of_any (s : ByteArray) (hs : s.size ≤ 140737488355328) (w : World) :
    Calls Try.prog 34 #[.string s] w fun e w' => e = .returned (.int .i64 (sumR s.data.toList)) ∧ w = w' := by
  go_enter Try.func34, Try.ntmps34
  go_wp2
  go_loop [3, 7] (fun v i => ∃ (k m : Nat), k ≤ s.size ∧ i = .int .i64 k ∧ v = .int .u32 m ∧ m = crcF crcI (s.data.toList.take k)) (fun _ i => s.size - (intOf i).toNat)
  case atStart => exact ⟨0, 4294967295, by omega, rfl, rfl, rfl⟩
  case round =>
    obtain ⟨k, m, hk, rfl, rfl, hm⟩ := hrel
    have hl : m < 4294967296 := by rw [hm]; exact crcF_lt _ crcI_lt
    have HM := Lib.hid hm; clear hm
    by_cases h1 : k < s.size
    · have hb256 : s[k].toNat < 256 := s[k].toNat_lt
      have hx : m ^^^ s[k].toNat < 4294967296 := xor_lt32 hl (by omega)
      have hp := u32_put m s[k].toNat hl (by omega)
      have hst := crcF_take crcI s k h1
      have HS := Lib.hid hst; clear hst
      go_wp2_with fail
      ((with_reducible refine (mixed_any _ hx _).mono ?_); rintro e w1 ⟨rfl, rfl⟩)
      go_wp2_with fail
      go_round
      case rel => exact ⟨k + 1, _, by omega, by go_num, rfl, by rw [HS.out, ← HM.out]⟩
      case measure => simp [intOf]; omega
    · have hke : k = s.size := by omega
      have hn : ∃ q, 4294967295 - m = q := ⟨_, rfl⟩
      obtain ⟨q, hq⟩ := hn
      have hnot := not_u32 hl hq
      have hql : q < 4294967296 := by omega
      have hw : wrap64 (q : Int) = q := by unfold wrap64; omega
      have HQ := Lib.hid hq; clear hq
      subst hke
      go_wp2_with fail
      go_ret
      exact ⟨ret_int (by rw [← HQ.out, HM.out, List.take_of_length_le (by simp)]; rfl), rfl⟩

set_option maxRecDepth 100000 in
set_option maxHeartbeats 2000000 in
theorem refof_any (s : ByteArray) (hs : s.size ≤ 140737488355328) (w : World) :
    Calls Try.prog 28 #[.string s] w fun e w' => e = .returned (.int .i64 (sumR s.data.toList)) ∧ w = w' := by
  go_enter Try.func28, Try.ntmps28
  go_wp2
  go_loop [3, 4] (fun v i => ∃ (k m : Nat), k ≤ s.size ∧ i = .int .i64 k ∧ v = .int .i64 m ∧ m = crcF crcI (s.data.toList.take k)) (fun _ i => s.size - (intOf i).toNat)
  case atStart => exact ⟨0, 4294967295, by omega, rfl, rfl, rfl⟩
  case round =>
    obtain ⟨k, m, hk, rfl, rfl, hm⟩ := hrel
    have hl : m < 4294967296 := by rw [hm]; exact crcF_lt _ crcI_lt
    have HM := Lib.hid hm; clear hm
    by_cases h1 : k < s.size
    · have hb256 : s[k].toNat < 256 := s[k].toNat_lt
      have hx : m ^^^ s[k].toNat < 4294967296 := xor_lt32 hl (by omega)
      have hp := i64_put m s[k].toNat hl (by omega)
      have hst := crcF_take crcI s k h1
      rw [← HM.out] at hst
      generalize hy : m ^^^ s[k].toNat = y at *
      have HS := Lib.hid hst; clear hst hy
      go_wp2_with fail
      go_loop [3, 5] (fun v i => ∃ (j m : Nat), j ≤ 8 ∧ i = .int .i64 (8 - j : Nat) ∧ v = .int .i64 m ∧ m < 4294967296 ∧ crcN j m = crc8 y) (fun _ i => 8 - (intOf i).toNat)
      case atStart => exact ⟨8, y, by omega, rfl, rfl, hx, rfl⟩
      case round =>
        obtain ⟨j, m2, hj, rfl, rfl, hm2, hc⟩ := hrel
        clear hp hx HM hl
        by_cases hj0 : j = 0
        · subst hj0
          have hc2 : m2 = crc8 y := hc
          clear hc
          have HC := Lib.hid hc2; clear hc2
          go_wp2_with fail
          go_round
          case rel => exact ⟨k + 1, m2, by omega, by go_num, rfl, by rw [HS.out]; exact HC.out⟩
          case measure => simp [intOf]; omega
        · obtain ⟨i, rfl⟩ : ∃ i, j = i + 1 := ⟨j - 1, by omega⟩
          by_cases ho : m2 % 2 = 1
          · have hd := crcN_odd (k := i) ho
            have hp := i64_put (m2 / 2) 3988292384 (by omega) (by decide)
            have hx : m2 / 2 ^^^ 3988292384 < 4294967296 := xor_lt32 (by omega) (by decide)
            have HX := Lib.hid hx; clear hx
            have HP := Lib.hid hp; clear hp
            have HC := Lib.hid hc; clear hc
            have HD := Lib.hid hd; clear hd
            go_wp2_with fail
            go_round
            case rel => exact ⟨i, m2 / 2 ^^^ 3988292384, by omega, by congr 1; omega, by rw [← HP.out]; rfl, HX.out, by rw [← HD.out]; exact HC.out⟩
            case measure => simp [intOf]; omega
          · have hd := crcN_even (k := i) ho
            have HC := Lib.hid hc; clear hc
            have HD := Lib.hid hd; clear hd
            go_wp2_with fail
            go_round
            case rel => exact ⟨i, m2 / 2, by omega, by congr 1; omega, rfl, by omega, by rw [← HD.out]; exact HC.out⟩
            case measure => simp [intOf]; omega
    · have hke : k = s.size := by omega
      subst hke
      go_wp2_with fail
      go_ret
      exact ⟨ret_int (by rw [HM.out, List.take_of_length_le (by simp)]; unfold sumR; have := crcF_lt s.data.toList crcI_lt; omega), rfl⟩
end Go.Proofs.Ytjciojgldibfmaa
