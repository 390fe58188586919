import Derived.Test.YtjdpihppniibjaaTake
/-
  The contract of the document's own Take (careenref01.Take): for every text what takeR says of its bytes; memory stays as it was.
-/
namespace Go.Proofs.Ytjdpihppniibjaa
open Go.RowKit

/-- 128 to the k-th. -/
def pw (k : Nat) : Nat := 128 ^ k
theorem pw_le {k : Nat} (h : k ≤ 8) : pw k ≤ 72057594037927936 := by
  have h1 : 128 ^ k ≤ 128 ^ 8 := Nat.pow_le_pow_right (by omega) h
  have h2 : (128 : Nat) ^ 8 = 72057594037927936 := by decide
  unfold pw; omega
theorem pw_succ (k : Nat) : pw (k + 1) = pw k * 128 := by unfold pw; rw [Nat.pow_succ]
theorem pw_lt {k : Nat} (h : k < 8) : pw k ≤ 562949953421312 := by have h1 := pw_le (k := k + 1) h; rw [pw_succ] at h1; omega
theorem dig_pw (s : ByteArray) (k : Nat) (h : k < s.size) : digA s k = s[k].toNat % 128 * pw k := by unfold digA pw; rw [byteA_eq s k h]
theorem val_pw (s : ByteArray) (k : Nat) (h : k ≤ s.size) : val (s.data.toList.take k) < pw k := by unfold pw; exact val_take_lt s k h

set_option maxRecDepth 100000 in
set_option maxHeartbeats 2000000 in
theorem reftake_any (s : ByteArray) (hs : s.size ≤ maxLen) (w : World) :
    Calls Try.prog 38 #[.string s] w fun e w' => e = .returned (.tuple #[.int .i64 (takeR s.data.toList).1, .int .i64 (takeR s.data.toList).2.1, .int .i64 (takeR s.data.toList).2.2]) ∧ w = w' := by
  unfold maxLen at hs
  have hsl : s.data.toList.length = s.size := by simp
  have HS := Lib.hid hsl; clear hsl
  go_enter Try.func38, Try.ntmps38
  go_wp2
  go_loop [5, 6, 7] (fun n u i => ∃ k : Nat, k ≤ lead s.data.toList ∧ k ≤ 8 ∧ k ≤ s.size ∧ i = .int .i64 k ∧ u = .int .i64 (pw k) ∧ n = .int .i64 (val (s.data.toList.take k))) (fun _ _ i => 8 - (intOf i).toNat)
  case atStart => exact ⟨0, Nat.zero_le _, by omega, by omega, rfl, rfl, rfl⟩
  case round =>
    obtain ⟨k, hk, hk8, hks, rfl, rfl, rfl⟩ := hrel
    have hP := pw_le hk8
    have HK := Lib.hid hk; clear hk
    by_cases h8 : k < 8
    · by_cases h1 : k < s.size
      · have hV := val_pw s (k + 1) h1
        have hP1 := pw_le (k := k + 1) h8
        rw [pw_succ] at hP1 hV
        have hst := val_step s k h1
        have hD : ((s[k].toNat : Int) % 128 * (pw k : Int)) = (digA s k : Int) := by rw [dig_pw s k h1]; simp
        have hsum : ((val (s.data.toList.take k) : Int) + (digA s k : Int)) = (val (s.data.toList.take (k + 1)) : Int) := by rw [hst]; simp
        have hD1 : (digA s k : Int) ≤ 9007199254740992000 := by omega
        have hV1 : (val (s.data.toList.take (k + 1)) : Int) ≤ 9007199254740992000 := by omega
        have hP2 : (pw k : Int) ≤ 562949953421312 := by have := pw_lt h8; omega
        have hb256 : (s[k].toNat : Int) ≤ 255 := by have := s[k].toNat_lt; omega
        clear hV hP1 hst hP
        by_cases hb : s[k].toNat < 128
        · have HE : Hid (lead s.data.toList = k) := by
            have h2 := HK.out
            have h3 := lead_ge s.data.toList k
            have h4 := byteA_eq s k h1
            unfold byteA at h4
            rw [h4] at h3
            show lead s.data.toList = k
            omega
          have hat : (s.data.toList[k]?.getD 0).toNat = s[k].toNat := by
            have h4 := byteA_eq s k h1
            unfold byteA at h4
            rw [h4]
          have HAT := Lib.hid hat; clear hat
          by_cases m : 9007199254740992 < (val (s.data.toList.take (k + 1)) : Int)
          · have hE : Hid (takeR s.data.toList = (0, 0, 11)) := by
              have h2 := HE.out; have h3 := HS.out
              show takeR s.data.toList = (0, 0, 11)
              unfold takeR
              rw [h2, if_pos (by omega), if_pos (.inl (by omega))]
            go_wp2
            refine bodyPost_ret (results_tmp3 rfl _ _ _) rfl ?_
            exact ⟨by rw [hE.out]; rfl, rfl⟩
          · by_cases z : 0 < k ∧ s[k].toNat = 0
            · have hE : Hid (takeR s.data.toList = (0, 0, 11)) := by
                have h2 := HE.out; have h3 := HS.out; have h4 := HAT.out
                show takeR s.data.toList = (0, 0, 11)
                unfold takeR
                rw [h2, if_pos (by omega), if_pos (.inr ⟨z.1, by rw [h4]; exact z.2⟩)]
              obtain ⟨z1, z2⟩ := z
              have z3 : ((s[k].toNat : Int) == 0) = true := by simp [z2]
              clear z2
              go_wp2
              refine bodyPost_ret (results_tmp3 rfl _ _ _) rfl ?_
              exact ⟨by rw [hE.out]; rfl, rfl⟩
            · have hE : Hid (takeR s.data.toList = (val (s.data.toList.take (k + 1)), k + 1, 0)) := by
                have h2 := HE.out; have h3 := HS.out; have h4 := HAT.out
                show takeR s.data.toList = _
                unfold takeR
                rw [h2, if_pos (by omega), if_neg (by rw [h4]; omega)]
              by_cases z1 : 0 < k
              · have z3 : ((s[k].toNat : Int) == 0) = false := by simp; omega
                clear z
                go_wp2
                refine bodyPost_ret (results_tmp3 rfl _ _ _) rfl ?_
                exact ⟨by rw [hE.out]; rfl, rfl⟩
              · clear z
                go_wp2
                refine bodyPost_ret (results_tmp3 rfl _ _ _) rfl ?_
                exact ⟨by rw [hE.out]; rfl, rfl⟩
        · have HE : Hid (k + 1 ≤ lead s.data.toList) := by
            have h2 := HK.out
            have h3 := lead_at s.data.toList
            have h4 := byteA_eq s k h1
            unfold byteA at h4
            show k + 1 ≤ lead s.data.toList
            rcases Nat.lt_or_ge k (lead s.data.toList) with h | h
            · exact h
            · exfalso
              have e : lead s.data.toList = k := by omega
              rw [e, h4] at h3
              exact hb (h3 (by simpa using h1))
          go_wp2
          go_round
          case rel => exact ⟨k + 1, HE.out, by omega, by omega, by go_num, by rw [pw_succ]; go_num, rfl⟩
          case measure => simp [intOf]; omega
      · have hE : Hid (takeR s.data.toList = (0, 0, 10)) := by
          have h2 := HK.out; have h3 := HS.out
          show takeR s.data.toList = (0, 0, 10)
          unfold takeR
          rw [if_neg (by omega), if_neg (by omega)]
        have hge : s.size ≤ k := by omega
        clear h1
        go_wp2
        refine bodyPost_ret (results_tmp3 rfl _ _ _) rfl ?_
        exact ⟨by rw [hE.out]; rfl, rfl⟩
    · have hge : 8 ≤ k := by omega
      have hE : Hid (takeR s.data.toList = (0, 0, 11)) := by
        have h2 := HK.out; have h3 := HS.out
        show takeR s.data.toList = (0, 0, 11)
        unfold takeR
        rw [if_neg (by omega), if_pos (by omega)]
      clear h8
      go_wp2
      all_goals
        refine bodyPost_ret (results_tmp3 rfl _ _ _) rfl ?_
        exact ⟨by rw [hE.out]; rfl, rfl⟩
end Go.Proofs.Ytjdpihppniibjaa
