import Derived.Test.YtpnkkiokkhmjpaaRecRight2
import Derived.Test.YtpnkkiokkhmjpaaRefRight
/-
  The contracts of the document's own Right of records, and of what it calls: what rightR says; nothing that was in memory changes.
-/
namespace Go.Proofs.Ytpnkkiokkhmjpaa
open Go.RowKit

theorem refKnows_any (v t : Int) (hv : v = 1 ∨ v = 2) (w : World) : Calls Try.prog 71 #[.int .i64 v, .int .i64 t] w fun e w' => e = .returned (.bool (knowB v t)) ∧ w = w' := by
  by_cases h1 : 1 ≤ t
  · rcases hv with rfl | rfl
    · by_cases h2 : t ≤ 3
      · have HB : Hid (knowB 1 t = true) := knowB_iff.2 ⟨h1, h2⟩
        go_enter Try.func71, Try.ntmps71
        go_wp2
        go_ret
        exact ⟨ret_bool (by rw [HB.out]), rfl⟩
      · have HB : Hid (knowB 1 t = false) := knowB_no.2 (fun h => h2 h.2)
        go_enter Try.func71, Try.ntmps71
        go_wp2
        go_ret
        exact ⟨ret_bool (by rw [HB.out]), rfl⟩
    · by_cases h2 : t ≤ 5
      · have HB : Hid (knowB 2 t = true) := knowB_iff.2 ⟨h1, h2⟩
        go_enter Try.func71, Try.ntmps71
        go_wp2
        go_ret
        exact ⟨ret_bool (by rw [HB.out]), rfl⟩
      · have HB : Hid (knowB 2 t = false) := knowB_no.2 (fun h => h2 h.2)
        go_enter Try.func71, Try.ntmps71
        go_wp2
        go_ret
        exact ⟨ret_bool (by rw [HB.out]), rfl⟩
  · have HB : Hid (knowB v t = false) := knowB_no.2 (fun h => h1 h.1)
    go_enter Try.func71, Try.ntmps71
    go_wp2
    go_ret
    exact ⟨ret_bool (by rw [HB.out]), rfl⟩

set_option maxRecDepth 100000 in
set_option maxHeartbeats 2000000 in
theorem refExtra_any (v : Int) (hv : v = 1 ∨ v = 2) (A : Option Addr) (n cap : Nat) (fs : List Fld) (w : World) (h : IsFs w A n fs) :
    Calls Try.prog 58 #[.int .i64 v, .slice A n cap] w fun e w' => e = .returned (.bool (extraB v fs)) ∧ Below w.heap.size w w' := by
  have p1 := refright_any A n cap fs w h
  obtain ⟨hn, hm, hwf, hc⟩ := h
  unfold maxLen at hm
  have HN := Lib.hid hn; clear hn
  have HC := Lib.hid hc; clear hc
  go_enter Try.func58, Try.ntmps58
  go_wp2_with fail
  go_loop [5, 6] (fun a i => ∃ (k q : Nat), k ≤ n ∧ q ≤ k ∧ i = .int .i64 k ∧ a = .int .i64 q ∧ Hid (few (fs.take k) = q) ∧ Hid (∀ j, j < k → knowB v (tg fs j) = false)) (fun _ i => n - (intOf i).toNat)
  case atStart => exact ⟨0, 0, by omega, by omega, rfl, rfl, rfl, fun j hj => by omega⟩
  case round =>
    obtain ⟨k, q, hk, hq, rfl, rfl, hf, hno⟩ := hrel
    by_cases hlt : k < n
    · obtain ⟨b, off, hA, hb, hat⟩ := HC.out (by omega)
      subst hA
      have HK : Hid (k < fs.length) := by have := HN.out; show k < fs.length; omega
      obtain ⟨c1, c2⟩ : w.cell? ⟨b, off + k * 2, none⟩ = some (.int .i64 (tg fs k)) ∧ w.cell? ⟨b, off + k * 2 + 1, none⟩ = some (.string (dt fs k)) := hat k HK.out
      clear hat
      have p3 := refKnows_any v (tg fs k) hv
      cases hK : knowB v (tg fs k) with
      | true =>
        rw [hK] at p3
        have HB : Hid (extraB v fs = false) := extraB_not (fun h => by have := h.2.2 k HK.out; rw [hK] at this; cases this)
        clear hK hv p1
        go_wp2_with fail
        ((with_reducible refine (p3 _).mono ?_); rintro e w3 ⟨rfl, rfl⟩)
        go_wp2_with fail
        go_ret
        exact ⟨ret_bool (by rw [HB.out]), Below.refl _ _⟩
      | false =>
        rw [hK] at p3
        have HKK := Lib.hid hK; clear hK
        have HNX : Hid (∀ j, j < k + 1 → knowB v (tg fs j) = false) := fun j hj => by
          rcases Nat.lt_or_ge j k with h | h
          · exact hno.out j h
          · rw [show j = k by omega]; exact HKK.out
        clear hv p1
        by_cases h4 : tg fs k = 4
        · have HS : Hid (few (fs.take (k + 1)) = q) := (few_take HK.out).trans (by rw [hf.out, if_neg (by simp [h4])]; rfl)
          have e4 : (tg fs k != 4) = false := by simpa using h4
          clear h4
          go_wp2_with fail
          ((with_reducible refine (p3 _).mono ?_); rintro e w3 ⟨rfl, rfl⟩)
          go_wp2_with fail
          go_round
          case rel => exact ⟨k + 1, q, by omega, by omega, by go_num, rfl, HS, HNX⟩
          case measure => simp [intOf]; omega
        · by_cases h5 : tg fs k = 5
          · have HS : Hid (few (fs.take (k + 1)) = q) := (few_take HK.out).trans (by rw [hf.out, if_neg (by simp [h5])]; rfl)
            have e4 : (tg fs k != 4) = true := by simpa using h4
            have e5 : (tg fs k != 5) = false := by simpa using h5
            clear h4 h5
            go_wp2_with fail
            ((with_reducible refine (p3 _).mono ?_); rintro e w3 ⟨rfl, rfl⟩)
            go_wp2_with fail
            go_round
            case rel => exact ⟨k + 1, q, by omega, by omega, by go_num, rfl, HS, HNX⟩
            case measure => simp [intOf]; omega
          · have HS : Hid (few (fs.take (k + 1)) = q + 1) := (few_take HK.out).trans (by rw [hf.out, if_pos ⟨h4, h5⟩])
            have e4 : (tg fs k != 4) = true := by simpa using h4
            have e5 : (tg fs k != 5) = true := by simpa using h5
            clear h4 h5
            go_wp2_with fail
            ((with_reducible refine (p3 _).mono ?_); rintro e w3 ⟨rfl, rfl⟩)
            go_wp2_with fail
            go_round
            case rel => exact ⟨k + 1, q + 1, by omega, by omega, by go_num, by go_num, HS, HNX⟩
            case measure => simp [intOf]; omega
    · have hkn : n = k := by omega
      subst hkn
      have HQ : Hid (few fs = q) := by
        have := hf.out
        rwa [HN.out, List.take_of_length_le (Nat.le_refl _)] at this
      have HU : Hid (∀ j, j < fs.length → knowB v (tg fs j) = false) := by
        have := hno.out
        rwa [HN.out] at this
      cases hR : rightB fs with
      | false =>
        rw [hR] at p1
        have HB : Hid (extraB v fs = false) := extraB_not (fun h => by rw [hR] at h; exact absurd h.1 (by simp))
        clear hR hv
        go_wp2_with fail
        ((with_reducible refine p1.mono ?_); rintro e w3 ⟨rfl, b1⟩)
        go_wp2_with fail
        go_ret
        exact ⟨ret_bool (by rw [HB.out]), b1⟩
      | true =>
        rw [hR] at p1
        by_cases h8 : q ≤ 8
        · have HB : Hid (extraB v fs = true) := extraB_iff.2 ⟨hR, by rw [HQ.out]; exact h8, HU.out⟩
          clear hR hv
          go_wp2_with fail
          ((with_reducible refine p1.mono ?_); rintro e w3 ⟨rfl, b1⟩)
          go_wp2_with fail
          go_ret
          exact ⟨ret_bool (by rw [HB.out]; simp; omega), b1⟩
        · have HB : Hid (extraB v fs = false) := extraB_not (fun h => h8 (by have := h.2.1; rw [HQ.out] at this; exact this))
          clear hR hv
          go_wp2_with fail
          ((with_reducible refine p1.mono ?_); rintro e w3 ⟨rfl, b1⟩)
          go_wp2_with fail
          go_ret
          exact ⟨ret_bool (by rw [HB.out]; simp; omega), b1⟩

theorem toList_ne {s : ByteArray} (h : s.size ≠ 0) : s.toList.isEmpty = false := by
  rw [Bool.eq_false_iff]; intro h2; exact h ((toList_size s).1 (by simpa using h2))

set_option maxRecDepth 100000 in
set_option maxHeartbeats 4000000 in
theorem refrRight_any (v : Int) (r : Rcd) (A : Option Addr) (n cap : Nat) (w : World) (hr : RcWf r) (h : IsFs w A n r.extra) :
    Calls Try.prog 38 #[.int .i64 v, rcV r (.slice A n cap)] w fun e w' => e = .returned (.bool (rightR v r)) ∧ Below w.heap.size w w' := by
  obtain ⟨hs1, hs2, hs3⟩ := hr
  have hbw : Below w.heap.size w (w.alloc (.cells #[.string r.key, .string r.value, .int .i64 r.rev, .int .i64 r.life, .string r.note, .slice A n cap] 47)) := (Below.refl _ _).alloc (Nat.le_refl _) _
  have hno : ∀ (p : Prop), (RightP v r → p) → ¬ p → Hid (rightR v r = false) := fun p h1 h2 => rightR_no (fun h => h2 (h1 h))
  have HNO := Lib.hid hno; clear hno
  have h0 := h.below hbw
  clear h
  by_cases hv : v = 1 ∨ v = 2
  rotate_left
  · have HB := HNO.out _ (fun h => h.1) hv
    have e1 : (v != 1) = true := by simp; exact fun h => hv (.inl h)
    have e2 : (v != 2) = true := by simp; exact fun h => hv (.inr h)
    clear hv h0
    go_enter Try.func38, Try.ntmps38
    go_wp2_with fail
    go_ret
    exact ⟨ret_bool (by rw [HB.out]), hbw⟩
  have hv12 : (v != 1) = true ∧ (v != 2) = false ∨ (v != 1) = false := by
    rcases hv with rfl | rfl
    · exact .inr rfl
    · exact .inl ⟨rfl, rfl⟩
  by_cases h2 : 1 ≤ r.key.size ∧ r.key.size ≤ 16
  rotate_left
  · have HB := HNO.out _ (fun h => h.2.1) h2
    clear h0 hv
    rcases (by omega : (r.key.size : Int) < 1 ∨ 1 ≤ (r.key.size : Int) ∧ 16 < (r.key.size : Int)) with h3 | ⟨h3, h4⟩ <;> rcases hv12 with ⟨e1, e2⟩ | e1 <;> clear h2 <;> (go_enter Try.func38, Try.ntmps38; go_wp2_with fail; go_ret; exact ⟨ret_bool (by rw [HB.out]), hbw⟩)
  have k1 : 1 ≤ (r.key.size : Int) := by omega
  have k2 : (r.key.size : Int) ≤ 16 := by omega
  by_cases h3 : r.value.size ≤ 200
  rotate_left
  · have HB := HNO.out _ (fun h => h.2.2.1) h3
    clear h0 hv
    have k3 : 200 < (r.value.size : Int) := by omega
    clear h2 h3
    rcases hv12 with ⟨e1, e2⟩ | e1 <;> (go_enter Try.func38, Try.ntmps38; go_wp2_with fail; go_ret; exact ⟨ret_bool (by rw [HB.out]), hbw⟩)
  have k3 : (r.value.size : Int) ≤ 200 := by omega
  by_cases h4 : 0 ≤ r.rev ∧ r.rev ≤ 9007199254740992
  rotate_left
  · have HB := HNO.out _ (fun h => h.2.2.2.1) h4
    clear h0 hv h2 h3
    rcases (by omega : r.rev < 0 ∨ 0 ≤ r.rev ∧ 9007199254740992 < r.rev) with h5 | ⟨h5, h6⟩ <;> rcases hv12 with ⟨e1, e2⟩ | e1 <;> clear h4 <;> (go_enter Try.func38, Try.ntmps38; go_wp2_with fail; go_ret; exact ⟨ret_bool (by rw [HB.out]), hbw⟩)
  obtain ⟨k4, k5⟩ := h4
  cases h5 : laterB v r with
  | false =>
    have HB := HNO.out _ (fun h => h.2.2.2.2.1) (by rw [h5]; simp)
    clear h0 hv12
    rcases hv with rfl | rfl
    · have h6 : ¬ (r.life = 0 ∧ r.note.size = 0) := fun h => by rw [laterB_one.2 h] at h5; cases h5
      clear h5 h2 h3
      by_cases h7 : r.life = 0
      · have e6 : (r.life != 0) = false := by simpa using h7
        have e7 : r.note.toList.isEmpty = false := toList_ne (fun h => h6 ⟨h7, h⟩)
        have e8 : r.note.toList ≠ [] := by intro h; rw [h] at e7; cases e7
        clear h6 h7
        go_enter Try.func38, Try.ntmps38
        go_wp2_with fail
        go_ret
        exact ⟨ret_bool (by rw [HB.out]), hbw⟩
      · have e6 : (r.life != 0) = true := by simpa using h7
        clear h6 h7
        go_enter Try.func38, Try.ntmps38
        go_wp2_with fail
        go_ret
        exact ⟨ret_bool (by rw [HB.out]), hbw⟩
    · have h6 : ¬ (0 ≤ r.life ∧ r.life ≤ 9007199254740992 ∧ r.note.size ≤ 40) := fun h => by rw [laterB_two.2 h] at h5; cases h5
      clear h5 h2 h3
      rcases (by omega : r.life < 0 ∨ 0 ≤ r.life ∧ 9007199254740992 < r.life ∨ 0 ≤ r.life ∧ r.life ≤ 9007199254740992 ∧ 40 < (r.note.size : Int)) with h7 | ⟨h7, h8⟩ | ⟨h7, h8, h9⟩ <;> clear h6 <;> (go_enter Try.func38, Try.ntmps38; go_wp2_with fail; go_ret; exact ⟨ret_bool (by rw [HB.out]), hbw⟩)
  | true =>
    have HB : Hid (rightR v r = extraB v r.extra) := by
      show _ = _
      rw [Bool.eq_iff_iff, rightR_iff]
      exact ⟨fun h => h.2.2.2.2.2, fun h => ⟨hv, h2, h3, ⟨k4, k5⟩, h5, h⟩⟩
    have p5 := refExtra_any v hv A n cap r.extra _ h0
    clear h0 hv12
    rcases hv with rfl | rfl
    · obtain ⟨h6, h7⟩ := laterB_one.1 h5
      have e6 : (r.life != 0) = false := by simpa using h6
      have e7 : r.note.toList = [] := (toList_size _).2 h7
      have e8 : 0 ≤ r.life := by omega
      have e9 : r.life ≤ 9007199254740992 := by omega
      have e10 : (r.note.size : Int) ≤ 40 := by omega
      clear h5 h6 h7 h2 h3
      go_enter Try.func38, Try.ntmps38
      go_wp2_with fail
      ((with_reducible refine p5.mono ?_); rintro e w3 ⟨rfl, b1⟩)
      go_wp2_with fail
      go_ret
      exact ⟨ret_bool (by rw [HB.out]), bch hbw b1⟩
    · obtain ⟨h6, h7, h8⟩ := laterB_two.1 h5
      have e10 : (r.note.size : Int) ≤ 40 := by omega
      clear h5 h2 h3 h8
      go_enter Try.func38, Try.ntmps38
      go_wp2_with fail
      ((with_reducible refine p5.mono ?_); rintro e w3 ⟨rfl, b1⟩)
      go_wp2_with fail
      go_ret
      exact ⟨ret_bool (by rw [HB.out]), bch hbw b1⟩
end Go.Proofs.Ytpnkkiokkhmjpaa
