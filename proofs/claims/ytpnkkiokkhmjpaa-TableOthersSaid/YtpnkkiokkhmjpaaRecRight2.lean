import Derived.Test.YtpnkkiokkhmjpaaRecRight
/-
  The contracts of record.extraRight, record.laterRight and record.Right: what rightR says; nothing that was in memory changes.
-/
namespace Go.Proofs.Ytpnkkiokkhmjpaa
open Go.RowKit

set_option maxRecDepth 100000 in
set_option maxHeartbeats 2000000 in
theorem extraRight_any (v : Int) (A : Option Addr) (n cap : Nat) (fs : List Fld) (w : World) (h : IsFs w A n fs) :
    Calls Try.prog 57 #[.int .i64 v, .slice A n cap] w fun e w' => e = .returned (.bool (extraB v fs)) ∧ Below w.heap.size w w' := by
  have p1 := right_any A n cap fs w h
  cases hR : rightB fs with
  | false =>
    rw [hR] at p1
    have HB : Hid (extraB v fs = false) := extraB_not (fun h => by rw [hR] at h; exact absurd h.1 (by simp))
    clear hR h
    go_enter Try.func57, Try.ntmps57
    go_wp2_with fail
    ((with_reducible refine p1.mono ?_); rintro e w1 ⟨rfl, b1⟩)
    go_wp2_with fail
    go_ret
    exact ⟨ret_bool (by rw [HB.out]), b1⟩
  | true =>
    rw [hR] at p1
    have HR := Lib.hid hR; clear hR
    by_cases h8 : few fs ≤ 8
    · have p2 := fun w h => fewExtra_any A n cap fs w h
      rw [show decide (few fs ≤ 8) = true from by simpa using h8] at p2
      have H8 := Lib.hid h8; clear h8
      have P2 := Lib.hid p2; clear p2
      go_enter Try.func57, Try.ntmps57
      go_wp2_with fail
      ((with_reducible refine p1.mono ?_); rintro e w1 ⟨rfl, b1⟩)
      have h1 := h.below b1
      clear h
      go_wp2_with fail
      ((with_reducible refine (P2.out _ h1).mono ?_); rintro e w2 ⟨rfl, b2⟩)
      obtain ⟨hn, hm, hwf, hc⟩ := h1.below b2
      clear h1
      have b12 := bch b1 b2
      unfold maxLen at hm
      have HN := Lib.hid hn; clear hn
      have HC := Lib.hid hc; clear hc
      go_wp2_with fail
      go_loopw [17] (fun i wr => ∃ (k : Nat), k ≤ n ∧ i = .int .i64 k ∧ Hid (∀ j, j < k → knowB v (tg fs j) = false) ∧ Below w2.heap.size w2 wr) (fun i _ => n - (intOf i).toNat)
      case atStart => exact ⟨0, by omega, rfl, fun j hj => by omega, Below.refl _ _⟩
      case round =>
        obtain ⟨k, hk, rfl, hno, hbw⟩ := hrel
        by_cases hlt : k < n
        · obtain ⟨b, off, hA, hb, hat⟩ := HC.out (by omega)
          subst hA
          have HK : Hid (k < fs.length) := by have := HN.out; show k < fs.length; omega
          obtain ⟨c1, c2⟩ : wr.cell? ⟨b, off + k * 2, none⟩ = some (.int .i64 (tg fs k)) ∧ wr.cell? ⟨b, off + k * 2 + 1, none⟩ = some (.string (dt fs k)) := by
            have h := hat k HK.out
            exact ⟨(hbw.cell (p := ⟨b, off + k * 2, none⟩) hb).trans h.1, (hbw.cell (p := ⟨b, off + k * 2 + 1, none⟩) hb).trans h.2⟩
          clear hat
          have p3 := knows_any v (tg fs k)
          cases hK : knowB v (tg fs k) with
          | true =>
            rw [hK] at p3
            have HB : Hid (extraB v fs = false) := extraB_not (fun h => by have := h.2.2 k HK.out; rw [hK] at this; cases this)
            clear hK
            go_wp2_with fail
            ((with_reducible refine (p3 _).mono ?_); rintro e w3 ⟨rfl, rfl⟩)
            go_wp2_with fail
            go_ret
            exact ⟨ret_bool (by rw [HB.out]), bch b12 (hbw.alloc hbw.size _)⟩
          | false =>
            rw [hK] at p3
            have HKK := Lib.hid hK; clear hK
            go_wp2_with fail
            ((with_reducible refine (p3 _).mono ?_); rintro e w3 ⟨rfl, rfl⟩)
            go_wp2_with fail
            go_roundw
            case rel => exact ⟨k + 1, by omega, by go_num, fun j hj => by rcases Nat.lt_or_ge j k with h | h; exact hno.out j h; rw [show j = k by omega]; exact HKK.out, hbw.alloc hbw.size _⟩
            case measure => simp [intOf]; omega
        · have hkn : n = k := by omega
          subst hkn
          have HB : Hid (extraB v fs = true) := extraB_iff.2 ⟨HR.out, H8.out, by have := HN.out; rw [← this]; exact hno.out⟩
          go_wp2_with fail
          go_ret
          exact ⟨ret_bool (by rw [HB.out]), bch b12 hbw⟩
    · have p2 := fun w h => fewExtra_any A n cap fs w h
      rw [show decide (few fs ≤ 8) = false from by simpa using h8] at p2
      have HB : Hid (extraB v fs = false) := extraB_not (fun h => h8 h.2.1)
      clear h8
      have P2 := Lib.hid p2; clear p2
      go_enter Try.func57, Try.ntmps57
      go_wp2_with fail
      ((with_reducible refine p1.mono ?_); rintro e w1 ⟨rfl, b1⟩)
      have h1 := h.below b1
      clear h
      go_wp2_with fail
      ((with_reducible refine (P2.out _ h1).mono ?_); rintro e w2 ⟨rfl, b2⟩)
      go_wp2_with fail
      go_ret
      exact ⟨ret_bool (by rw [HB.out]), bch b1 b2⟩

set_option maxRecDepth 100000 in
set_option maxHeartbeats 2000000 in
theorem laterRight_any (v : Int) (hv : v = 1 ∨ v = 2) (r : Rcd) (x : Value) (hr : RcWf r) (w : World) :
    Calls Try.prog 56 #[.int .i64 v, rcV r x] w fun e w' => e = .returned (.bool (laterB v r)) ∧ Below w.heap.size w w' := by
  obtain ⟨key, value, rev, life, note, extra⟩ := r
  have hs : note.size ≤ 140737488365000 := hr.2.2
  clear hr
  have hbw : Below w.heap.size w (w.alloc (.cells #[.string key, .string value, .int .i64 rev, .int .i64 life, .string note, x] 47)) := (Below.refl _ _).alloc (Nat.le_refl _) _
  rcases hv with rfl | rfl
  · by_cases h1 : life = 0
    · subst h1
      by_cases h2 : note.size = 0
      · have HB : Hid (laterB 1 ⟨key, value, rev, 0, note, extra⟩ = true) := laterB_one.2 ⟨rfl, h2⟩
        have e1 : note.toList = [] := (toList_size _).2 h2
        clear h2
        go_enter Try.func56, Try.ntmps56
        go_wp2_with fail
        go_ret
        exact ⟨ret_bool (by rw [HB.out]), hbw⟩
      · have HB : Hid (laterB 1 ⟨key, value, rev, 0, note, extra⟩ = false) := by
          show laterB _ _ = false
          rw [Bool.eq_false_iff]; intro h; exact h2 (laterB_one.1 h).2
        have e1 : note.toList.isEmpty = false := by
          rw [Bool.eq_false_iff]; intro h; exact h2 ((toList_size note).1 (by simpa using h))
        clear h2
        go_enter Try.func56, Try.ntmps56
        go_wp2_with fail
        go_ret
        exact ⟨ret_bool (by rw [HB.out]), hbw⟩
    · have HB : Hid (laterB 1 ⟨key, value, rev, life, note, extra⟩ = false) := by
        show laterB _ _ = false
        rw [Bool.eq_false_iff]; intro h; exact h1 (laterB_one.1 h).1
      have e1 : (life == 0) = false := by simpa using h1
      clear h1
      go_enter Try.func56, Try.ntmps56
      go_wp2_with fail
      go_ret
      exact ⟨ret_bool (by rw [HB.out]), hbw⟩
  · have p1 := isNumber_any life
    cases h1 : numB life with
    | true =>
      rw [h1] at p1
      have hn : 0 ≤ life ∧ life ≤ 9007199254740992 := by simpa [numB] using h1
      clear h1
      by_cases h2 : note.size ≤ 40
      · have HB : Hid (laterB 2 ⟨key, value, rev, life, note, extra⟩ = true) := laterB_two.2 ⟨hn.1, hn.2, h2⟩
        have h2' : (note.size : Int) ≤ 40 := by omega
        clear hn
        go_enter Try.func56, Try.ntmps56
        go_wp2_with fail
        ((with_reducible refine (p1 _).mono ?_); rintro e w3 ⟨rfl, rfl⟩)
        go_wp2_with fail
        go_ret
        exact ⟨ret_bool (by rw [HB.out]), hbw⟩
      · have HB : Hid (laterB 2 ⟨key, value, rev, life, note, extra⟩ = false) := by
          show laterB _ _ = false
          rw [Bool.eq_false_iff]; intro h; exact h2 (laterB_two.1 h).2.2
        have h2' : decide ((note.size : Int) ≤ 40) = false := by simp; omega
        clear hn
        go_enter Try.func56, Try.ntmps56
        go_wp2_with fail
        ((with_reducible refine (p1 _).mono ?_); rintro e w3 ⟨rfl, rfl⟩)
        go_wp2_with fail
        go_ret
        exact ⟨ret_bool (by rw [HB.out]), hbw⟩
    | false =>
      rw [h1] at p1
      have HB : Hid (laterB 2 ⟨key, value, rev, life, note, extra⟩ = false) := by
        show laterB _ _ = false
        rw [Bool.eq_false_iff]; intro h
        have := laterB_two.1 h
        simp [numB] at h1
        simp only at this
        omega
      clear h1
      go_enter Try.func56, Try.ntmps56
      go_wp2_with fail
      ((with_reducible refine (p1 _).mono ?_); rintro e w3 ⟨rfl, rfl⟩)
      go_wp2_with fail
      go_ret
      exact ⟨ret_bool (by rw [HB.out]), hbw⟩

set_option maxRecDepth 100000 in
set_option maxHeartbeats 4000000 in
theorem rRight_any (v : Int) (r : Rcd) (A : Option Addr) (n cap : Nat) (w : World) (hr : RcWf r) (h : IsFs w A n r.extra) :
    Calls Try.prog 37 #[.int .i64 v, rcV r (.slice A n cap)] w fun e w' => e = .returned (.bool (rightR v r)) ∧ Below w.heap.size w w' := by
  obtain ⟨hs1, hs2, hs3⟩ := hr
  have hbw : Below w.heap.size w (w.alloc (.cells #[.string r.key, .string r.value, .int .i64 r.rev, .int .i64 r.life, .string r.note, .slice A n cap] 47)) := (Below.refl _ _).alloc (Nat.le_refl _) _
  have hno : ∀ (p : Prop), (RightP v r → p) → ¬ p → Hid (rightR v r = false) := fun p h1 h2 => rightR_no (fun h => h2 (h1 h))
  have HNO := Lib.hid hno; clear hno
  have p1 := version_any v
  cases h1 : verB v with
  | false =>
    rw [h1] at p1
    have HB : Hid (rightR v r = false) := HNO.out _ (fun h => h.1) (by simpa [verB] using h1)
    clear h1 h
    go_enter Try.func37, Try.ntmps37
    go_wp2_with fail
    ((with_reducible refine (p1 _).mono ?_); rintro e w1 ⟨rfl, rfl⟩)
    go_wp2_with fail
    go_ret
    exact ⟨ret_bool (by rw [HB.out]), hbw⟩
  | true =>
    rw [h1] at p1
    have hv : v = 1 ∨ v = 2 := by simpa [verB] using h1
    clear h1
    have p2 := isText_any r.key 16 (by omega)
    cases h2 : textB r.key 16 with
    | false =>
      rw [h2] at p2
      have HB : Hid (rightR v r = false) := HNO.out _ (fun h => h.2.1) (by simp [textB] at h2; omega)
      clear h2 h hv
      go_enter Try.func37, Try.ntmps37
      go_wp2_with fail
      ((with_reducible refine (p1 _).mono ?_); rintro e w1 ⟨rfl, rfl⟩)
      go_wp2_with fail
      ((with_reducible refine (p2 _).mono ?_); rintro e w1 ⟨rfl, rfl⟩)
      go_wp2_with fail
      go_ret
      exact ⟨ret_bool (by rw [HB.out]), hbw⟩
    | true =>
      rw [h2] at p2
      have H2 : Hid (1 ≤ r.key.size ∧ r.key.size ≤ 16) := by show _ ∧ _; simp [textB] at h2; omega
      clear h2
      by_cases h3 : r.value.size ≤ 200
      · have p3 := isNumber_any r.rev
        cases h4 : numB r.rev with
        | false =>
          rw [h4] at p3
          have HB : Hid (rightR v r = false) := HNO.out _ (fun h => h.2.2.2.1) (by simp [numB] at h4; omega)
          clear h4 h hv
          go_enter Try.func37, Try.ntmps37
          go_wp2_with fail
          ((with_reducible refine (p1 _).mono ?_); rintro e w1 ⟨rfl, rfl⟩)
          go_wp2_with fail
          ((with_reducible refine (p2 _).mono ?_); rintro e w1 ⟨rfl, rfl⟩)
          go_wp2_with fail
          ((with_reducible refine (p3 _).mono ?_); rintro e w1 ⟨rfl, rfl⟩)
          go_wp2_with fail
          go_ret
          exact ⟨ret_bool (by rw [HB.out]), hbw⟩
        | true =>
          rw [h4] at p3
          have H4 : Hid (0 ≤ r.rev ∧ r.rev ≤ 9007199254740992) := by show _ ∧ _; simpa [numB] using h4
          clear h4
          have p4 := laterRight_any v hv r (.slice A n cap) ⟨hs1, hs2, hs3⟩
          cases h5 : laterB v r with
          | false =>
            rw [h5] at p4
            have HB : Hid (rightR v r = false) := HNO.out _ (fun h => h.2.2.2.2.1) (by rw [h5]; simp)
            clear h5 h hv
            go_enter Try.func37, Try.ntmps37
            go_wp2_with fail
            ((with_reducible refine (p1 _).mono ?_); rintro e w1 ⟨rfl, rfl⟩)
            go_wp2_with fail
            ((with_reducible refine (p2 _).mono ?_); rintro e w1 ⟨rfl, rfl⟩)
            go_wp2_with fail
            ((with_reducible refine (p3 _).mono ?_); rintro e w1 ⟨rfl, rfl⟩)
            go_wp2_with fail
            ((with_reducible refine (p4 _).mono ?_); rintro e w1 ⟨rfl, b1⟩)
            go_wp2_with fail
            go_ret
            exact ⟨ret_bool (by rw [HB.out]), bch hbw b1⟩
          | true =>
            rw [h5] at p4
            have HB : Hid (rightR v r = extraB v r.extra) := by
              show _ = _
              rw [Bool.eq_iff_iff, rightR_iff]
              exact ⟨fun h => h.2.2.2.2.2, fun h => ⟨hv, H2.out, h3, H4.out, h5, h⟩⟩
            clear h5 hv
            have h0 := h.below hbw
            clear h
            go_enter Try.func37, Try.ntmps37
            go_wp2_with fail
            ((with_reducible refine (p1 _).mono ?_); rintro e w1 ⟨rfl, rfl⟩)
            go_wp2_with fail
            ((with_reducible refine (p2 _).mono ?_); rintro e w1 ⟨rfl, rfl⟩)
            go_wp2_with fail
            ((with_reducible refine (p3 _).mono ?_); rintro e w1 ⟨rfl, rfl⟩)
            go_wp2_with fail
            ((with_reducible refine (p4 _).mono ?_); rintro e w1 ⟨rfl, b1⟩)
            have c5 : w1.cell? ⟨w.heap.size, 5, none⟩ = some (.slice A n cap) := (b1.cell (p := ⟨w.heap.size, 5, none⟩) (by simp)).trans (cell_blk (World.alloc_heap_new w _) 5)
            have p5 := extraRight_any v A n cap r.extra w1 (h0.below b1)
            clear h0
            go_wp2_with fail
            ((with_reducible refine p5.mono ?_); rintro e w2 ⟨rfl, b2⟩)
            go_wp2_with fail
            go_ret
            exact ⟨ret_bool (by rw [HB.out]), bch (bch hbw b1) b2⟩
      · have HB : Hid (rightR v r = false) := HNO.out _ (fun h => h.2.2.1) h3
        clear h hv
        go_enter Try.func37, Try.ntmps37
        go_wp2_with fail
        ((with_reducible refine (p1 _).mono ?_); rintro e w1 ⟨rfl, rfl⟩)
        go_wp2_with fail
        ((with_reducible refine (p2 _).mono ?_); rintro e w1 ⟨rfl, rfl⟩)
        go_wp2_with fail
        go_ret
        exact ⟨ret_bool (by rw [HB.out]), hbw⟩
end Go.Proofs.Ytpnkkiokkhmjpaa
