import Derived.Test.YtpnkkiokkhmjpaaRecRight
import Derived.Test.YtpnkkiokkhmjpaaSame
/-
  The contracts of record.Same and of the document's own: are two records the same?
-/
namespace Go.Proofs.Ytpnkkiokkhmjpaa
open Go.RowKit

theorem ba_iff {a b : ByteArray} : a.toList = b.toList ↔ a = b := ⟨ba_ext, fun h => by rw [h]⟩
/-- Are two records the same? -/
def sameR (a b : Rcd) : Bool := (a.key.toList == b.key.toList) && (a.value.toList == b.value.toList) && (a.rev == b.rev) && (a.life == b.life) && (a.note.toList == b.note.toList) && sameB a.extra b.extra
theorem sameR_iff {a b : Rcd} : sameR a b = true ↔ a = b := by
  obtain ⟨a1, a2, a3, a4, a5, a6⟩ := a
  obtain ⟨b1, b2, b3, b4, b5, b6⟩ := b
  unfold sameR
  simp only [Bool.and_eq_true, beq_iff_eq, ba_iff, sameB_iff, Rcd.mk.injEq]
  constructor
  · rintro ⟨⟨⟨⟨⟨h1, h2⟩, h3⟩, h4⟩, h5⟩, h6⟩; exact ⟨h1, h2, h3, h4, h5, h6⟩
  · rintro ⟨h1, h2, h3, h4, h5, h6⟩; exact ⟨⟨⟨⟨⟨h1, h2⟩, h3⟩, h4⟩, h5⟩, h6⟩
theorem sameR_self (a : Rcd) : sameR a a = true := sameR_iff.2 rfl
theorem sameR_no {a b : Rcd} (h : a ≠ b) : sameR a b = false := by rw [Bool.eq_false_iff]; exact fun h2 => h (sameR_iff.1 h2)
theorem sameR_comm (a b : Rcd) : sameR a b = sameR b a := by
  rw [Bool.eq_iff_iff, sameR_iff, sameR_iff]; exact ⟨Eq.symm, Eq.symm⟩

set_option maxRecDepth 100000 in
set_option maxHeartbeats 4000000 in
theorem equal_any (A B : Option Addr) (n m cap cap2 : Nat) (fs gs : List Fld) (w : World) (h : IsFs w A n fs) (h2 : IsFs w B m gs) :
    Calls Try.prog 59 #[.slice A n cap, .slice B m cap2] w fun e w' => e = .returned (.bool (sameB fs gs)) ∧ Below w.heap.size w w' := by
  obtain ⟨hn, hm, _, hc⟩ := h
  obtain ⟨hn2, hm2, _, hc2⟩ := h2
  unfold maxLen at hm hm2
  have HN := Lib.hid hn; clear hn
  have HC := Lib.hid hc; clear hc
  have HN2 := Lib.hid hn2; clear hn2
  have HC2 := Lib.hid hc2; clear hc2
  by_cases hnm : n = m
  · subst hnm
    go_enter Try.func59, Try.ntmps59
    go_wp2_with fail
    go_loopw [5, 13] (fun _ i wr => ∃ k : Nat, k ≤ n ∧ i = .int .i64 k ∧ Hid (∀ j, j < k → tg fs j = tg gs j ∧ (dt fs j).toList = (dt gs j).toList) ∧ Below w.heap.size w wr) (fun _ i _ => n - (intOf i).toNat)
    case atStart => exact ⟨0, by omega, rfl, fun j hj => by omega, Below.refl _ _⟩
    case round =>
      obtain ⟨k, hk, rfl, hno, hbw⟩ := hrel
      by_cases hlt : k < n
      · obtain ⟨b, off, hA, hb, hat⟩ := HC.out (by omega)
        subst hA
        obtain ⟨b2, off2, hA2, hb2, hat2⟩ := HC2.out (by omega)
        subst hA2
        have HK : Hid (k < fs.length) := by have := HN.out; show k < fs.length; omega
        obtain ⟨c1, c2⟩ : wr.cell? ⟨b, off + k * 2, none⟩ = some (.int .i64 (tg fs k)) ∧ wr.cell? ⟨b, off + k * 2 + 1, none⟩ = some (.string (dt fs k)) := by
          have h := hat k HK.out
          exact ⟨(hbw.cell (p := ⟨b, off + k * 2, none⟩) hb).trans h.1, (hbw.cell (p := ⟨b, off + k * 2 + 1, none⟩) hb).trans h.2⟩
        obtain ⟨c3, c4⟩ : wr.cell? ⟨b2, off2 + k * 2, none⟩ = some (.int .i64 (tg gs k)) ∧ wr.cell? ⟨b2, off2 + k * 2 + 1, none⟩ = some (.string (dt gs k)) := by
          have h := hat2 k (by have := HN2.out; omega)
          exact ⟨(hbw.cell (p := ⟨b2, off2 + k * 2, none⟩) hb2).trans h.1, (hbw.cell (p := ⟨b2, off2 + k * 2 + 1, none⟩) hb2).trans h.2⟩
        clear hat hat2
        have hb0 : (0 : Int) ≤ (k : Int) := by omega
        have hb1 : (k : Int) < (n : Int) := by omega
        have hgu := guardFld
        have heq := eqFld (tg fs k) (tg gs k) (dt fs k) (dt gs k)
        by_cases he : tg fs k = tg gs k ∧ (dt fs k).toList = (dt gs k).toList
        · have hE : (tg fs k == tg gs k && (dt fs k).toList == (dt gs k).toList) = true := by simp [he.1, he.2]
          rw [hE] at heq
          have HE := Lib.hid he; clear he hE
          go_wp2_with fail
          go_quiet (fail)
          go_wp2
          go_roundw
          case rel => exact ⟨k + 1, by omega, by go_num, fun j hj => by rcases Nat.lt_or_ge j k with h | h; exact hno.out j h; rw [show j = k by omega]; exact HE.out, bdn hbw _⟩
          case measure => simp [intOf]; omega
        · have hE : (tg fs k == tg gs k && (dt fs k).toList == (dt gs k).toList) = false := by simpa using he
          have HR : Hid (sameB fs gs = false) := sameB_no_at (i := k) (by by_cases h : tg fs k = tg gs k; exact .inr (fun h3 => he ⟨h, h3⟩); exact .inl h)
          rw [hE] at heq
          clear he hE
          go_wp2_with fail
          go_quiet (fail)
          go_wp2
          go_ret
          exact ⟨ret_bool HR.out.symm, bdn hbw _⟩
      · have hkn : n = k := by omega
        subst hkn
        have HR : Hid (sameB fs gs = true) := sameB_yes (by have := HN.out; have := HN2.out; omega) (by have := HN.out; rw [← this]; exact hno.out)
        go_wp2_with fail
        go_ret
        exact ⟨ret_bool HR.out.symm, hbw⟩
  · have HR : Hid (sameB fs gs = false) := sameB_no_len (by have := HN.out; have := HN2.out; omega)
    have hd : ((n : Int) != (m : Int)) = true := by simp; omega
    go_enter Try.func59, Try.ntmps59
    go_wp2_with fail
    go_ret
    exact ⟨ret_bool HR.out.symm, Below.refl _ _⟩

set_option maxRecDepth 100000 in
set_option maxHeartbeats 4000000 in
theorem rSame_any (a b : Rcd) (A B : Option Addr) (n m cap cap2 : Nat) (w : World) (h : IsFs w A n a.extra) (h2 : IsFs w B m b.extra) :
    Calls Try.prog 40 #[rcV a (.slice A n cap), rcV b (.slice B m cap2)] w fun e w' => e = .returned (.bool (sameR a b)) ∧ Below w.heap.size w w' := by
  have hb1 : Below w.heap.size w (w.alloc (.cells #[.string a.key, .string a.value, .int .i64 a.rev, .int .i64 a.life, .string a.note, .slice A n cap] 47)) := (Below.refl _ _).alloc (Nat.le_refl _) _
  have hb2 : Below w.heap.size w ((w.alloc (.cells #[.string a.key, .string a.value, .int .i64 a.rev, .int .i64 a.life, .string a.note, .slice A n cap] 47)).alloc (.cells #[.string b.key, .string b.value, .int .i64 b.rev, .int .i64 b.life, .string b.note, .slice B m cap2] 47)) := hb1.alloc hb1.size _
  have p1 := equal_any A B n m cap cap2 a.extra b.extra _ (h.below hb2) (h2.below hb2)
  clear h h2 hb1
  obtain ⟨a1, a2, a3, a4, a5, a6⟩ := a
  obtain ⟨b1, b2, b3, b4, b5, b6⟩ := b
  simp only at p1
  by_cases h1 : (a1.toList == b1.toList) = true
  · by_cases h2 : (a2.toList == b2.toList) = true
    · by_cases h3 : (a3 == b3) = true
      · by_cases h4 : (a4 == b4) = true
        · by_cases h5 : (a5.toList == b5.toList) = true
          · have HB : Hid (sameR ⟨a1, a2, a3, a4, a5, a6⟩ ⟨b1, b2, b3, b4, b5, b6⟩ = sameB a6 b6) := by show _ = _; unfold sameR; simp only [h1, h2, h3, h4, h5, Bool.true_and]
            go_enter Try.func40, Try.ntmps40
            go_wp2_with fail
            ((with_reducible refine p1.mono ?_); rintro e w1 ⟨rfl, b1⟩)
            go_wp2_with fail
            go_ret
            exact ⟨ret_bool (by rw [HB.out]), hb2.trans (b1.mono hb2.size)⟩
          · have h5' : (a5.toList == b5.toList) = false := by simpa using h5
            have HB : Hid (sameR ⟨a1, a2, a3, a4, a5, a6⟩ ⟨b1, b2, b3, b4, b5, b6⟩ = false) := by show _ = _; unfold sameR; simp only [h5', Bool.false_and, Bool.and_false]
            clear h5
            go_enter Try.func40, Try.ntmps40
            go_wp2_with fail
            go_ret
            exact ⟨ret_bool (by rw [HB.out]), hb2⟩
        · have h4' : (a4 == b4) = false := by simpa using h4
          have HB : Hid (sameR ⟨a1, a2, a3, a4, a5, a6⟩ ⟨b1, b2, b3, b4, b5, b6⟩ = false) := by show _ = _; unfold sameR; simp only [h4', Bool.false_and, Bool.and_false]
          clear h4
          go_enter Try.func40, Try.ntmps40
          go_wp2_with fail
          go_ret
          exact ⟨ret_bool (by rw [HB.out]), hb2⟩
      · have h3' : (a3 == b3) = false := by simpa using h3
        have HB : Hid (sameR ⟨a1, a2, a3, a4, a5, a6⟩ ⟨b1, b2, b3, b4, b5, b6⟩ = false) := by show _ = _; unfold sameR; simp only [h3', Bool.false_and, Bool.and_false]
        clear h3
        go_enter Try.func40, Try.ntmps40
        go_wp2_with fail
        go_ret
        exact ⟨ret_bool (by rw [HB.out]), hb2⟩
    · have h2' : (a2.toList == b2.toList) = false := by simpa using h2
      have HB : Hid (sameR ⟨a1, a2, a3, a4, a5, a6⟩ ⟨b1, b2, b3, b4, b5, b6⟩ = false) := by show _ = _; unfold sameR; simp only [h2', Bool.false_and, Bool.and_false]
      clear h2
      go_enter Try.func40, Try.ntmps40
      go_wp2_with fail
      go_ret
      exact ⟨ret_bool (by rw [HB.out]), hb2⟩
  · have h1' : (a1.toList == b1.toList) = false := by simpa using h1
    have HB : Hid (sameR ⟨a1, a2, a3, a4, a5, a6⟩ ⟨b1, b2, b3, b4, b5, b6⟩ = false) := by show _ = _; unfold sameR; simp only [h1', Bool.false_and]
    clear h1
    go_enter Try.func40, Try.ntmps40
    go_wp2_with fail
    go_ret
    exact ⟨ret_bool (by rw [HB.out]), hb2⟩
end Go.Proofs.Ytpnkkiokkhmjpaa
