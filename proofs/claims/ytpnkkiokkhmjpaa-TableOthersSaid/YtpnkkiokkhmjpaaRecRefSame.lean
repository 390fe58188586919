import Derived.Test.YtpnkkiokkhmjpaaRecSame
/-
  The contract of the document's own Same of records: are two records the same?
-/
namespace Go.Proofs.Ytpnkkiokkhmjpaa
open Go.RowKit

set_option maxRecDepth 100000 in
set_option maxHeartbeats 4000000 in
theorem refSame_any (a b : Rcd) (A B : Option Addr) (n m cap cap2 : Nat) (w : World) (h : IsFs w A n a.extra) (h2 : IsFs w B m b.extra) :
    Calls Try.prog 25 #[rcV a (.slice A n cap), rcV b (.slice B m cap2)] w fun e w' => e = .returned (.bool (sameR a b)) ∧ Below w.heap.size w w' := by
  have hb1 : Below w.heap.size w (w.alloc (.cells #[.string a.key, .string a.value, .int .i64 a.rev, .int .i64 a.life, .string a.note, .slice A n cap] 47)) := (Below.refl _ _).alloc (Nat.le_refl _) _
  have hb2 : Below w.heap.size w ((w.alloc (.cells #[.string a.key, .string a.value, .int .i64 a.rev, .int .i64 a.life, .string a.note, .slice A n cap] 47)).alloc (.cells #[.string b.key, .string b.value, .int .i64 b.rev, .int .i64 b.life, .string b.note, .slice B m cap2] 47)) := hb1.alloc hb1.size _
  have p1 := same_any A B n m cap cap2 a.extra b.extra _ (h.below hb2) (h2.below hb2)
  clear h h2 hb1
  obtain ⟨a1, a2, a3, a4, a5, a6⟩ := a
  obtain ⟨b1, b2, b3, b4, b5, b6⟩ := b
  simp only at p1
  by_cases h1 : (a1.toList == b1.toList) = true
  · by_cases h2 : (a2.toList == b2.toList) = true
    · by_cases h3 : (a3 == b3) = true
      · by_cases h4 : (a4 == b4) = true
        · by_cases h5 : (a5.toList == b5.toList) = true
          · have HB : Hid (sameR ⟨a1, a2, a3, a4, a5, a6⟩ ⟨b1, b2, b3, b4, b5, b6⟩ = sameB a6 b6) := by show _ = _; unfold sameR; simp only [h1, h2, h3, h4, h5, Bool.true_and]
            go_enter Try.func25, Try.ntmps25
            go_wp2_with fail
            ((with_reducible refine p1.mono ?_); rintro e w1 ⟨rfl, b1⟩)
            go_wp2_with fail
            go_ret
            exact ⟨ret_bool (by rw [HB.out]), hb2.trans (b1.mono hb2.size)⟩
          · have h5' : (a5.toList == b5.toList) = false := by simpa using h5
            have HB : Hid (sameR ⟨a1, a2, a3, a4, a5, a6⟩ ⟨b1, b2, b3, b4, b5, b6⟩ = false) := by show _ = _; unfold sameR; simp only [h5', Bool.false_and, Bool.and_false]
            clear h5
            go_enter Try.func25, Try.ntmps25
            go_wp2_with fail
            go_ret
            exact ⟨ret_bool (by rw [HB.out]), hb2⟩
        · have h4' : (a4 == b4) = false := by simpa using h4
          have HB : Hid (sameR ⟨a1, a2, a3, a4, a5, a6⟩ ⟨b1, b2, b3, b4, b5, b6⟩ = false) := by show _ = _; unfold sameR; simp only [h4', Bool.false_and, Bool.and_false]
          clear h4
          go_enter Try.func25, Try.ntmps25
          go_wp2_with fail
          go_ret
          exact ⟨ret_bool (by rw [HB.out]), hb2⟩
      · have h3' : (a3 == b3) = false := by simpa using h3
        have HB : Hid (sameR ⟨a1, a2, a3, a4, a5, a6⟩ ⟨b1, b2, b3, b4, b5, b6⟩ = false) := by show _ = _; unfold sameR; simp only [h3', Bool.false_and, Bool.and_false]
        clear h3
        go_enter Try.func25, Try.ntmps25
        go_wp2_with fail
        go_ret
        exact ⟨ret_bool (by rw [HB.out]), hb2⟩
    · have h2' : (a2.toList == b2.toList) = false := by simpa using h2
      have HB : Hid (sameR ⟨a1, a2, a3, a4, a5, a6⟩ ⟨b1, b2, b3, b4, b5, b6⟩ = false) := by show _ = _; unfold sameR; simp only [h2', Bool.false_and, Bool.and_false]
      clear h2
      go_enter Try.func25, Try.ntmps25
      go_wp2_with fail
      go_ret
      exact ⟨ret_bool (by rw [HB.out]), hb2⟩
  · have h1' : (a1.toList == b1.toList) = false := by simpa using h1
    have HB : Hid (sameR ⟨a1, a2, a3, a4, a5, a6⟩ ⟨b1, b2, b3, b4, b5, b6⟩ = false) := by show _ = _; unfold sameR; simp only [h1', Bool.false_and]
    clear h1
    go_enter Try.func25, Try.ntmps25
    go_wp2_with fail
    go_ret
    exact ⟨ret_bool (by rw [HB.out]), hb2⟩
end Go.Proofs.Ytpnkkiokkhmjpaa
