import Derived.Test.YtgckoihangccbaaTabRefB
/-
  The contract of the document's own SameReply (stages 12 and 13).
-/
namespace Go.Proofs.Ytgckoihangccbaa
open Go.RowKit
set_option linter.unusedVariables false
set_option linter.unusedSimpArgs false

noncomputable def sameRp (a b : RepR) : Bool := @decide (a = b) (Classical.propDecidable _)
theorem sameRp_iff {a b : RepR} : sameRp a b = true ↔ a = b := by unfold sameRp; simp
theorem sameRp_self (a : RepR) : sameRp a a = true := sameRp_iff.2 rfl
set_option maxRecDepth 100000 in
set_option maxHeartbeats 8000000 in
theorem refsame13_any (a b : RepR) (A B : Option Addr) (n cap m cap2 : Nat) (w : World) (ha : IsSs w A n a.keys) (hb : IsSs w B m b.keys) :
    Calls Try.prog 13 #[rpV a (.slice A n cap), rpV b (.slice B m cap2)] w fun e w' => e = .returned (.bool (sameRp a b)) ∧ Below w.heap.size w w' := by
  have HNO : Hid (a ≠ b → sameRp a b = false) := fun h => by rw [Bool.eq_false_iff]; exact fun e => h (sameRp_iff.1 e)
  have HYES : Hid (a = b → sameRp a b = true) := sameRp_iff.2
  generalize sameRp a b = R at *
  have hbw : Below w.heap.size w ((w.alloc (.cells #[.int .i64 a.errno, .int .i64 a.rev, .string a.value, .slice A n cap] 31)).alloc (.cells #[.int .i64 b.errno, .int .i64 b.rev, .string b.value, .slice B m cap2] 31)) := ((Below.refl _ _).alloc (Nat.le_refl _) _).alloc (by simp) _
  have h1 : Blk ((w.alloc (.cells #[.int .i64 a.errno, .int .i64 a.rev, .string a.value, .slice A n cap] 31)).alloc (.cells #[.int .i64 b.errno, .int .i64 b.rev, .string b.value, .slice B m cap2] 31)) w.heap.size (.cells #[.int .i64 a.errno, .int .i64 a.rev, .string a.value, .slice A n cap] 31 (0, 0)) := Blk.below (Blk.new w (.cells #[.int .i64 a.errno, .int .i64 a.rev, .string a.value, .slice A n cap] 31)) ((Below.refl _ _).alloc (Nat.le_refl _) _)
  have h2 : Blk ((w.alloc (.cells #[.int .i64 a.errno, .int .i64 a.rev, .string a.value, .slice A n cap] 31)).alloc (.cells #[.int .i64 b.errno, .int .i64 b.rev, .string b.value, .slice B m cap2] 31)) (w.heap.size + 1) (.cells #[.int .i64 b.errno, .int .i64 b.rev, .string b.value, .slice B m cap2] 31 (0, 0)) := by have h := Blk.new (w.alloc (.cells #[.int .i64 a.errno, .int .i64 a.rev, .string a.value, .slice A n cap] 31)) (.cells #[.int .i64 b.errno, .int .i64 b.rev, .string b.value, .slice B m cap2] 31); rw [World.size_alloc] at h; exact h
  obtain ⟨W0, hW0⟩ : ∃ W, (w.alloc (.cells #[.int .i64 a.errno, .int .i64 a.rev, .string a.value, .slice A n cap] 31)).alloc (.cells #[.int .i64 b.errno, .int .i64 b.rev, .string b.value, .slice B m cap2] 31) = W := ⟨_, rfl⟩
  rw [hW0] at hbw h1 h2
  have c0 := Blk.cell h1 0
  have c1 := Blk.cell h1 1
  have c2 := Blk.cell h1 2
  have c3 := Blk.cell h1 3
  have d0 := Blk.cell h2 0
  have d1 := Blk.cell h2 1
  have d2 := Blk.cell h2 2
  have d3 := Blk.cell h2 3
  simp only [List.getElem?_toArray, List.getElem?_cons_zero, List.getElem?_cons_succ] at c0 c1 c2 c3 d0 d1 d2 d3
  have HA := Lib.hid (ha.below hbw); clear ha
  have HB := Lib.hid (hb.below hbw); clear hb
  have HB0 := Lib.hid hbw; clear hbw
  have H1 := Lib.hid h1; clear h1
  have H2 := Lib.hid h2; clear h2
  have HNA : Hid (n = a.keys.length) := HA.out.1
  have HNB : Hid (m = b.keys.length) := HB.out.1
  have hn9 := HA.out.2.1
  have hm9 := HB.out.2.1
  unfold maxLen at hn9 hm9
  unfold rpV
  by_cases g0 : a.errno = b.errno
  rotate_left
  · have HE : Hid (R = false) := HNO.out fun e => g0 (by rw [e])
    have e0 : ((a.errno : Int) != (b.errno : Int)) = true := by simp; omega
    clear g0
    go_enter Try.func13, Try.ntmps13
    go_wp2_with fail
    go_ret
    exact ⟨by rw [HE.out]; rfl, HB0.out⟩
  have e0 : ((a.errno : Int) != (b.errno : Int)) = false := by simp; omega
  by_cases g1 : a.rev = b.rev
  rotate_left
  · have HE : Hid (R = false) := HNO.out fun e => g1 (by rw [e])
    have e1 : (a.rev != b.rev) = true := by simpa using g1
    clear g1 g0
    go_enter Try.func13, Try.ntmps13
    go_wp2_with fail
    go_ret
    exact ⟨by rw [HE.out]; rfl, HB0.out⟩
  have e1 : (a.rev != b.rev) = false := by simpa using g1
  by_cases g2 : a.value = b.value
  rotate_left
  · have HE : Hid (R = false) := HNO.out fun e => g2 (by rw [e])
    have e2 : (a.value.toList == b.value.toList) = false := tb_ne g2
    clear g2 g1 g0
    go_enter Try.func13, Try.ntmps13
    go_wp2_with fail
    go_ret
    exact ⟨by rw [HE.out]; rfl, HB0.out⟩
  have e2 : (a.value.toList == b.value.toList) = true := tb_eq g2
  by_cases g3 : n = m
  rotate_left
  · have HE : Hid (R = false) := HNO.out fun e => g3 (by rw [HNA.out, HNB.out, e])
    have e3 : ((n : Int) != (m : Int)) = true := by simp; omega
    clear g3 g2 g1 g0
    go_enter Try.func13, Try.ntmps13
    go_wp2_with fail
    go_ret
    exact ⟨by rw [HE.out]; rfl, HB0.out⟩
  have e3 : ((n : Int) != (m : Int)) = false := by simp; omega
  have G : Hid (a.errno = b.errno ∧ a.rev = b.rev ∧ a.value = b.value) := ⟨g0, g1, g2⟩
  have G3 := Lib.hid g3
  clear g0 g1 g2 g3
  go_enter Try.func13, Try.ntmps13
  go_wp2_with fail
  clear hW0 c0 c1 c2 c3 d0 d1 d2 d3
  go_loopw [5] (fun i wy => ∃ (j : Nat) (wr : World), wr = wy ∧ j ≤ n ∧ i = .int .i64 j ∧ (∀ q, q < j → a.keys.getD q ByteArray.empty = b.keys.getD q ByteArray.empty) ∧ Hid (Below W0.heap.size W0 wr)) (fun i _ => n - (intOf i).toNat)
  case atStart => exact ⟨0, _, rfl, by omega, rfl, (fun q hq => by omega), Below.refl _ _⟩
  case round =>
    obtain ⟨j, wr, rfl, hj, rfl, hsm, hb⟩ := hrel
    have HSM := Lib.hid hsm; clear hsm
    have h1 := Blk.below H1.out hb.out
    have h2 := Blk.below H2.out hb.out
    have c3 := Blk.cell h1 3
    have d3 := Blk.cell h2 3
    simp only [List.getElem?_toArray, List.getElem?_cons_zero, List.getElem?_cons_succ] at c3 d3
    have HBF : Hid (Below w.heap.size w wr) := bch HB0.out hb.out
    clear h1 h2
    by_cases hlt : j < n
    · have hji : (j : Int) < (n : Int) := by omega
      have hj0 : (0 : Int) ≤ (j : Int) := by omega
      have hjm : j < m := by have := G3.out; omega
      have hg1 : decide ((j : Int) < 0) = false := decide_eq_false (by omega)
      have hg2 : decide ((n : Int) ≤ (j : Int)) = false := decide_eq_false (by omega)
      have hg2n : decide (n ≤ j) = false := decide_eq_false (by omega)
      have hg3 : decide ((m : Int) ≤ (j : Int)) = false := decide_eq_false (by omega)
      have hg3n : decide (m ≤ j) = false := decide_eq_false (by omega)
      obtain ⟨p, off, hAe, hp, hc⟩ := HA.out.2.2.2 (by omega)
      obtain ⟨q, off2, hBe, hq, hd⟩ := HB.out.2.2.2 (by omega)
      subst hAe
      subst hBe
      have x0 := (hb.out.cell (p := ⟨p, off + j, none⟩) hp).trans (hc j (by have := HNA.out; omega))
      have y0 := (hb.out.cell (p := ⟨q, off2 + j, none⟩) hq).trans (hd j (by have := HNB.out; omega))
      clear hc hd
      by_cases hk : a.keys.getD j ByteArray.empty = b.keys.getD j ByteArray.empty
      · have HNX : Hid (∀ q, q < j + 1 → a.keys.getD q ByteArray.empty = b.keys.getD q ByteArray.empty) := fun q hq => by rcases (by omega : q < j ∨ q = j) with h | rfl; exact HSM.out q h; exact hk
        have ek : ((a.keys.getD j ByteArray.empty).toList == (b.keys.getD j ByteArray.empty).toList) = true := tb_eq hk
        clear hk
        generalize a.keys.getD j ByteArray.empty = s at *
        generalize b.keys.getD j ByteArray.empty = t at *
        go_wp2_with fail
        go_quiet (fail)
        go_wp2_with fail
        go_roundw
        case rel => exact ⟨j + 1, _, rfl, by omega, by go_num, HNX.out, bdn hb.out _⟩
        case measure => simp [intOf]; omega
      · have HE : Hid (R = false) := HNO.out fun e => hk (by rw [e])
        have ek : ((a.keys.getD j ByteArray.empty).toList == (b.keys.getD j ByteArray.empty).toList) = false := tb_ne hk
        clear hk
        generalize a.keys.getD j ByteArray.empty = s at *
        generalize b.keys.getD j ByteArray.empty = t at *
        go_wp2_with fail
        go_quiet (fail)
        go_wp2_with fail
        go_ret
        exact ⟨by rw [HE.out]; rfl, bdn HBF.out _⟩
    · have hje : j = n := by omega
      have HE : Hid (R = true) := HYES.out (by
        have hk : a.keys = b.keys := List.ext_getElem (by rw [← HNA.out, ← HNB.out, G3.out]) fun i hi hj2 => by
          have := HSM.out i (by have := HNA.out; omega)
          rw [List.getD_eq_getElem?_getD, List.getD_eq_getElem?_getD, List.getElem?_eq_getElem hi, List.getElem?_eq_getElem hj2] at this
          exact this
        obtain ⟨k0, k1, k2⟩ := G.out
        cases a; cases b
        simp only at k0 k1 k2 hk
        rw [k0, k1, k2, hk])
      have hji : ¬ ((j : Int) < (n : Int)) := by omega
      clear hlt hje
      go_wp2_with fail
      go_ret
      exact ⟨by rw [HE.out]; rfl, HBF.out⟩
end Go.Proofs.Ytgckoihangccbaa
