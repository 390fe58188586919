import Derived.Test.YtgckoihangccbaaRpPb
import Derived.Test.YtgckoihangccbaaRpSame
/-
  The contracts of slices.Equal of texts, of the program's own Same, and of its SameAll over slices.EqualFunc (stage 13).
-/
namespace Go.Proofs.Ytgckoihangccbaa
open Go.RowKit
set_option linter.unusedVariables false
set_option linter.unusedSimpArgs false

noncomputable def sameKs (a b : List ByteArray) : Bool := @decide (a = b) (Classical.propDecidable _)
theorem sameKs_iff {a b : List ByteArray} : sameKs a b = true ↔ a = b := by unfold sameKs; simp
theorem sameKs_no {a b : List ByteArray} (h : a ≠ b) : sameKs a b = false := by rw [Bool.eq_false_iff]; exact fun e => h (sameKs_iff.1 e)
set_option maxRecDepth 100000 in
set_option maxHeartbeats 8000000 in
theorem equal13_any (a b : List ByteArray) (A B : Option Addr) (n cap m cap2 : Nat) (w : World) (ha : IsSs w A n a) (hb : IsSs w B m b) :
    Calls Try.prog 25 #[.slice A n cap, .slice B m cap2] w fun e w' => e = .returned (.bool (sameKs a b)) ∧ Below w.heap.size w w' := by
  have HNO : Hid (a ≠ b → sameKs a b = false) := sameKs_no
  have HYES : Hid (a = b → sameKs a b = true) := sameKs_iff.2
  generalize sameKs a b = R at *
  have HA := Lib.hid ha; clear ha
  have HB := Lib.hid hb; clear hb
  have HNA : Hid (n = a.length) := HA.out.1
  have HNB : Hid (m = b.length) := HB.out.1
  have hn9 := HA.out.2.1
  have hm9 := HB.out.2.1
  unfold maxLen at hn9 hm9
  by_cases g3 : n = m
  rotate_left
  · have HE : Hid (R = false) := HNO.out fun e => g3 (by rw [HNA.out, HNB.out, e])
    have e3 : ((n : Int) != (m : Int)) = true := by simp; omega
    clear g3
    go_enter Try.func25, Try.ntmps25
    go_wp2_with fail
    go_ret
    exact ⟨by rw [HE.out]; rfl, Below.refl _ _⟩
  have e3 : ((n : Int) != (m : Int)) = false := by simp; omega
  have G3 := Lib.hid g3
  clear g3
  go_enter Try.func25, Try.ntmps25
  go_wp2_with fail
  go_loopw [13] (fun i wy => ∃ (j : Nat) (wr : World), wr = wy ∧ j ≤ n ∧ i = .int .i64 j ∧ (∀ q, q < j → a.getD q ByteArray.empty = b.getD q ByteArray.empty) ∧ Hid (Below w.heap.size w wr)) (fun i _ => n - (intOf i).toNat)
  case atStart => exact ⟨0, _, rfl, by omega, rfl, (fun q hq => by omega), Below.refl _ _⟩
  case round =>
    obtain ⟨j, wr, rfl, hj, rfl, hsm, hb⟩ := hrel
    have HSM := Lib.hid hsm; clear hsm
    by_cases hlt : j < n
    · have hji : (j : Int) < (n : Int) := by omega
      have hj0 : (0 : Int) ≤ (j : Int) := by omega
      have hjm : j < m := by have := G3.out; omega
      have hg1 : decide ((j : Int) < 0) = false := decide_eq_false (by omega)
      have hg2 : decide ((n : Int) ≤ (j : Int)) = false := decide_eq_false (by omega)
      have hg2n : decide (n ≤ j) = false := decide_eq_false (by omega)
      have hg3 : decide ((m : Int) ≤ (j : Int)) = false := decide_eq_false (by omega)
      have hg3n : decide (m ≤ j) = false := decide_eq_false (by omega)
      obtain ⟨p, off, hAe, hp, hc⟩ := HA.out.2.2.2 (by omega)
      obtain ⟨q, off2, hBe, hq, hd⟩ := HB.out.2.2.2 (by omega)
      subst hAe
      subst hBe
      have x0 := (hb.out.cell (p := ⟨p, off + j, none⟩) hp).trans (hc j (by have := HNA.out; omega))
      have y0 := (hb.out.cell (p := ⟨q, off2 + j, none⟩) hq).trans (hd j (by have := HNB.out; omega))
      clear hc hd
      by_cases hk : a.getD j ByteArray.empty = b.getD j ByteArray.empty
      · have HNX : Hid (∀ q, q < j + 1 → a.getD q ByteArray.empty = b.getD q ByteArray.empty) := fun q hq => by rcases (by omega : q < j ∨ q = j) with h | rfl; exact HSM.out q h; exact hk
        have ek : ((a.getD j ByteArray.empty).toList == (b.getD j ByteArray.empty).toList) = true := tb_eq hk
        clear hk
        generalize a.getD j ByteArray.empty = s at *
        generalize b.getD j ByteArray.empty = t at *
        go_wp2_with fail
        go_quiet (fail)
        go_wp2_with fail
        go_roundw
        case rel => exact ⟨j + 1, _, rfl, by omega, by go_num, HNX.out, bdn hb.out _⟩
        case measure => simp [intOf]; omega
      · have HE : Hid (R = false) := HNO.out fun e => hk (by rw [e])
        have ek : ((a.getD j ByteArray.empty).toList == (b.getD j ByteArray.empty).toList) = false := tb_ne hk
        clear hk
        generalize a.getD j ByteArray.empty = s at *
        generalize b.getD j ByteArray.empty = t at *
        go_wp2_with fail
        go_quiet (fail)
        go_wp2_with fail
        go_ret
        exact ⟨by rw [HE.out]; rfl, bdn hb.out _⟩
    · have hje : j = n := by omega
      have HE : Hid (R = true) := HYES.out (List.ext_getElem (by rw [← HNA.out, ← HNB.out, G3.out]) fun i hi hj2 => by
          have := HSM.out i (by have := HNA.out; omega)
          rw [List.getD_eq_getElem?_getD, List.getD_eq_getElem?_getD, List.getElem?_eq_getElem hi, List.getElem?_eq_getElem hj2] at this
          exact this)
      have hji : ¬ ((j : Int) < (n : Int)) := by omega
      clear hlt hje
      go_wp2_with fail
      go_ret
      exact ⟨by rw [HE.out]; rfl, hb.out⟩
set_option maxRecDepth 100000 in
set_option maxHeartbeats 8000000 in
theorem same13p_any (a b : RepR) (A B : Option Addr) (n cap m cap2 : Nat) (w : World) (ha : IsSs w A n a.keys) (hb : IsSs w B m b.keys) :
    Calls Try.prog 16 #[rpV a (.slice A n cap), rpV b (.slice B m cap2)] w fun e w' => e = .returned (.bool (sameRp a b)) ∧ Below w.heap.size w w' := by
  have HNO : Hid (a ≠ b → sameRp a b = false) := fun h => by rw [Bool.eq_false_iff]; exact fun e => h (sameRp_iff.1 e)
  have HYES : Hid (a = b → sameRp a b = true) := sameRp_iff.2
  generalize sameRp a b = R at *
  have hbw : Below w.heap.size w ((w.alloc (.cells #[.int .i64 a.errno, .int .i64 a.rev, .string a.value, .slice A n cap] 31)).alloc (.cells #[.int .i64 b.errno, .int .i64 b.rev, .string b.value, .slice B m cap2] 31)) := ((Below.refl _ _).alloc (Nat.le_refl _) _).alloc (by simp) _
  have h1 : Blk ((w.alloc (.cells #[.int .i64 a.errno, .int .i64 a.rev, .string a.value, .slice A n cap] 31)).alloc (.cells #[.int .i64 b.errno, .int .i64 b.rev, .string b.value, .slice B m cap2] 31)) w.heap.size (.cells #[.int .i64 a.errno, .int .i64 a.rev, .string a.value, .slice A n cap] 31 (0, 0)) := Blk.below (Blk.new w (.cells #[.int .i64 a.errno, .int .i64 a.rev, .string a.value, .slice A n cap] 31)) ((Below.refl _ _).alloc (Nat.le_refl _) _)
  have h2 : Blk ((w.alloc (.cells #[.int .i64 a.errno, .int .i64 a.rev, .string a.value, .slice A n cap] 31)).alloc (.cells #[.int .i64 b.errno, .int .i64 b.rev, .string b.value, .slice B m cap2] 31)) (w.heap.size + 1) (.cells #[.int .i64 b.errno, .int .i64 b.rev, .string b.value, .slice B m cap2] 31 (0, 0)) := by have h := Blk.new (w.alloc (.cells #[.int .i64 a.errno, .int .i64 a.rev, .string a.value, .slice A n cap] 31)) (.cells #[.int .i64 b.errno, .int .i64 b.rev, .string b.value, .slice B m cap2] 31); rw [World.size_alloc] at h; exact h
  obtain ⟨W0, hW0⟩ : ∃ W, (w.alloc (.cells #[.int .i64 a.errno, .int .i64 a.rev, .string a.value, .slice A n cap] 31)).alloc (.cells #[.int .i64 b.errno, .int .i64 b.rev, .string b.value, .slice B m cap2] 31) = W := ⟨_, rfl⟩
  rw [hW0] at hbw h1 h2
  have c0 := Blk.cell h1 0
  have c1 := Blk.cell h1 1
  have c2 := Blk.cell h1 2
  have c3 := Blk.cell h1 3
  have d0 := Blk.cell h2 0
  have d1 := Blk.cell h2 1
  have d2 := Blk.cell h2 2
  have d3 := Blk.cell h2 3
  simp only [List.getElem?_toArray, List.getElem?_cons_zero, List.getElem?_cons_succ] at c0 c1 c2 c3 d0 d1 d2 d3
  have q := equal13_any a.keys b.keys A B n cap m cap2 W0 (ha.below hbw) (hb.below hbw)
  have HB0 := Lib.hid hbw; clear hbw ha hb h1 h2
  have HEXT : Hid (a.errno = b.errno → a.rev = b.rev → a.value = b.value → a.keys = b.keys → a = b) := fun k0 k1 k2 hk => by
    cases a; cases b
    simp only at k0 k1 k2 hk
    rw [k0, k1, k2, hk]
  unfold rpV
  by_cases g0 : a.errno = b.errno
  rotate_left
  · have HE : Hid (R = false) := HNO.out fun e => g0 (by rw [e])
    have e0 : ((a.errno : Int) == (b.errno : Int)) = false := by rw [beq_eq_false_iff_ne]; omega
    clear g0
    go_enter Try.func16, Try.ntmps16
    go_wp2_with fail
    go_ret
    exact ⟨by rw [HE.out]; rfl, HB0.out⟩
  have e0 : ((a.errno : Int) == (b.errno : Int)) = true := by rw [beq_iff_eq]; omega
  have G0 := Lib.hid g0; clear g0
  by_cases g1 : a.rev = b.rev
  rotate_left
  · have HE : Hid (R = false) := HNO.out fun e => g1 (by rw [e])
    have e1 : (a.rev == b.rev) = false := by rw [beq_eq_false_iff_ne]; exact g1
    clear g1
    go_enter Try.func16, Try.ntmps16
    go_wp2_with fail
    go_ret
    exact ⟨by rw [HE.out]; rfl, HB0.out⟩
  have e1 : (a.rev == b.rev) = true := by rw [beq_iff_eq]; exact g1
  have G1 := Lib.hid g1; clear g1
  by_cases g2 : a.value = b.value
  rotate_left
  · have HE : Hid (R = false) := HNO.out fun e => g2 (by rw [e])
    have e2 : (a.value.toList == b.value.toList) = false := tb_ne g2
    clear g2
    go_enter Try.func16, Try.ntmps16
    go_wp2_with fail
    go_ret
    exact ⟨by rw [HE.out]; rfl, HB0.out⟩
  have e2 : (a.value.toList == b.value.toList) = true := tb_eq g2
  have G2 := Lib.hid g2; clear g2
  have HQK : Hid (∀ v, sameKs a.keys b.keys = v → (v = true ↔ a.keys = b.keys)) := fun v hv => by rw [← hv]; exact sameKs_iff
  obtain ⟨v, hv⟩ : ∃ v, sameKs a.keys b.keys = v := ⟨_, rfl⟩
  have HV := Lib.hid (HQK.out v hv)
  rw [hv] at q
  have HE : Hid (R = v) := by
    show _ = _
    cases v with
    | true => exact HYES.out (HEXT.out G0.out G1.out G2.out (HV.out.1 rfl))
    | false => exact HNO.out fun e => by have := HV.out.2 (by rw [e]); cases this
  clear hv HQK HV
  go_enter Try.func16, Try.ntmps16
  go_wp2_with fail
  ((with_reducible refine q.mono ?_); rintro e W1 ⟨rfl, b1⟩)
  have HBE := Lib.hid (bch HB0.out b1)
  clear q b1
  go_wp2_with fail
  go_ret
  exact ⟨ret_bool (by rw [HE.out]), HBE.out⟩
theorem sameQ13_any : SameQ13 := fun a b A B n cap m cap2 w _ _ ha hb _ _ _ _ => same13p_any a b A B n cap m cap2 w ha hb
noncomputable def sameD (a b : DnR) : Bool := @decide (a = b) (Classical.propDecidable _)
theorem sameD_iff {a b : DnR} : sameD a b = true ↔ a = b := by unfold sameD; simp
set_option maxRecDepth 100000 in
set_option maxHeartbeats 8000000 in
theorem sameall1_any (x y : DnR) (A B : Option Addr) (n cap m cap2 : Nat) (w : World) (ha : IsSs w A n x.rep.keys) (hb : IsSs w B m y.rep.keys) :
    Calls Try.prog 27 #[.agg #[.int .i64 x.client, .int .i64 x.id, .int .i64 x.rep.errno, .int .i64 x.rep.rev, .string x.rep.value, .slice A n cap], .agg #[.int .i64 y.client, .int .i64 y.id, .int .i64 y.rep.errno, .int .i64 y.rep.rev, .string y.rep.value, .slice B m cap2]] w fun e w' => e = .returned (.bool (sameD x y)) ∧ Below w.heap.size w w' := by
  have HNO : Hid (x ≠ y → sameD x y = false) := fun h => by rw [Bool.eq_false_iff]; exact fun e => h (sameD_iff.1 e)
  have HYES : Hid (x = y → sameD x y = true) := sameD_iff.2
  generalize sameD x y = R at *
  have hbw : Below w.heap.size w ((w.alloc (.cells #[.int .i64 x.client, .int .i64 x.id, .int .i64 x.rep.errno, .int .i64 x.rep.rev, .string x.rep.value, .slice A n cap] 45)).alloc (.cells #[.int .i64 y.client, .int .i64 y.id, .int .i64 y.rep.errno, .int .i64 y.rep.rev, .string y.rep.value, .slice B m cap2] 45)) := ((Below.refl _ _).alloc (Nat.le_refl _) _).alloc (by simp) _
  have h1 := Blk.below (Blk.new w (.cells #[.int .i64 x.client, .int .i64 x.id, .int .i64 x.rep.errno, .int .i64 x.rep.rev, .string x.rep.value, .slice A n cap] 45)) ((Below.refl _ _).alloc (Nat.le_refl _) (.cells #[.int .i64 y.client, .int .i64 y.id, .int .i64 y.rep.errno, .int .i64 y.rep.rev, .string y.rep.value, .slice B m cap2] 45))
  have h2 := Blk.new (w.alloc (.cells #[.int .i64 x.client, .int .i64 x.id, .int .i64 x.rep.errno, .int .i64 x.rep.rev, .string x.rep.value, .slice A n cap] 45)) (.cells #[.int .i64 y.client, .int .i64 y.id, .int .i64 y.rep.errno, .int .i64 y.rep.rev, .string y.rep.value, .slice B m cap2] 45)
  rw [World.size_alloc] at h2
  obtain ⟨W0, hW0⟩ : ∃ W, (w.alloc (.cells #[.int .i64 x.client, .int .i64 x.id, .int .i64 x.rep.errno, .int .i64 x.rep.rev, .string x.rep.value, .slice A n cap] 45)).alloc (.cells #[.int .i64 y.client, .int .i64 y.id, .int .i64 y.rep.errno, .int .i64 y.rep.rev, .string y.rep.value, .slice B m cap2] 45) = W := ⟨_, rfl⟩
  rw [hW0] at hbw h1 h2
  have c0 := Blk.cell h1 0
  have c1 := Blk.cell h1 1
  have c2 := Blk.cell h1 2
  have c3 := Blk.cell h1 3
  have c4 := Blk.cell h1 4
  have c5 := Blk.cell h1 5
  have d0 := Blk.cell h2 0
  have d1 := Blk.cell h2 1
  have d2 := Blk.cell h2 2
  have d3 := Blk.cell h2 3
  have d4 := Blk.cell h2 4
  have d5 := Blk.cell h2 5
  simp only [List.getElem?_toArray, List.getElem?_cons_zero, List.getElem?_cons_succ] at c0 c1 c2 c3 c4 c5 d0 d1 d2 d3 d4 d5
  have q := same13p_any x.rep y.rep A B n cap m cap2 W0 (ha.below hbw) (hb.below hbw)
  unfold rpV at q
  have HB0 := Lib.hid hbw; clear hbw ha hb h1 h2
  by_cases g0 : x.client = y.client
  rotate_left
  · have HE : Hid (R = false) := HNO.out fun e => g0 (by rw [e])
    have e0 : (x.client == y.client) = false := by rw [beq_eq_false_iff_ne]; exact g0
    clear g0
    go_enter Try.func27, Try.ntmps27
    go_wp2_with fail
    go_ret
    exact ⟨by rw [HE.out]; rfl, HB0.out⟩
  have e0 : (x.client == y.client) = true := by rw [beq_iff_eq]; exact g0
  have G0 := Lib.hid g0; clear g0
  by_cases g1 : x.id = y.id
  rotate_left
  · have HE : Hid (R = false) := HNO.out fun e => g1 (by rw [e])
    have e1 : (x.id == y.id) = false := by rw [beq_eq_false_iff_ne]; exact g1
    clear g1
    go_enter Try.func27, Try.ntmps27
    go_wp2_with fail
    go_ret
    exact ⟨by rw [HE.out]; rfl, HB0.out⟩
  have e1 : (x.id == y.id) = true := by rw [beq_iff_eq]; exact g1
  have G1 := Lib.hid g1; clear g1
  have HQK : Hid (∀ v, sameRp x.rep y.rep = v → (v = true ↔ x.rep = y.rep)) := fun v hv => by rw [← hv]; exact sameRp_iff
  obtain ⟨v, hv⟩ : ∃ v, sameRp x.rep y.rep = v := ⟨_, rfl⟩
  have HV := Lib.hid (HQK.out v hv)
  rw [hv] at q
  have HE : Hid (R = v) := by
    show _ = _
    cases v with
    | true => exact HYES.out (dn_ext G0.out G1.out (HV.out.1 rfl))
    | false => exact HNO.out fun e => by have := HV.out.2 (by rw [e]); cases this
  clear hv HQK HV
  go_enter Try.func27, Try.ntmps27
  go_wp2_with fail
  ((with_reducible refine q.mono ?_); rintro e W1 ⟨rfl, b1⟩)
  have HBE := Lib.hid (bch HB0.out b1)
  clear q b1
  go_wp2_with fail
  go_ret
  exact ⟨ret_bool (by rw [HE.out]), HBE.out⟩
theorem cfSameAll1 (args : Array Value) (w : World) : (callFunc 27 args).run Try.prog w = .ok (.enter 27 args) w := run_callFunc_bodyD Try.func27 (by kernel_rfl) (by kernel_rfl) args w
set_option maxRecDepth 100000 in
set_option maxHeartbeats 8000000 in
theorem equalFunc13_any (t u : List DnR) (A B : Option Addr) (n m cap cap2 : Nat) (w : World) (h : IsDs w A n t) (h2 : IsDs w B m u) :
    Calls Try.prog 26 #[.slice A n cap, .slice B m cap2, .func (.func 27) #[] #[]] w fun e w' => e = .returned (.bool (sameDs t u)) ∧ Below w.heap.size w w' := by
  have hn9 := h.2.1
  have hm9 := h2.2.1
  unfold maxLen at hn9 hm9
  have HN : Hid (n = t.length) := h.1
  have HM : Hid (m = u.length) := h2.1
  have HT := Lib.hid h; clear h
  have HU := Lib.hid h2; clear h2
  have HNO : Hid (t ≠ u → sameDs t u = false) := fun h => by rw [Bool.eq_false_iff]; exact fun e => h (sameDs_iff.1 e)
  have HYES : Hid (t = u → sameDs t u = true) := sameDs_iff.2
  generalize sameDs t u = R at *
  by_cases hnm : n = m
  rotate_left
  · have HE : Hid (R = false) := HNO.out fun e => hnm (by rw [HN.out, HM.out, e])
    have e1 : ((n : Int) != (m : Int)) = true := by simp; omega
    clear hnm
    go_enter Try.func26, Try.ntmps26
    go_wp2_with fail
    go_ret
    exact ⟨by rw [HE.out]; rfl, Below.refl _ _⟩
  subst hnm
  have e1 : ((n : Int) != (n : Int)) = false := by simp
  go_enter Try.func26, Try.ntmps26
  go_wp2_with fail
  go_loopw [17] (fun i wy => ∃ (j : Nat) (wr : World), wr = wy ∧ j ≤ n ∧ i = .int .i64 j ∧ (∀ q, q < j → atD t q = atD u q) ∧ Below w.heap.size w wr) (fun i _ => n - (intOf i).toNat)
  case atStart => exact ⟨0, _, rfl, by omega, rfl, (fun q hq => by omega), Below.refl _ _⟩
  case round =>
    obtain ⟨j, wr, rfl, hj, rfl, hsm, hb⟩ := hrel
    have HB := Lib.hid hb; clear hb
    have HSM := Lib.hid hsm; clear hsm
    by_cases hlt : j < n
    · have hji : (j : Int) < (n : Int) := by omega
      have hj0 : (0 : Int) ≤ (j : Int) := by omega
      have hjl : j < t.length := by have := HN.out; omega
      have hju : j < u.length := by have := HM.out; omega
      obtain ⟨b, off, hA, _⟩ := HT.out.block (by omega)
      subst hA
      obtain ⟨b2, off2, hA2, _⟩ := HU.out.block (by omega)
      subst hA2
      obtain ⟨E, m1, c, hx, _, hfs⟩ := HT.out.at hjl HB.out
      obtain ⟨E2, m2, c2, hy, _, hfs2⟩ := HU.out.at hju HB.out
      have HX : Hid (∀ b, sameD (atD t j) (atD u j) = b → (b = true ↔ atD t j = atD u j)) := fun b hb => by rw [← hb]; exact sameD_iff
      obtain ⟨s, hs⟩ : ∃ s, sameD (atD t j) (atD u j) = s := ⟨_, rfl⟩
      have HS := Lib.hid (HX.out s hs)
      have HSS := Lib.hid hs; clear hs HX
      have HNE : Hid (s = false → t ≠ u) := fun e h => by subst e; have := HS.out.2 (by rw [h]); cases this
      have HST : Hid (s = true → atD t j = atD u j) := HS.out.1
      clear HS hjl hju
      have HFX := Lib.hid hfs; clear hfs
      have HFY := Lib.hid hfs2; clear hfs2
      generalize hxx : atD t j = x at *
      generalize hyy : atD u j = y at *
      have HXX := Lib.hid hxx; clear hxx
      have HYY := Lib.hid hyy; clear hyy
      have hb1 : Below wr.heap.size wr (wr.alloc (.cells #[.int .i64 x.client, .int .i64 x.id, .int .i64 x.rep.errno, .int .i64 x.rep.rev, .string x.rep.value, .slice E m1 c] 45)) := (Below.refl _ _).alloc (Nat.le_refl _) _
      have hbx := Blk.new wr (.cells #[.int .i64 x.client, .int .i64 x.id, .int .i64 x.rep.errno, .int .i64 x.rep.rev, .string x.rep.value, .slice E m1 c] 45)
      have hgx := World.size_alloc wr (.cells #[.int .i64 x.client, .int .i64 x.id, .int .i64 x.rep.errno, .int .i64 x.rep.rev, .string x.rep.value, .slice E m1 c] 45)
      have hy1 := hy.below hb1
      obtain ⟨x0, x1, x2, x3, x4, x5⟩ := hx
      clear hy
      go_upto_region 6 with fail
      clear x0 x1 x2 x3 x4 x5
      obtain ⟨V1, hV1⟩ : ∃ V, wr.alloc (.cells #[.int .i64 x.client, .int .i64 x.id, .int .i64 x.rep.errno, .int .i64 x.rep.rev, .string x.rep.value, .slice E m1 c] 45) = V := ⟨_, rfl⟩
      rw [hV1] at hb1 hbx hgx hy1 ⊢
      clear hV1
      have HB1 := Lib.hid hb1; clear hb1
      have HGX := Lib.hid hgx; clear hgx
      have HBX1 := Lib.hid hbx; clear hbx
      have hb2 : Below V1.heap.size V1 (V1.alloc (.cells #[.int .i64 y.client, .int .i64 y.id, .int .i64 y.rep.errno, .int .i64 y.rep.rev, .string y.rep.value, .slice E2 m2 c2] 45)) := (Below.refl _ _).alloc (Nat.le_refl _) _
      have hby := Blk.new V1 (.cells #[.int .i64 y.client, .int .i64 y.id, .int .i64 y.rep.errno, .int .i64 y.rep.rev, .string y.rep.value, .slice E2 m2 c2] 45)
      have hbx2 := Blk.below HBX1.out hb2
      have hgy := World.size_alloc V1 (.cells #[.int .i64 y.client, .int .i64 y.id, .int .i64 y.rep.errno, .int .i64 y.rep.rev, .string y.rep.value, .slice E2 m2 c2] 45)
      obtain ⟨y0, y1, y2, y3, y4, y5⟩ := hy1
      go_upto_region 7 with fail
      clear y0 y1 y2 y3 y4 y5
      obtain ⟨V2, hV2⟩ : ∃ V, V1.alloc (.cells #[.int .i64 y.client, .int .i64 y.id, .int .i64 y.rep.errno, .int .i64 y.rep.rev, .string y.rep.value, .slice E2 m2 c2] 45) = V := ⟨_, rfl⟩
      rw [hV2] at hb2 hby hbx2 hgy ⊢
      clear hV2 HBX1
      have HGY := Lib.hid hgy; clear hgy
      have HB2 := Lib.hid (bch HB1.out hb2); clear hb2
      have q := sameall1_any x y E E2 m1 c m2 c2 V2 (HFX.out.below HB2.out) (HFY.out.below HB2.out)
      rw [HSS.out] at q
      have y0 := Blk.cell hbx2 0
      have y1 := Blk.cell hbx2 1
      have y2 := Blk.cell hbx2 2
      have y3 := Blk.cell hbx2 3
      have y4 := Blk.cell hbx2 4
      have y5 := Blk.cell hbx2 5
      have z0 := Blk.cell hby 0
      have z1 := Blk.cell hby 1
      have z2 := Blk.cell hby 2
      have z3 := Blk.cell hby 3
      have z4 := Blk.cell hby 4
      have z5 := Blk.cell hby 5
      simp only [List.getElem?_toArray, List.getElem?_cons_zero, List.getElem?_cons_succ] at y0 y1 y2 y3 y4 y5 z0 z1 z2 z3 z4 z5
      have HBY := Lib.hid hby; clear hby
      have HBX2 := Lib.hid hbx2; clear hbx2
      have cf := cfSameAll1
      cases s with
      | true =>
        go_wp2_with fail
        ((with_reducible refine q.mono ?_); rintro e W3 ⟨rfl, b3⟩)
        have HB3 := Lib.hid (bch HB.out (bch HB2.out b3)); clear b3 q
        clear y0 y1 y2 y3 y4 y5 z0 z1 z2 z3 z4 z5
        go_wp2_with fail
        go_roundw
        case rel => exact ⟨j + 1, _, rfl, by omega, by go_num, fun q hq => by rcases (by omega : q < j ∨ q = j) with h | rfl; exact HSM.out q h; rw [HXX.out, HYY.out]; exact HST.out (by first | trivial | rfl), HB3.out⟩
        case measure => simp [intOf]; omega
      | false =>
        have HE : Hid (R = false) := HNO.out (HNE.out rfl)
        go_wp2_with fail
        ((with_reducible refine q.mono ?_); rintro e W3 ⟨rfl, b3⟩)
        have HB3 := Lib.hid (bch HB.out (bch HB2.out b3)); clear b3 q
        clear y0 y1 y2 y3 y4 y5 z0 z1 z2 z3 z4 z5
        go_wp2_with fail
        go_ret
        exact ⟨by rw [HE.out]; rfl, HB3.out⟩
    · have hje : j = n := by omega
      subst hje
      have HE : Hid (R = true) := HYES.out (by
        refine List.ext_getElem (by rw [← HN.out, ← HM.out]) fun i hi hj2 => ?_
        have := HSM.out i (by have := HN.out; omega)
        rw [atD_get hi, atD_get hj2] at this
        exact this)
      clear hlt
      go_wp2_with fail
      go_ret
      exact ⟨by rw [HE.out]; rfl, HB.out⟩
set_option maxRecDepth 100000 in
set_option maxHeartbeats 8000000 in
theorem sameAll13_any (t u : List DnR) (A B : Option Addr) (n m cap cap2 : Nat) (w : World) (h : IsDs w A n t) (h2 : IsDs w B m u) :
    Calls Try.prog 17 #[.slice A n cap, .slice B m cap2] w fun e w' => e = .returned (.bool (sameDs t u)) ∧ Below w.heap.size w w' := by
  have q := equalFunc13_any t u A B n m cap cap2 w h h2
  clear h h2
  go_enter Try.func17, Try.ntmps17
  go_wp2_with fail
  ((with_reducible refine q.mono ?_); rintro e W1 ⟨rfl, b1⟩)
  go_wp2_with fail
  go_ret
  exact ⟨rfl, b1⟩
theorem sameAllQ_any : SameAllQ := fun t u A B n cap m cap2 w _ _ h h2 _ _ => sameAll13_any t u A B n m cap cap2 w h h2
end Go.Proofs.Ytgckoihangccbaa
