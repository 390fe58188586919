import Derived.Test.YtgckoihangccbaaRpRef
/-
  The contract of the document's own Look of caches (stage 13).
-/
namespace Go.Proofs.Ytgckoihangccbaa
open Go.RowKit
set_option linter.unusedVariables false
set_option linter.unusedSimpArgs false

set_option maxRecDepth 100000 in
set_option maxHeartbeats 8000000 in
theorem reflook_any (l : List DnR) (c i : Int) (A : Option Addr) (n cap : Nat) (w : World) (h : IsDs w A n l) :
    Calls Try.prog 28 #[.slice A n cap, .int .i64 c, .int .i64 i] w (LookPost w (lookL l c i).1 (lookL l c i).2) := by
  have hn9 := h.2.1
  unfold maxLen at hn9
  have HN : Hid (n = l.length) := h.1
  have hb0 : Below w.heap.size w (w.alloc (.cells #[.int .i64 0, .int .i64 0, .string ⟨#[]⟩, .slice none 0 0] 31)) := (Below.refl _ _).alloc (Nat.le_refl _) _
  have hz0 := Blk.new w (.cells #[.int .i64 0, .int .i64 0, .string ⟨#[]⟩, .slice none 0 0] 31)
  have hts := h.below hb0
  obtain ⟨W0, hW0⟩ : ∃ W, w.alloc (.cells #[.int .i64 0, .int .i64 0, .string ⟨#[]⟩, .slice none 0 0] 31) = W := ⟨_, rfl⟩
  rw [hW0] at hb0 hz0 hts
  have HT := Lib.hid hts; clear hts h
  have HZ := Lib.hid hz0; clear hz0
  have HB := Lib.hid hb0; clear hb0
  have q := refright13_any l A n cap W0 HT.out
  have HBAD : Hid (¬ (RightD l ∧ GoodC c i) → lookL l c i = (zeroP13, 1)) := fun h => if_pos h
  have HTELL : Hid (RightD l ∧ GoodC c i → lookL l c i = tellD (lookD l c) i) := fun h => look_tell h.1 h.2
  have HRD : Hid (∀ b, rightD l = b → (b = true ↔ RightD l)) := fun b hb => by rw [← hb]; exact rightD_iff
  obtain ⟨b, hb⟩ : ∃ b, rightD l = b := ⟨_, rfl⟩
  have HRB := Lib.hid (HRD.out b hb)
  rw [hb] at q
  clear hb HRD
  generalize lookL l c i = L at *
  go_enter Try.func28, Try.ntmps28
  go_wp2_with fail
  ((with_reducible refine q.mono ?_); rintro e W1 ⟨rfl, b1⟩)
  clear q
  have HZ1 := Lib.hid (Blk.below HZ.out b1)
  have HT1 := Lib.hid (HT.out.below b1)
  have HB1 := Lib.hid (bch HB.out b1); clear b1
  cases b with
  | false =>
    have HE : Hid (L = (zeroP13, 1)) := HBAD.out fun h => by have := HRB.out.2 h.1; cases this
    have z0 := Blk.cell HZ1.out 0
    have z1 := Blk.cell HZ1.out 1
    have z2 := Blk.cell HZ1.out 2
    have z3 := Blk.cell HZ1.out 3
    simp only [List.getElem?_toArray, List.getElem?_cons_zero, List.getElem?_cons_succ] at z0 z1 z2 z3
    have f0 := Blk.frozen HZ1.out 0
    have f1 := Blk.frozen HZ1.out 1
    have f2 := Blk.frozen HZ1.out 2
    have f3 := Blk.frozen HZ1.out 3
    have hfin := rp_put13 HZ1.out (.int .i64 0) (.int .i64 0) (.string ⟨#[]⟩) (.slice none 0 0)
    have e0 := Blk.cell hfin 0
    have e1 := Blk.cell hfin 1
    have e2 := Blk.cell hfin 2
    have e3 := Blk.cell hfin 3
    simp only [List.getElem?_toArray, List.getElem?_cons_zero, List.getElem?_cons_succ] at e0 e1 e2 e3
    have HBF := Lib.hid (below_four13 (g := w.heap.size) HB1.out (Nat.le_refl _) (.int .i64 0) (.int .i64 0) (.string ⟨#[]⟩) (.slice none 0 0))
    clear hfin
    go_wp2_with fail
    refine bodyPost_ret (v := .tuple #[.agg #[(.int .i64 0), (.int .i64 0), (.string ⟨#[]⟩), (.slice none 0 0)], .int .i64 1]) (by simp [results, Try.results28, go_sem, e0, e1, e2, e3]) rfl (by rw [HE.out]; exact ⟨none, 0, 0, rfl, Nat.le_refl _, isSs_nil _ _, HBF.out⟩)
  | true =>
    have HR : Hid (RightD l) := HRB.out.1 rfl
    clear HRB
    by_cases g0 : 1 ≤ c
    rotate_left
    · have HE : Hid (L = (zeroP13, 1)) := HBAD.out (fun h => by have := h.2.1.1; omega)
      have g := (show c < 1 by omega)
      have z0 := Blk.cell HZ1.out 0
      have z1 := Blk.cell HZ1.out 1
      have z2 := Blk.cell HZ1.out 2
      have z3 := Blk.cell HZ1.out 3
      simp only [List.getElem?_toArray, List.getElem?_cons_zero, List.getElem?_cons_succ] at z0 z1 z2 z3
      have f0 := Blk.frozen HZ1.out 0
      have f1 := Blk.frozen HZ1.out 1
      have f2 := Blk.frozen HZ1.out 2
      have f3 := Blk.frozen HZ1.out 3
      have hfin := rp_put13 HZ1.out (.int .i64 0) (.int .i64 0) (.string ⟨#[]⟩) (.slice none 0 0)
      have e0 := Blk.cell hfin 0
      have e1 := Blk.cell hfin 1
      have e2 := Blk.cell hfin 2
      have e3 := Blk.cell hfin 3
      simp only [List.getElem?_toArray, List.getElem?_cons_zero, List.getElem?_cons_succ] at e0 e1 e2 e3
      have HBF := Lib.hid (below_four13 (g := w.heap.size) HB1.out (Nat.le_refl _) (.int .i64 0) (.int .i64 0) (.string ⟨#[]⟩) (.slice none 0 0))
      clear hfin
      go_wp2_with fail
      refine bodyPost_ret (v := .tuple #[.agg #[(.int .i64 0), (.int .i64 0), (.string ⟨#[]⟩), (.slice none 0 0)], .int .i64 1]) (by simp [results, Try.results28, go_sem, e0, e1, e2, e3]) rfl (by rw [HE.out]; exact ⟨none, 0, 0, rfl, Nat.le_refl _, isSs_nil _ _, HBF.out⟩)
    by_cases g1 : c ≤ 1000
    rotate_left
    · have HE : Hid (L = (zeroP13, 1)) := HBAD.out (fun h => by have := h.2.1.2; omega)
      have g := (show 1000 < c by omega)
      have z0 := Blk.cell HZ1.out 0
      have z1 := Blk.cell HZ1.out 1
      have z2 := Blk.cell HZ1.out 2
      have z3 := Blk.cell HZ1.out 3
      simp only [List.getElem?_toArray, List.getElem?_cons_zero, List.getElem?_cons_succ] at z0 z1 z2 z3
      have f0 := Blk.frozen HZ1.out 0
      have f1 := Blk.frozen HZ1.out 1
      have f2 := Blk.frozen HZ1.out 2
      have f3 := Blk.frozen HZ1.out 3
      have hfin := rp_put13 HZ1.out (.int .i64 0) (.int .i64 0) (.string ⟨#[]⟩) (.slice none 0 0)
      have e0 := Blk.cell hfin 0
      have e1 := Blk.cell hfin 1
      have e2 := Blk.cell hfin 2
      have e3 := Blk.cell hfin 3
      simp only [List.getElem?_toArray, List.getElem?_cons_zero, List.getElem?_cons_succ] at e0 e1 e2 e3
      have HBF := Lib.hid (below_four13 (g := w.heap.size) HB1.out (Nat.le_refl _) (.int .i64 0) (.int .i64 0) (.string ⟨#[]⟩) (.slice none 0 0))
      clear hfin
      go_wp2_with fail
      refine bodyPost_ret (v := .tuple #[.agg #[(.int .i64 0), (.int .i64 0), (.string ⟨#[]⟩), (.slice none 0 0)], .int .i64 1]) (by simp [results, Try.results28, go_sem, e0, e1, e2, e3]) rfl (by rw [HE.out]; exact ⟨none, 0, 0, rfl, Nat.le_refl _, isSs_nil _ _, HBF.out⟩)
    by_cases g2 : 1 ≤ i
    rotate_left
    · have HE : Hid (L = (zeroP13, 1)) := HBAD.out (fun h => by have := h.2.2.1; omega)
      have g := (show i < 1 by omega)
      have z0 := Blk.cell HZ1.out 0
      have z1 := Blk.cell HZ1.out 1
      have z2 := Blk.cell HZ1.out 2
      have z3 := Blk.cell HZ1.out 3
      simp only [List.getElem?_toArray, List.getElem?_cons_zero, List.getElem?_cons_succ] at z0 z1 z2 z3
      have f0 := Blk.frozen HZ1.out 0
      have f1 := Blk.frozen HZ1.out 1
      have f2 := Blk.frozen HZ1.out 2
      have f3 := Blk.frozen HZ1.out 3
      have hfin := rp_put13 HZ1.out (.int .i64 0) (.int .i64 0) (.string ⟨#[]⟩) (.slice none 0 0)
      have e0 := Blk.cell hfin 0
      have e1 := Blk.cell hfin 1
      have e2 := Blk.cell hfin 2
      have e3 := Blk.cell hfin 3
      simp only [List.getElem?_toArray, List.getElem?_cons_zero, List.getElem?_cons_succ] at e0 e1 e2 e3
      have HBF := Lib.hid (below_four13 (g := w.heap.size) HB1.out (Nat.le_refl _) (.int .i64 0) (.int .i64 0) (.string ⟨#[]⟩) (.slice none 0 0))
      clear hfin
      go_wp2_with fail
      refine bodyPost_ret (v := .tuple #[.agg #[(.int .i64 0), (.int .i64 0), (.string ⟨#[]⟩), (.slice none 0 0)], .int .i64 1]) (by simp [results, Try.results28, go_sem, e0, e1, e2, e3]) rfl (by rw [HE.out]; exact ⟨none, 0, 0, rfl, Nat.le_refl _, isSs_nil _ _, HBF.out⟩)
    by_cases g3 : i ≤ 9007199254740992
    rotate_left
    · have HE : Hid (L = (zeroP13, 1)) := HBAD.out (fun h => by have := h.2.2.2; unfold maxN at this; omega)
      have g := (show 9007199254740992 < i by omega)
      have z0 := Blk.cell HZ1.out 0
      have z1 := Blk.cell HZ1.out 1
      have z2 := Blk.cell HZ1.out 2
      have z3 := Blk.cell HZ1.out 3
      simp only [List.getElem?_toArray, List.getElem?_cons_zero, List.getElem?_cons_succ] at z0 z1 z2 z3
      have f0 := Blk.frozen HZ1.out 0
      have f1 := Blk.frozen HZ1.out 1
      have f2 := Blk.frozen HZ1.out 2
      have f3 := Blk.frozen HZ1.out 3
      have hfin := rp_put13 HZ1.out (.int .i64 0) (.int .i64 0) (.string ⟨#[]⟩) (.slice none 0 0)
      have e0 := Blk.cell hfin 0
      have e1 := Blk.cell hfin 1
      have e2 := Blk.cell hfin 2
      have e3 := Blk.cell hfin 3
      simp only [List.getElem?_toArray, List.getElem?_cons_zero, List.getElem?_cons_succ] at e0 e1 e2 e3
      have HBF := Lib.hid (below_four13 (g := w.heap.size) HB1.out (Nat.le_refl _) (.int .i64 0) (.int .i64 0) (.string ⟨#[]⟩) (.slice none 0 0))
      clear hfin
      go_wp2_with fail
      refine bodyPost_ret (v := .tuple #[.agg #[(.int .i64 0), (.int .i64 0), (.string ⟨#[]⟩), (.slice none 0 0)], .int .i64 1]) (by simp [results, Try.results28, go_sem, e0, e1, e2, e3]) rfl (by rw [HE.out]; exact ⟨none, 0, 0, rfl, Nat.le_refl _, isSs_nil _ _, HBF.out⟩)
    have k0 : ¬ c < 1 := by omega
    have k1 : ¬ 1000 < c := by omega
    have k2 : ¬ i < 1 := by omega
    have k3 : ¬ 9007199254740992 < i := by omega
    have HG : Hid (L = tellD (lookD l c) i) := HTELL.out ⟨HR.out, ⟨⟨g0, g1⟩, g2, by unfold maxN; exact g3⟩⟩
    clear HBAD HTELL
    have HS1 : Hid (w.heap.size < W1.heap.size) := Blk.lt HZ1.out
    go_wp2_with fail
    go_loopw [9] (fun x wy => ∃ (j : Nat) (wr : World), wr = wy ∧ j ≤ n ∧ x = .int .i64 j ∧ (∀ q, q < j → (atD l q).client = c → (atD l q).id < i) ∧ Below W1.heap.size W1 wr) (fun x _ => n - (intOf x).toNat)
    case atStart => exact ⟨0, _, rfl, by omega, rfl, (fun q hq => by omega), Below.refl _ _⟩
    case round =>
      obtain ⟨j, wr, rfl, hj, rfl, hno, hb⟩ := hrel
      have HBR := Lib.hid hb; clear hb
      have HNO := Lib.hid hno; clear hno
      have HZR := Lib.hid (Blk.below HZ1.out HBR.out)
      have HBW := Lib.hid (bch HB1.out HBR.out)
      by_cases hlt : j < n
      · have hji : (j : Int) < (n : Int) := by omega
        have hj0 : (0 : Int) ≤ (j : Int) := by omega
        have hjl : j < l.length := by have := HN.out; omega
        obtain ⟨b, off, hA, _⟩ := HT1.out.block (by omega)
        subst hA
        obtain ⟨E, m, cc, hx, hmc, hss⟩ := HT1.out.at hjl HBR.out
        have hdw := HT1.out.2.2.1 _ (atD_mem hjl)
        have HLK : Hid ((atD l j).client = c → lookD l c = some (atD l j)) := fun e => by
          have := lookD_of_mem HR.out.2.1 (atD_mem hjl)
          rw [e] at this; exact this
        obtain ⟨x0, x1, x2, x3, x4, x5⟩ := hx
        obtain ⟨d, hd⟩ : ∃ d, atD l j = d := ⟨_, rfl⟩
        have HD := Lib.hid hd
        rw [hd] at x0 x1 x2 x3 x4 hss hdw HLK
        clear hd
        by_cases hc : d.client = c
        · have e0 : (d.client != c) = false := by simp [hc]
          have HK := Lib.hid (HLK.out hc); clear HLK
          by_cases hid : d.id < i
          · have HID := Lib.hid hid
            clear hc
            go_wp2_with fail
            go_roundw
            case rel => exact ⟨j + 1, _, rfl, by omega, by go_num, fun q hq hk => by rcases (by omega : q < j ∨ q = j) with h | rfl; exact HNO.out q h hk; rw [HD.out]; exact HID.out, HBR.out⟩
            case measure => simp [intOf]; omega
          · by_cases hgt : i < d.id
            · have HE : Hid (L = (zeroP13, 81)) := by show _ = _; rw [HG.out, HK.out]; unfold tellD; simp only; rw [if_neg hid, if_pos hgt]
              clear hc
              have z0 := Blk.cell HZR.out 0
              have z1 := Blk.cell HZR.out 1
              have z2 := Blk.cell HZR.out 2
              have z3 := Blk.cell HZR.out 3
              simp only [List.getElem?_toArray, List.getElem?_cons_zero, List.getElem?_cons_succ] at z0 z1 z2 z3
              have f0 := Blk.frozen HZR.out 0
              have f1 := Blk.frozen HZR.out 1
              have f2 := Blk.frozen HZR.out 2
              have f3 := Blk.frozen HZR.out 3
              have hfin := rp_put13 HZR.out (.int .i64 0) (.int .i64 0) (.string ⟨#[]⟩) (.slice none 0 0)
              have e0 := Blk.cell hfin 0
              have e1 := Blk.cell hfin 1
              have e2 := Blk.cell hfin 2
              have e3 := Blk.cell hfin 3
              simp only [List.getElem?_toArray, List.getElem?_cons_zero, List.getElem?_cons_succ] at e0 e1 e2 e3
              have HBF := Lib.hid (below_four13 (g := w.heap.size) HBW.out (Nat.le_refl _) (.int .i64 0) (.int .i64 0) (.string ⟨#[]⟩) (.slice none 0 0))
              clear hfin
              go_wp2_with fail
              refine bodyPost_ret (v := .tuple #[.agg #[(.int .i64 0), (.int .i64 0), (.string ⟨#[]⟩), (.slice none 0 0)], .int .i64 81]) (by simp [results, Try.results28, go_sem, e0, e1, e2, e3]) rfl (by rw [HE.out]; exact ⟨none, 0, 0, rfl, Nat.le_refl _, isSs_nil _ _, HBF.out⟩)
            · have HE : Hid (L = (d.rep, 0)) := by show _ = _; rw [HG.out, HK.out]; unfold tellD; simp only; rw [if_neg hid, if_neg hgt]
              have q := refown13_any d.rep E m cc wr hss (by have := hdw.2.2.2; have := hss.1; omega)
              unfold rpV at q
              have HKW : Hid (∀ s ∈ d.rep.keys, s.size ≤ maxLen) := hss.2.2.1
              clear hc hss
              go_wp2_with fail
              ((with_reducible refine q.mono ?_); rintro e W2 ⟨Ak, nk, ck, rfl, hck, hnk, hrow, b2⟩)
              clear q x0 x1 x2 x3 x4 x5
              have hz2 := Blk.below HZR.out b2
              have HB2 := Lib.hid (bch HBW.out b2)
              have HSW : Hid (w.heap.size < wr.heap.size) := Blk.lt HZR.out
              have HRW := Lib.hid hrow; clear hrow b2
              subst hnk
              unfold rpV
              have z0 := Blk.cell hz2 0
              have z1 := Blk.cell hz2 1
              have z2 := Blk.cell hz2 2
              have z3 := Blk.cell hz2 3
              simp only [List.getElem?_toArray, List.getElem?_cons_zero, List.getElem?_cons_succ] at z0 z1 z2 z3
              have f0 := Blk.frozen hz2 0
              have f1 := Blk.frozen hz2 1
              have f2 := Blk.frozen hz2 2
              have f3 := Blk.frozen hz2 3
              have hfin := rp_put13 hz2 (.int .i64 d.rep.errno) (.int .i64 d.rep.rev) (.string d.rep.value) (.slice Ak d.rep.keys.length ck)
              have e0 := Blk.cell hfin 0
              have e1 := Blk.cell hfin 1
              have e2 := Blk.cell hfin 2
              have e3 := Blk.cell hfin 3
              simp only [List.getElem?_toArray, List.getElem?_cons_zero, List.getElem?_cons_succ] at e0 e1 e2 e3
              have HBF := Lib.hid (below_four13 (g := w.heap.size) HB2.out (Nat.le_refl _) (.int .i64 d.rep.errno) (.int .i64 d.rep.rev) (.string d.rep.value) (.slice Ak d.rep.keys.length ck))
              have hrf := rowK_four13 HRW.out (g := w.heap.size) (fun e => by have := (HRW.out.lt _ e.symm).1; have := HSW.out; omega) (.int .i64 d.rep.errno) (.int .i64 d.rep.rev) (.string d.rep.value) (.slice Ak d.rep.keys.length ck)
              obtain ⟨A9, c9, hv9, _, hs9⟩ := hrf.isSs HKW.out
              simp only [Value.slice.injEq, true_and] at hv9
              obtain ⟨rfl, rfl⟩ := hv9
              have HSF := Lib.hid hs9
              clear hrf hs9
              clear hfin
              go_wp2_with fail
              refine bodyPost_ret (v := .tuple #[.agg #[(.int .i64 d.rep.errno), (.int .i64 d.rep.rev), (.string d.rep.value), (.slice Ak d.rep.keys.length ck)], .int .i64 0]) (by simp [results, Try.results28, go_sem, e0, e1, e2, e3]) rfl (by rw [HE.out]; exact ⟨Ak, _, ck, rfl, hck, HSF.out, HBF.out⟩)
        · have e0 : (d.client != c) = true := by simpa using hc
          have HC := Lib.hid hc; clear hc
          go_wp2_with fail
          go_roundw
          case rel => exact ⟨j + 1, _, rfl, by omega, by go_num, fun q hq hk => by rcases (by omega : q < j ∨ q = j) with h | rfl; exact HNO.out q h hk; rw [HD.out] at hk; exact absurd hk HC.out, HBR.out⟩
          case measure => simp [intOf]; omega
      · have hje : j = n := by omega
        have HE : Hid (L = (zeroP13, 70)) := by
          show _ = _
          rw [HG.out]
          cases e : lookD l c with
          | none => rfl
          | some d =>
            obtain ⟨h1, h2⟩ := lookD_mem e
            obtain ⟨q, hq, rfl⟩ := List.getElem_of_mem h1
            have := HNO.out q (by have := HN.out; omega)
            rw [atD_get hq] at this
            unfold tellD
            simp only
            rw [if_pos (this h2)]
        have hji : ¬ (j : Int) < (n : Int) := by omega
        clear hlt hje
        have z0 := Blk.cell HZR.out 0
        have z1 := Blk.cell HZR.out 1
        have z2 := Blk.cell HZR.out 2
        have z3 := Blk.cell HZR.out 3
        simp only [List.getElem?_toArray, List.getElem?_cons_zero, List.getElem?_cons_succ] at z0 z1 z2 z3
        have f0 := Blk.frozen HZR.out 0
        have f1 := Blk.frozen HZR.out 1
        have f2 := Blk.frozen HZR.out 2
        have f3 := Blk.frozen HZR.out 3
        have hfin := rp_put13 HZR.out (.int .i64 0) (.int .i64 0) (.string ⟨#[]⟩) (.slice none 0 0)
        have e0 := Blk.cell hfin 0
        have e1 := Blk.cell hfin 1
        have e2 := Blk.cell hfin 2
        have e3 := Blk.cell hfin 3
        simp only [List.getElem?_toArray, List.getElem?_cons_zero, List.getElem?_cons_succ] at e0 e1 e2 e3
        have HBF := Lib.hid (below_four13 (g := w.heap.size) HBW.out (Nat.le_refl _) (.int .i64 0) (.int .i64 0) (.string ⟨#[]⟩) (.slice none 0 0))
        clear hfin
        go_wp2_with fail
        refine bodyPost_ret (v := .tuple #[.agg #[(.int .i64 0), (.int .i64 0), (.string ⟨#[]⟩), (.slice none 0 0)], .int .i64 70]) (by simp [results, Try.results28, go_sem, e0, e1, e2, e3]) rfl (by rw [HE.out]; exact ⟨none, 0, 0, rfl, Nat.le_refl _, isSs_nil _ _, HBF.out⟩)
end Go.Proofs.Ytgckoihangccbaa
