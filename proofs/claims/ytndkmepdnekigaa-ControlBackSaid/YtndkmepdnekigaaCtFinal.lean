import Derived.Test.YtndkmepdnekigaaCtOwn
import Derived.Test.YtndkmepdnekigaaCtPlace
/-
  The contract of the document's own Finalise of controllers (stage 18).
-/
namespace Go.Proofs.Ytndkmepdnekigaa
open Go.RowKit
set_option linter.unusedVariables false
set_option linter.unusedSimpArgs false

set_option maxRecDepth 100000 in
set_option maxHeartbeats 8000000 in
theorem reffinal9_any (c : CtR) (A B : Option Addr) (n cap m cm : Nat) (w : World) (hc : IsCt w c A n B m) (hn16 : n * 16 ≤ 140737488351232) (hm24 : m * 24 ≤ 140737488351232) :
    Calls Try.prog 19 #[ctV c A n cap B m cm] w (CtOwnP w (finalC c)) := by
  have HX0 := Blk.below (Blk.new w (ctB c A n cap B m cm)) (ba9 (w.alloc (ctB c A n cap B m cm)) (.cells #[.int .i64 0, .slice none 0 0, .slice none 0 0] 26))
  have HZ0 := Blk.new (w.alloc (ctB c A n cap B m cm)) (.cells #[.int .i64 0, .slice none 0 0, .slice none 0 0] 26)
  rw [World.size_alloc] at HZ0
  have HB0 := (ba9 w (ctB c A n cap B m cm)).alloc (ba9 w (ctB c A n cap B m cm)).size (.cells #[.int .i64 0, .slice none 0 0, .slice none 0 0] 26)
  have HC0 := hc.below HB0
  obtain ⟨W1, hW⟩ : ∃ W, (w.alloc (ctB c A n cap B m cm)).alloc (.cells #[.int .i64 0, .slice none 0 0, .slice none 0 0] 26) = W := ⟨_, rfl⟩
  rw [hW] at HX0 HZ0 HB0 HC0
  have z0 := Blk.cell HX0 0
  have z1 := Blk.cell HX0 1
  have z2 := Blk.cell HX0 2
  simp only [List.getElem?_toArray, List.getElem?_cons_zero, List.getElem?_cons_succ] at z0 z1 z2
  have q := refown9_any c A B n cap m cm W1 HC0 hn16 hm24
  have HCC := Lib.hid hc.1.1
  have HCP := Lib.hid hc.2.1
  clear hc
  go_enter Try.func19, Try.ntmps19
  go_upto_region 1 with fail
  try rw [hW]
  clear hW
  go_wp2_with fail
  ((with_reducible refine q.mono ?_); rintro e V ⟨Am, nm, capm, Bp, np, capp, rfl, hrm, hrp, hne, b1⟩)
  clear q z0 z1 z2
  obtain ⟨_, _, hvm, hcm, _⟩ := hrm.parts
  obtain ⟨_, rfl, rfl⟩ := slice_eqG hvm
  obtain ⟨_, _, hvp, hcp, _⟩ := hrp.parts
  obtain ⟨_, rfl, rfl⟩ := slice_eqG hvp
  go_upto_region 2 with fail
  have hs1 : w.heap.size + 1 < W1.heap.size := Blk.lt HZ0
  have hx2 := Blk.below (Blk.below HX0 b1) (ba9 V (ctB c Am c.mem.length capm Bp c.pl.length capp))
  have hz2 := Blk.below (Blk.below HZ0 b1) (ba9 V (ctB c Am c.mem.length capm Bp c.pl.length capp))
  have ha2 := Blk.new V (ctB c Am c.mem.length capm Bp c.pl.length capp)
  have hb2 := (bch HB0 b1).alloc (bch HB0 b1).size (ctB c Am c.mem.length capm Bp c.pl.length capp)
  have hc2 := (HC0.below b1).below (ba9 V (ctB c Am c.mem.length capm Bp c.pl.length capp))
  have hrm2 := hrm.below (ba9 V (ctB c Am c.mem.length capm Bp c.pl.length capp))
  have hrp2 := hrp.below (ba9 V (ctB c Am c.mem.length capm Bp c.pl.length capp))
  have hga : W1.heap.size ≤ V.heap.size := b1.size
  have hl1 : ∀ g, (Value.slice Am c.mem.length capm).ownBlock = some g → g < V.heap.size := fun g h => (hrm.lt g h).2
  have hl2 : ∀ g, (Value.slice Bp c.pl.length capp).ownBlock = some g → g < V.heap.size := fun g h => (hrp.lt g h).2
  obtain ⟨W2, hW2⟩ : ∃ W, V.alloc (ctB c Am c.mem.length capm Bp c.pl.length capp) = W := ⟨_, rfl⟩
  rw [hW2] at hx2 hz2 ha2 hb2 hc2 hrm2 hrp2
  rw [hW2]
  clear hW2 hrm hrp b1 HX0 HZ0 HB0 HC0
  generalize V.heap.size = ga at *
  generalize W1.heap.size = bs1 at *
  have HS1 := Lib.hid hs1; clear hs1
  have HX2 := Lib.hid hx2; clear hx2
  have HZ2 := Lib.hid hz2; clear hz2
  have HA := Lib.hid ha2; clear ha2
  have HB2 := Lib.hid hb2; clear hb2
  have HC2 := Lib.hid hc2; clear hc2
  have HRM := Lib.hid hrm2; clear hrm2
  have HRP := Lib.hid hrp2; clear hrp2
  have HL1 := Lib.hid hl1; clear hl1
  have HL2 := Lib.hid hl2; clear hl2
  have HGA := Lib.hid hga; clear hga
  have HNE := Lib.hid hne; clear hne
  have HNO : Hid (¬ RightC c → finalC c = (c, 1)) := fun h => if_pos h
  have HR : Hid (rightC c = decide (RightC c)) := rfl
  have z0 := Blk.cell HX2.out 0
  have z1 := Blk.cell HX2.out 1
  have z2 := Blk.cell HX2.out 2
  simp only [List.getElem?_toArray, List.getElem?_cons_zero, List.getElem?_cons_succ] at z0 z1 z2
  have q := refright9_any c A B n cap m cm W2 HC2.out
  go_wp2_with fail
  ((with_reducible refine q.mono ?_); rintro e V3 ⟨rfl, b3⟩)
  clear q z0 z1 z2
  cases hr : rightC c with
  | false =>
    have HE : Hid (finalC c = (c, 1)) := HNO.out (by rw [HR.out] at hr; simpa using hr)
    have ha_ := (Blk.below HA.out b3)
    have hz_ := (Blk.below HZ2.out b3)
    have a0 := Blk.cell ha_ 0
    have a1 := Blk.cell ha_ 1
    have a2 := Blk.cell ha_ 2
    have x0 := Blk.cell hz_ 0
    have x1 := Blk.cell hz_ 1
    have x2 := Blk.cell hz_ 2
    simp only [List.getElem?_toArray, List.getElem?_cons_zero, List.getElem?_cons_succ] at a0 a1 a2 x0 x1 x2
    have f0 := Blk.frozen hz_ 0
    have f1 := Blk.frozen hz_ 1
    have f2 := Blk.frozen hz_ 2
    have hz3 := Blk.set (Blk.set (Blk.set hz_ 0 (.int .i64 c.level) #[.int .i64 c.level, .slice none 0 0, .slice none 0 0] rfl) 1 (.slice Am c.mem.length capm) #[.int .i64 c.level, .slice Am c.mem.length capm, .slice none 0 0] rfl) 2 (.slice Bp c.pl.length capp) #[.int .i64 c.level, .slice Am c.mem.length capm, .slice Bp c.pl.length capp] rfl
    have hb3_ := (((bch HB2.out b3).setCell (p := ⟨w.heap.size + 1, 0, none⟩) (Nat.le_succ _) (.int .i64 c.level)).setCell (p := ⟨w.heap.size + 1, 1, none⟩) (Nat.le_succ _) (.slice Am c.mem.length capm)).setCell (p := ⟨w.heap.size + 1, 2, none⟩) (Nat.le_succ _) (.slice Bp c.pl.length capp)
    have hrm3 := ((RowG.farB (j := 0) (RowG.below HRM.out b3) HS1.out (.int .i64 c.level)).farB (j := 1) HS1.out (.slice Am c.mem.length capm)).farB (j := 2) HS1.out (.slice Bp c.pl.length capp)
    have hrp3 := ((RowG.farB (j := 0) (RowG.below HRP.out b3) HS1.out (.int .i64 c.level)).farB (j := 1) HS1.out (.slice Am c.mem.length capm)).farB (j := 2) HS1.out (.slice Bp c.pl.length capp)
    have HZ3 := Lib.hid hz3; clear hz3
    have HIM := Lib.hid (hrm3.mono (base2 := w.heap.size) (by have := HS1.out; omega)); have HIP := Lib.hid (hrp3.mono (base2 := w.heap.size) (by have := HS1.out; omega)); have HB3_ := Lib.hid hb3_
    clear hrm3 hrp3 hb3_ hz_ ha_
    go_wp2_with fail
    have e0 := Blk.cell HZ3.out 0
    have e1 := Blk.cell HZ3.out 1
    have e2 := Blk.cell HZ3.out 2
    simp only [List.getElem?_toArray, List.getElem?_cons_zero, List.getElem?_cons_succ] at e0 e1 e2
    refine bodyPost_ret (v := .tuple #[.agg #[.int .i64 c.level, .slice Am c.mem.length capm, .slice Bp c.pl.length capp], .int .i64 1]) (by simp [results, Try.results19, go_sem, e0, e1, e2]) rfl ?_
    rw [HE.out]
    exact ⟨Am, c.mem.length, capm, Bp, c.pl.length, capp, rfl, HIM.out, HIP.out, HNE.out, HB3_.out⟩
  | true =>
    have hrc : RightC c := by rw [HR.out] at hr; simpa using hr
    have HCH : Hid (∀ j, j < c.mem.length → (atM9 c.mem j).2 ≠ 2 → finalC c = (c, 22)) := fun j hj h => by
      show _ = _
      unfold finalC
      rw [if_neg (fun e => e hrc), if_pos ⟨atM9 c.mem j, List.mem_of_getElem? (atM9_get hj), h⟩]
    have HOK : Hid ((∀ j, j < c.mem.length → (atM9 c.mem j).2 = 2) → finalC c = (⟨2, c.mem, c.pl⟩, 0)) := fun h => by
      show _ = _
      unfold finalC
      rw [if_neg (fun e => e hrc), if_neg]
      rintro ⟨x, hx, hne⟩
      obtain ⟨j, hj, rfl⟩ := List.getElem_of_mem hx
      have h1 := h j hj
      have h2 := atM9_get hj
      rw [List.getElem?_eq_getElem hj] at h2
      rw [← Option.some.inj h2] at h1
      exact hne h1
    have HNM : Hid (n ≤ 8) := by show _ ≤ _; rw [HCC.out]; exact hrc.2.1.2
    clear hr hrc HNO HR
    go_wp2_with fail
    go_loopw [6] (fun i wr => ∃ k : Nat, k ≤ n ∧ i = .int .i64 k ∧ Hid (Below V3.heap.size V3 wr) ∧ Hid (∀ j, j < k → (atM9 c.mem j).2 = 2)) (fun i _ => n - (intOf i).toNat)
    case atStart => exact ⟨0, by omega, rfl, Below.refl _ _, fun j hj => by omega⟩
    case round =>
      obtain ⟨k, hk, rfl, hbw, hno⟩ := hrel
      have hbx := bch b3 hbw.out
      have z1 := Blk.cell (Blk.below HX2.out hbx) 1
      simp only [List.getElem?_toArray, List.getElem?_cons_zero, List.getElem?_cons_succ] at z1
      have HBX := Lib.hid hbx; clear hbx
      by_cases hlt : k < n
      · have HK : Hid (k < c.mem.length) := by show k < _; rw [← HCC.out]; exact hlt
        obtain ⟨b, off, hA, hb, y0, y1⟩ := is2_at (IsG.below HC2.out.1 HBX.out) (atM9_get HK.out)
        have HQ := HCH.out k HK.out
        have HS : Hid (∀ j, j < k + 1 → (atM9 c.mem k).2 = 2 → (atM9 c.mem j).2 = 2) := fun j hj he => by
          rcases Nat.lt_or_ge j k with h5 | h5
          · exact hno.out j h5
          · rw [show j = k by omega]; exact he
        have HQ' := Lib.hid HQ; clear HQ
        have hnm := HNM.out
        subst hA
        generalize atM9 c.mem k = z at *
        obtain ⟨zn, zb⟩ := z
        simp only at y0 y1
        by_cases hz : zb = 2
        · have HNX : Hid (∀ j, j < k + 1 → (atM9 c.mem j).2 = 2) := fun j hj => HS.out j hj hz
          subst hz
          clear HS HQ'
          go_wp2_with fail
          go_roundw
          case rel => exact ⟨k + 1, by omega, by go_num, hbw.out, HNX⟩
          case measure => simp [intOf]; omega
        · have HE : Hid (finalC c = (c, 22)) := HQ'.out hz
          have e1 : (zb != 2) = true := by simpa using hz
          clear HS HQ' hz
          have ha_ := (Blk.below HA.out HBX.out)
          have hz_ := (Blk.below HZ2.out HBX.out)
          have a0 := Blk.cell ha_ 0
          have a1 := Blk.cell ha_ 1
          have a2 := Blk.cell ha_ 2
          have x0 := Blk.cell hz_ 0
          have x1 := Blk.cell hz_ 1
          have x2 := Blk.cell hz_ 2
          simp only [List.getElem?_toArray, List.getElem?_cons_zero, List.getElem?_cons_succ] at a0 a1 a2 x0 x1 x2
          have f0 := Blk.frozen hz_ 0
          have f1 := Blk.frozen hz_ 1
          have f2 := Blk.frozen hz_ 2
          have hz3 := Blk.set (Blk.set (Blk.set hz_ 0 (.int .i64 c.level) #[.int .i64 c.level, .slice none 0 0, .slice none 0 0] rfl) 1 (.slice Am c.mem.length capm) #[.int .i64 c.level, .slice Am c.mem.length capm, .slice none 0 0] rfl) 2 (.slice Bp c.pl.length capp) #[.int .i64 c.level, .slice Am c.mem.length capm, .slice Bp c.pl.length capp] rfl
          have hb3_ := (((bch HB2.out HBX.out).setCell (p := ⟨w.heap.size + 1, 0, none⟩) (Nat.le_succ _) (.int .i64 c.level)).setCell (p := ⟨w.heap.size + 1, 1, none⟩) (Nat.le_succ _) (.slice Am c.mem.length capm)).setCell (p := ⟨w.heap.size + 1, 2, none⟩) (Nat.le_succ _) (.slice Bp c.pl.length capp)
          have hrm3 := ((RowG.farB (j := 0) (RowG.below HRM.out HBX.out) HS1.out (.int .i64 c.level)).farB (j := 1) HS1.out (.slice Am c.mem.length capm)).farB (j := 2) HS1.out (.slice Bp c.pl.length capp)
          have hrp3 := ((RowG.farB (j := 0) (RowG.below HRP.out HBX.out) HS1.out (.int .i64 c.level)).farB (j := 1) HS1.out (.slice Am c.mem.length capm)).farB (j := 2) HS1.out (.slice Bp c.pl.length capp)
          have HZ3 := Lib.hid hz3; clear hz3
          have HIM := Lib.hid (hrm3.mono (base2 := w.heap.size) (by have := HS1.out; omega)); have HIP := Lib.hid (hrp3.mono (base2 := w.heap.size) (by have := HS1.out; omega)); have HB3_ := Lib.hid hb3_
          clear hrm3 hrp3 hb3_ hz_ ha_
          go_wp2_with fail
          have e0 := Blk.cell HZ3.out 0
          have e1 := Blk.cell HZ3.out 1
          have e2 := Blk.cell HZ3.out 2
          simp only [List.getElem?_toArray, List.getElem?_cons_zero, List.getElem?_cons_succ] at e0 e1 e2
          refine bodyPost_ret (v := .tuple #[.agg #[.int .i64 c.level, .slice Am c.mem.length capm, .slice Bp c.pl.length capp], .int .i64 22]) (by simp [results, Try.results19, go_sem, e0, e1, e2]) rfl ?_
          rw [HE.out]
          exact ⟨Am, c.mem.length, capm, Bp, c.pl.length, capp, rfl, HIM.out, HIP.out, HNE.out, HB3_.out⟩
      · have hke : k = n := by omega
        subst hke
        have HE : Hid (finalC c = (⟨2, c.mem, c.pl⟩, 0)) := HOK.out (fun j hj => hno.out j (by rw [HCC.out]; exact hj))
        have haw := Blk.below HA.out HBX.out
        have g0 := Blk.cell haw 0
        simp only [List.getElem?_toArray, List.getElem?_cons_zero, List.getElem?_cons_succ] at g0
        have gf := Blk.frozen haw 0
        go_upto_region 11 with fail
        have ha9 := Blk.set haw 0 (.int .i64 2) #[.int .i64 2, .slice Am c.mem.length capm, .slice Bp c.pl.length capp] rfl
        have hz9 := Blk.far (Blk.below HZ2.out HBX.out) (show w.heap.size + 1 ≠ ga by have := HS1.out; have := HGA.out; omega) 0 (.int .i64 2)
        have hrm9 := RowG.far (RowG.below HRM.out HBX.out) (g := ga) (j := 0) (fun e => by have := HL1.out _ e; omega) (.int .i64 2)
        have hrp9 := RowG.far (RowG.below HRP.out HBX.out) (g := ga) (j := 0) (fun e => by have := HL2.out _ e; omega) (.int .i64 2)
        have hb9 := (bch HB2.out HBX.out).setCell (p := ⟨ga, 0, none⟩) (show w.heap.size ≤ ga by have := HS1.out; have := HGA.out; omega) (.int .i64 2)
        clear z1 g0 gf haw
        have ha_ := ha9
        have hz_ := hz9
        have a0 := Blk.cell ha_ 0
        have a1 := Blk.cell ha_ 1
        have a2 := Blk.cell ha_ 2
        have x0 := Blk.cell hz_ 0
        have x1 := Blk.cell hz_ 1
        have x2 := Blk.cell hz_ 2
        simp only [List.getElem?_toArray, List.getElem?_cons_zero, List.getElem?_cons_succ] at a0 a1 a2 x0 x1 x2
        have f0 := Blk.frozen hz_ 0
        have f1 := Blk.frozen hz_ 1
        have f2 := Blk.frozen hz_ 2
        have hz3 := Blk.set (Blk.set (Blk.set hz_ 0 (.int .i64 2) #[.int .i64 2, .slice none 0 0, .slice none 0 0] rfl) 1 (.slice Am c.mem.length capm) #[.int .i64 2, .slice Am c.mem.length capm, .slice none 0 0] rfl) 2 (.slice Bp c.pl.length capp) #[.int .i64 2, .slice Am c.mem.length capm, .slice Bp c.pl.length capp] rfl
        have hb3_ := ((hb9.setCell (p := ⟨w.heap.size + 1, 0, none⟩) (Nat.le_succ _) (.int .i64 2)).setCell (p := ⟨w.heap.size + 1, 1, none⟩) (Nat.le_succ _) (.slice Am c.mem.length capm)).setCell (p := ⟨w.heap.size + 1, 2, none⟩) (Nat.le_succ _) (.slice Bp c.pl.length capp)
        have hrm3 := ((RowG.farB (j := 0) hrm9 HS1.out (.int .i64 2)).farB (j := 1) HS1.out (.slice Am c.mem.length capm)).farB (j := 2) HS1.out (.slice Bp c.pl.length capp)
        have hrp3 := ((RowG.farB (j := 0) hrp9 HS1.out (.int .i64 2)).farB (j := 1) HS1.out (.slice Am c.mem.length capm)).farB (j := 2) HS1.out (.slice Bp c.pl.length capp)
        have HZ3 := Lib.hid hz3; clear hz3
        have HIM := Lib.hid (hrm3.mono (base2 := w.heap.size) (by have := HS1.out; omega)); have HIP := Lib.hid (hrp3.mono (base2 := w.heap.size) (by have := HS1.out; omega)); have HB3_ := Lib.hid hb3_
        clear hrm3 hrp3 hb3_ hz_ ha_
        go_wp2_with fail
        have e0 := Blk.cell HZ3.out 0
        have e1 := Blk.cell HZ3.out 1
        have e2 := Blk.cell HZ3.out 2
        simp only [List.getElem?_toArray, List.getElem?_cons_zero, List.getElem?_cons_succ] at e0 e1 e2
        refine bodyPost_ret (v := .tuple #[.agg #[.int .i64 2, .slice Am c.mem.length capm, .slice Bp c.pl.length capp], .int .i64 0]) (by simp [results, Try.results19, go_sem, e0, e1, e2]) rfl ?_
        rw [HE.out]
        exact ⟨Am, c.mem.length, capm, Bp, c.pl.length, capp, rfl, HIM.out, HIP.out, HNE.out, HB3_.out⟩
end Go.Proofs.Ytndkmepdnekigaa
