import Derived.Test.YtndkmepdnekigaaCtCancel
/-
  The contract of the document's own Plan of controllers (stage 18).
-/
namespace Go.Proofs.Ytndkmepdnekigaa
open Go.RowKit
set_option linter.unusedVariables false
set_option linter.unusedSimpArgs false

set_option maxRecDepth 100000 in
set_option maxHeartbeats 8000000 in
theorem refplan9_any (c : CtR) (A B : Option Addr) (n cap m cm : Nat) (s t : Int) (w : World) (hc : IsCt w c A n B m) (hn16 : n * 16 ≤ 140737488351232) (hm24 : m * 24 ≤ 140737488351232) :
    Calls Try.prog 27 #[ctV c A n cap B m cm, .int .i64 s, .int .i64 t] w (CtOwnP w (planC c s t)) := by
  have HX0 := Blk.below (Blk.new w (ctB c A n cap B m cm)) (ba9 (w.alloc (ctB c A n cap B m cm)) (.cells #[.int .i64 0, .slice none 0 0, .slice none 0 0] 26))
  have HZ0 := Blk.new (w.alloc (ctB c A n cap B m cm)) (.cells #[.int .i64 0, .slice none 0 0, .slice none 0 0] 26)
  rw [World.size_alloc] at HZ0
  have HB0 := (ba9 w (ctB c A n cap B m cm)).alloc (ba9 w (ctB c A n cap B m cm)).size (.cells #[.int .i64 0, .slice none 0 0, .slice none 0 0] 26)
  have HC0 := hc.below HB0
  obtain ⟨W1, hW⟩ : ∃ W, (w.alloc (ctB c A n cap B m cm)).alloc (.cells #[.int .i64 0, .slice none 0 0, .slice none 0 0] 26) = W := ⟨_, rfl⟩
  rw [hW] at HX0 HZ0 HB0 HC0
  have z0 := Blk.cell HX0 0
  have z1 := Blk.cell HX0 1
  have z2 := Blk.cell HX0 2
  simp only [List.getElem?_toArray, List.getElem?_cons_zero, List.getElem?_cons_succ] at z0 z1 z2
  have q := refown9_any c A B n cap m cm W1 HC0 hn16 hm24
  have HCC := Lib.hid hc.1.1
  have HCP := Lib.hid hc.2.1
  clear hc
  go_enter Try.func27, Try.ntmps27
  go_upto_region 1 with fail
  try rw [hW]
  clear hW
  go_wp2_with fail
  ((with_reducible refine q.mono ?_); rintro e V ⟨Am, nm, capm, Bp, np, capp, rfl, hrm, hrp, hne, b1⟩)
  clear q z0 z1 z2
  obtain ⟨_, _, hvm, hcm, _⟩ := hrm.parts
  obtain ⟨_, rfl, rfl⟩ := slice_eqG hvm
  obtain ⟨_, _, hvp, hcp, _⟩ := hrp.parts
  obtain ⟨_, rfl, rfl⟩ := slice_eqG hvp
  go_upto_region 2 with fail
  have hs1 : w.heap.size + 1 < W1.heap.size := Blk.lt HZ0
  have hx2 := Blk.below (Blk.below HX0 b1) (ba9 V (ctB c Am c.mem.length capm Bp c.pl.length capp))
  have hz2 := Blk.below (Blk.below HZ0 b1) (ba9 V (ctB c Am c.mem.length capm Bp c.pl.length capp))
  have ha2 := Blk.new V (ctB c Am c.mem.length capm Bp c.pl.length capp)
  have hb2 := (bch HB0 b1).alloc (bch HB0 b1).size (ctB c Am c.mem.length capm Bp c.pl.length capp)
  have hc2 := (HC0.below b1).below (ba9 V (ctB c Am c.mem.length capm Bp c.pl.length capp))
  have hrm2 := hrm.below (ba9 V (ctB c Am c.mem.length capm Bp c.pl.length capp))
  have hrp2 := hrp.below (ba9 V (ctB c Am c.mem.length capm Bp c.pl.length capp))
  have hga : W1.heap.size ≤ V.heap.size := b1.size
  have hl1 : ∀ g, (Value.slice Am c.mem.length capm).ownBlock = some g → g < V.heap.size := fun g h => (hrm.lt g h).2
  have hl2 : ∀ g, (Value.slice Bp c.pl.length capp).ownBlock = some g → g < V.heap.size := fun g h => (hrp.lt g h).2
  obtain ⟨W2, hW2⟩ : ∃ W, V.alloc (ctB c Am c.mem.length capm Bp c.pl.length capp) = W := ⟨_, rfl⟩
  rw [hW2] at hx2 hz2 ha2 hb2 hc2 hrm2 hrp2
  rw [hW2]
  clear hW2 hrm hrp b1 HX0 HZ0 HB0 HC0
  generalize V.heap.size = ga at *
  generalize W1.heap.size = bs1 at *
  have HS1 := Lib.hid hs1; clear hs1
  have HX2 := Lib.hid hx2; clear hx2
  have HZ2 := Lib.hid hz2; clear hz2
  have HA := Lib.hid ha2; clear ha2
  have HB2 := Lib.hid hb2; clear hb2
  have HC2 := Lib.hid hc2; clear hc2
  have HRM := Lib.hid hrm2; clear hrm2
  have HRP := Lib.hid hrp2; clear hrp2
  have HL1 := Lib.hid hl1; clear hl1
  have HL2 := Lib.hid hl2; clear hl2
  have HGA := Lib.hid hga; clear hga
  have HNE := Lib.hid hne; clear hne
  have HPE : Hid (placeE c s ≠ 0 → planC c s t = (c, placeE c s)) := fun h => if_pos h
  have HPO : Hid (placeE c s = 0 → RightC c ∧ 0 ≤ s ∧ s.toNat < c.pl.length) := place_ok
  have HPL0 : Hid (placeE c s = 0 → planC c s t = if memI c.mem t < 0 then (c, 70) else if (atP9 c.pl s.toNat).2.2 ≠ 0 then (c, 92) else if (atP9 c.pl s.toNat).1 = t then (c, 1) else if (atP9 c.pl s.toNat).2.1 = 9007199254740992 then (c, 50)
      else (setPl c s ((atP9 c.pl s.toNat).1, (atP9 c.pl s.toNat).2.1, t), 0)) := fun h => by
    show _ = _; unfold planC; rw [if_neg (fun e => e h)]; simp only [memI_no]
  have z0 := Blk.cell HX2.out 0
  have z1 := Blk.cell HX2.out 1
  have z2 := Blk.cell HX2.out 2
  simp only [List.getElem?_toArray, List.getElem?_cons_zero, List.getElem?_cons_succ] at z0 z1 z2
  have q := refplace9_any c A B n cap m cm s W2 HC2.out
  generalize placeE c s = pe at *
  go_wp2_with fail
  ((with_reducible refine q.mono ?_); rintro e V3 ⟨rfl, b3⟩)
  clear q z0 z1 z2
  by_cases hpe : pe = 0
  · subst hpe
    obtain ⟨hrc, hs0, hsl⟩ := HPO.out rfl
    obtain ⟨k, rfl⟩ : ∃ k : Nat, s = k := ⟨s.toNat, by omega⟩
    have HK : Hid (k < c.pl.length) := hsl
    have HPL : Hid (planC c (k : Int) t = if memI c.mem t < 0 then (c, 70) else if (atP9 c.pl k).2.2 ≠ 0 then (c, 92) else if (atP9 c.pl k).1 = t then (c, 1) else if (atP9 c.pl k).2.1 = 9007199254740992 then (c, 50) else (setPl c (k : Int) ((atP9 c.pl k).1, (atP9 c.pl k).2.1, t), 0)) := HPL0.out rfl
    have HMM : Hid (0 < c.mem.length) := hrc.2.1.1
    have HM8 : Hid (m ≤ 8) := by show _ ≤ _; rw [HCP.out]; exact hrc.2.2.1.2
    clear HPE HPO HPL0 hs0 hsl hrc
    have hz := Blk.below HX2.out b3
    have z0 := Blk.cell hz 0
    have z1 := Blk.cell hz 1
    have z2 := Blk.cell hz 2
    simp only [List.getElem?_toArray, List.getElem?_cons_zero, List.getElem?_cons_succ] at z0 z1 z2
    have q := refmember_any c A B n cap m cm t V3 (HC2.out.below b3).1
    generalize memI c.mem t = mt at *
    go_wp2_with fail
    ((with_reducible refine q.mono ?_); rintro e V4 ⟨rfl, b4⟩)
    have HB4 := Lib.hid (bch b3 b4)
    clear q z0 z1 z2 hz
    have hz := Blk.below HX2.out HB4.out
    have z2 := Blk.cell hz 2
    simp only [List.getElem?_toArray, List.getElem?_cons_zero, List.getElem?_cons_succ] at z2
    obtain ⟨b, off, hA, hb, y0, y1, y2⟩ := is3_at (IsG.below HC2.out.2 HB4.out) (atP9_get HK.out)
    subst hA
    have hkm : k < m := by have := HK.out; have := HCP.out; omega
    have hap := atP9_get HK.out
    generalize atP9 c.pl k = z at *
    obtain ⟨ow, ep, tz⟩ := z
    simp only at y0 y1 y2 HPL
    clear hz b3 b4
    by_cases h1 : mt < 0
    · have HE : Hid (planC c (k : Int) t = (c, 70)) := by show _ = _; rw [HPL.out, if_pos h1]
      clear HPL
      have ha_ := (Blk.below HA.out HB4.out)
      have hz_ := (Blk.below HZ2.out HB4.out)
      have a0 := Blk.cell ha_ 0
      have a1 := Blk.cell ha_ 1
      have a2 := Blk.cell ha_ 2
      have x0 := Blk.cell hz_ 0
      have x1 := Blk.cell hz_ 1
      have x2 := Blk.cell hz_ 2
      simp only [List.getElem?_toArray, List.getElem?_cons_zero, List.getElem?_cons_succ] at a0 a1 a2 x0 x1 x2
      have f0 := Blk.frozen hz_ 0
      have f1 := Blk.frozen hz_ 1
      have f2 := Blk.frozen hz_ 2
      have hz3 := Blk.set (Blk.set (Blk.set hz_ 0 (.int .i64 c.level) #[.int .i64 c.level, .slice none 0 0, .slice none 0 0] rfl) 1 (.slice Am c.mem.length capm) #[.int .i64 c.level, .slice Am c.mem.length capm, .slice none 0 0] rfl) 2 (.slice Bp c.pl.length capp) #[.int .i64 c.level, .slice Am c.mem.length capm, .slice Bp c.pl.length capp] rfl
      have hb3_ := (((bch HB2.out HB4.out).setCell (p := ⟨w.heap.size + 1, 0, none⟩) (Nat.le_succ _) (.int .i64 c.level)).setCell (p := ⟨w.heap.size + 1, 1, none⟩) (Nat.le_succ _) (.slice Am c.mem.length capm)).setCell (p := ⟨w.heap.size + 1, 2, none⟩) (Nat.le_succ _) (.slice Bp c.pl.length capp)
      have hrm3 := ((RowG.farB (j := 0) (RowG.below HRM.out HB4.out) HS1.out (.int .i64 c.level)).farB (j := 1) HS1.out (.slice Am c.mem.length capm)).farB (j := 2) HS1.out (.slice Bp c.pl.length capp)
      have hrp3 := ((RowG.farB (j := 0) (RowG.below HRP.out HB4.out) HS1.out (.int .i64 c.level)).farB (j := 1) HS1.out (.slice Am c.mem.length capm)).farB (j := 2) HS1.out (.slice Bp c.pl.length capp)
      have HZ3 := Lib.hid hz3; clear hz3
      have HIM := Lib.hid (hrm3.mono (base2 := w.heap.size) (by have := HS1.out; omega)); have HIP := Lib.hid (hrp3.mono (base2 := w.heap.size) (by have := HS1.out; omega)); have HB3_ := Lib.hid hb3_
      clear hrm3 hrp3 hb3_ hz_ ha_
      go_wp2_with fail
      have e0 := Blk.cell HZ3.out 0
      have e1 := Blk.cell HZ3.out 1
      have e2 := Blk.cell HZ3.out 2
      simp only [List.getElem?_toArray, List.getElem?_cons_zero, List.getElem?_cons_succ] at e0 e1 e2
      refine bodyPost_ret (v := .tuple #[.agg #[.int .i64 c.level, .slice Am c.mem.length capm, .slice Bp c.pl.length capp], .int .i64 70]) (by simp [results, Try.results27, go_sem, e0, e1, e2]) rfl ?_
      rw [HE.out]
      exact ⟨Am, c.mem.length, capm, Bp, c.pl.length, capp, rfl, HIM.out, HIP.out, HNE.out, HB3_.out⟩
    by_cases h2 : tz ≠ 0
    · have HE : Hid (planC c (k : Int) t = (c, 92)) := by show _ = _; rw [HPL.out, if_neg h1, if_pos h2]
      have e2 : (tz != 0) = true := by simpa using h2
      clear HPL h2
      have ha_ := (Blk.below HA.out HB4.out)
      have hz_ := (Blk.below HZ2.out HB4.out)
      have a0 := Blk.cell ha_ 0
      have a1 := Blk.cell ha_ 1
      have a2 := Blk.cell ha_ 2
      have x0 := Blk.cell hz_ 0
      have x1 := Blk.cell hz_ 1
      have x2 := Blk.cell hz_ 2
      simp only [List.getElem?_toArray, List.getElem?_cons_zero, List.getElem?_cons_succ] at a0 a1 a2 x0 x1 x2
      have f0 := Blk.frozen hz_ 0
      have f1 := Blk.frozen hz_ 1
      have f2 := Blk.frozen hz_ 2
      have hz3 := Blk.set (Blk.set (Blk.set hz_ 0 (.int .i64 c.level) #[.int .i64 c.level, .slice none 0 0, .slice none 0 0] rfl) 1 (.slice Am c.mem.length capm) #[.int .i64 c.level, .slice Am c.mem.length capm, .slice none 0 0] rfl) 2 (.slice Bp c.pl.length capp) #[.int .i64 c.level, .slice Am c.mem.length capm, .slice Bp c.pl.length capp] rfl
      have hb3_ := (((bch HB2.out HB4.out).setCell (p := ⟨w.heap.size + 1, 0, none⟩) (Nat.le_succ _) (.int .i64 c.level)).setCell (p := ⟨w.heap.size + 1, 1, none⟩) (Nat.le_succ _) (.slice Am c.mem.length capm)).setCell (p := ⟨w.heap.size + 1, 2, none⟩) (Nat.le_succ _) (.slice Bp c.pl.length capp)
      have hrm3 := ((RowG.farB (j := 0) (RowG.below HRM.out HB4.out) HS1.out (.int .i64 c.level)).farB (j := 1) HS1.out (.slice Am c.mem.length capm)).farB (j := 2) HS1.out (.slice Bp c.pl.length capp)
      have hrp3 := ((RowG.farB (j := 0) (RowG.below HRP.out HB4.out) HS1.out (.int .i64 c.level)).farB (j := 1) HS1.out (.slice Am c.mem.length capm)).farB (j := 2) HS1.out (.slice Bp c.pl.length capp)
      have HZ3 := Lib.hid hz3; clear hz3
      have HIM := Lib.hid (hrm3.mono (base2 := w.heap.size) (by have := HS1.out; omega)); have HIP := Lib.hid (hrp3.mono (base2 := w.heap.size) (by have := HS1.out; omega)); have HB3_ := Lib.hid hb3_
      clear hrm3 hrp3 hb3_ hz_ ha_
      go_wp2_with fail
      have e0 := Blk.cell HZ3.out 0
      have e1 := Blk.cell HZ3.out 1
      have e2 := Blk.cell HZ3.out 2
      simp only [List.getElem?_toArray, List.getElem?_cons_zero, List.getElem?_cons_succ] at e0 e1 e2
      refine bodyPost_ret (v := .tuple #[.agg #[.int .i64 c.level, .slice Am c.mem.length capm, .slice Bp c.pl.length capp], .int .i64 92]) (by simp [results, Try.results27, go_sem, e0, e1, e2]) rfl ?_
      rw [HE.out]
      exact ⟨Am, c.mem.length, capm, Bp, c.pl.length, capp, rfl, HIM.out, HIP.out, HNE.out, HB3_.out⟩
    have h2' : tz = 0 := Classical.not_not.1 h2
    clear h2
    subst h2'
    simp only [ne_eq, not_true_eq_false, if_false] at HPL
    by_cases h3 : ow = t
    · have HE : Hid (planC c (k : Int) t = (c, 1)) := by show _ = _; rw [HPL.out, if_neg h1, if_pos h3]
      subst h3
      clear HPL
      have ha_ := (Blk.below HA.out HB4.out)
      have hz_ := (Blk.below HZ2.out HB4.out)
      have a0 := Blk.cell ha_ 0
      have a1 := Blk.cell ha_ 1
      have a2 := Blk.cell ha_ 2
      have x0 := Blk.cell hz_ 0
      have x1 := Blk.cell hz_ 1
      have x2 := Blk.cell hz_ 2
      simp only [List.getElem?_toArray, List.getElem?_cons_zero, List.getElem?_cons_succ] at a0 a1 a2 x0 x1 x2
      have f0 := Blk.frozen hz_ 0
      have f1 := Blk.frozen hz_ 1
      have f2 := Blk.frozen hz_ 2
      have hz3 := Blk.set (Blk.set (Blk.set hz_ 0 (.int .i64 c.level) #[.int .i64 c.level, .slice none 0 0, .slice none 0 0] rfl) 1 (.slice Am c.mem.length capm) #[.int .i64 c.level, .slice Am c.mem.length capm, .slice none 0 0] rfl) 2 (.slice Bp c.pl.length capp) #[.int .i64 c.level, .slice Am c.mem.length capm, .slice Bp c.pl.length capp] rfl
      have hb3_ := (((bch HB2.out HB4.out).setCell (p := ⟨w.heap.size + 1, 0, none⟩) (Nat.le_succ _) (.int .i64 c.level)).setCell (p := ⟨w.heap.size + 1, 1, none⟩) (Nat.le_succ _) (.slice Am c.mem.length capm)).setCell (p := ⟨w.heap.size + 1, 2, none⟩) (Nat.le_succ _) (.slice Bp c.pl.length capp)
      have hrm3 := ((RowG.farB (j := 0) (RowG.below HRM.out HB4.out) HS1.out (.int .i64 c.level)).farB (j := 1) HS1.out (.slice Am c.mem.length capm)).farB (j := 2) HS1.out (.slice Bp c.pl.length capp)
      have hrp3 := ((RowG.farB (j := 0) (RowG.below HRP.out HB4.out) HS1.out (.int .i64 c.level)).farB (j := 1) HS1.out (.slice Am c.mem.length capm)).farB (j := 2) HS1.out (.slice Bp c.pl.length capp)
      have HZ3 := Lib.hid hz3; clear hz3
      have HIM := Lib.hid (hrm3.mono (base2 := w.heap.size) (by have := HS1.out; omega)); have HIP := Lib.hid (hrp3.mono (base2 := w.heap.size) (by have := HS1.out; omega)); have HB3_ := Lib.hid hb3_
      clear hrm3 hrp3 hb3_ hz_ ha_
      go_wp2_with fail
      have e0 := Blk.cell HZ3.out 0
      have e1 := Blk.cell HZ3.out 1
      have e2 := Blk.cell HZ3.out 2
      simp only [List.getElem?_toArray, List.getElem?_cons_zero, List.getElem?_cons_succ] at e0 e1 e2
      refine bodyPost_ret (v := .tuple #[.agg #[.int .i64 c.level, .slice Am c.mem.length capm, .slice Bp c.pl.length capp], .int .i64 1]) (by simp [results, Try.results27, go_sem, e0, e1, e2]) rfl ?_
      rw [HE.out]
      exact ⟨Am, c.mem.length, capm, Bp, c.pl.length, capp, rfl, HIM.out, HIP.out, HNE.out, HB3_.out⟩
    have e3 : (ow == t) = false := by simpa using h3
    by_cases h4 : ep = 9007199254740992
    · have HE : Hid (planC c (k : Int) t = (c, 50)) := by show _ = _; rw [HPL.out, if_neg h1, if_neg h3, if_pos h4]
      subst h4
      clear HPL h3
      have ha_ := (Blk.below HA.out HB4.out)
      have hz_ := (Blk.below HZ2.out HB4.out)
      have a0 := Blk.cell ha_ 0
      have a1 := Blk.cell ha_ 1
      have a2 := Blk.cell ha_ 2
      have x0 := Blk.cell hz_ 0
      have x1 := Blk.cell hz_ 1
      have x2 := Blk.cell hz_ 2
      simp only [List.getElem?_toArray, List.getElem?_cons_zero, List.getElem?_cons_succ] at a0 a1 a2 x0 x1 x2
      have f0 := Blk.frozen hz_ 0
      have f1 := Blk.frozen hz_ 1
      have f2 := Blk.frozen hz_ 2
      have hz3 := Blk.set (Blk.set (Blk.set hz_ 0 (.int .i64 c.level) #[.int .i64 c.level, .slice none 0 0, .slice none 0 0] rfl) 1 (.slice Am c.mem.length capm) #[.int .i64 c.level, .slice Am c.mem.length capm, .slice none 0 0] rfl) 2 (.slice Bp c.pl.length capp) #[.int .i64 c.level, .slice Am c.mem.length capm, .slice Bp c.pl.length capp] rfl
      have hb3_ := (((bch HB2.out HB4.out).setCell (p := ⟨w.heap.size + 1, 0, none⟩) (Nat.le_succ _) (.int .i64 c.level)).setCell (p := ⟨w.heap.size + 1, 1, none⟩) (Nat.le_succ _) (.slice Am c.mem.length capm)).setCell (p := ⟨w.heap.size + 1, 2, none⟩) (Nat.le_succ _) (.slice Bp c.pl.length capp)
      have hrm3 := ((RowG.farB (j := 0) (RowG.below HRM.out HB4.out) HS1.out (.int .i64 c.level)).farB (j := 1) HS1.out (.slice Am c.mem.length capm)).farB (j := 2) HS1.out (.slice Bp c.pl.length capp)
      have hrp3 := ((RowG.farB (j := 0) (RowG.below HRP.out HB4.out) HS1.out (.int .i64 c.level)).farB (j := 1) HS1.out (.slice Am c.mem.length capm)).farB (j := 2) HS1.out (.slice Bp c.pl.length capp)
      have HZ3 := Lib.hid hz3; clear hz3
      have HIM := Lib.hid (hrm3.mono (base2 := w.heap.size) (by have := HS1.out; omega)); have HIP := Lib.hid (hrp3.mono (base2 := w.heap.size) (by have := HS1.out; omega)); have HB3_ := Lib.hid hb3_
      clear hrm3 hrp3 hb3_ hz_ ha_
      go_wp2_with fail
      have e0 := Blk.cell HZ3.out 0
      have e1 := Blk.cell HZ3.out 1
      have e2 := Blk.cell HZ3.out 2
      simp only [List.getElem?_toArray, List.getElem?_cons_zero, List.getElem?_cons_succ] at e0 e1 e2
      refine bodyPost_ret (v := .tuple #[.agg #[.int .i64 c.level, .slice Am c.mem.length capm, .slice Bp c.pl.length capp], .int .i64 50]) (by simp [results, Try.results27, go_sem, e0, e1, e2]) rfl ?_
      rw [HE.out]
      exact ⟨Am, c.mem.length, capm, Bp, c.pl.length, capp, rfl, HIM.out, HIP.out, HNE.out, HB3_.out⟩
    have e4 : (ep == 9007199254740992) = false := by simpa using h4
    have HE : Hid (planC c (k : Int) t = (setPl c (k : Int) (ow, ep, t), 0)) := by show _ = _; rw [HPL.out, if_neg h1, if_neg h3, if_neg h4]
    clear HPL h3 h4
    have haw := Blk.below HA.out HB4.out
    have g2 := Blk.cell haw 2
    simp only [List.getElem?_toArray, List.getElem?_cons_zero, List.getElem?_cons_succ] at g2
    have hrp4 := RowG.below HRP.out HB4.out
    have hrm4 := RowG.below HRM.out HB4.out
    obtain ⟨gp, cp, hvp, hgp1, hgp2, hgp3⟩ := hrp4.own (by have := HK.out; omega)
    obtain ⟨hBp, _, hcpp⟩ := slice_eqG hvp
    have hother := row_other hrm4 hrp4 HMM.out hBp (HNE.out HMM.out (by have := HK.out; omega))
    subst hBp
    have hgpa := HL2.out gp rfl
    have x2 : V4.cell? ⟨gp, k * 3 + 2, none⟩ = some (.int .i64 0) := hrp4.cell (j := 2) hap rfl
    have xf : V4.frozen? ⟨gp, k * 3 + 2, none⟩ = false := hrp4.frozen _
    have hkp : k < c.pl.length := HK.out
    go_upto_region 14 with fail
    have hrp9 : RowG s3 48 (V4.setCell ⟨gp, k * 3 + 2, none⟩ (.int .i64 t)) bs1 (.slice (some ⟨gp, 0, none⟩) c.pl.length capp) (c.pl.set k (ow, ep, t)) := (RowG.set hrp4 (j := 2) (u := .int .i64 t) (y := (ow, ep, t)) hap (by decide) rfl).1
    have hrm9 := hrm4.far (g := gp) (j := k * 3 + 2) hother (.int .i64 t)
    have ha9 := Blk.far haw (show ga ≠ gp by omega) (k * 3 + 2) (.int .i64 t)
    have hz9 := Blk.far (Blk.below HZ2.out HB4.out) (show w.heap.size + 1 ≠ gp by have := HS1.out; omega) (k * 3 + 2) (.int .i64 t)
    have hb9 := (bch HB2.out HB4.out).setCell (p := ⟨gp, k * 3 + 2, none⟩) (show w.heap.size ≤ gp by have := HS1.out; omega) (.int .i64 t)
    obtain ⟨X9, hX9⟩ : ∃ X, V4.setCell ⟨gp, k * 3 + 2, none⟩ (.int .i64 t) = X := ⟨_, rfl⟩
    rw [hX9] at hrp9 hrm9 ha9 hz9 hb9
    rw [hX9]
    clear g2 x2 xf haw z2 y0 y1 y2 hX9
    have ha_ := ha9
    have hz_ := hz9
    have a0 := Blk.cell ha_ 0
    have a1 := Blk.cell ha_ 1
    have a2 := Blk.cell ha_ 2
    have x0 := Blk.cell hz_ 0
    have x1 := Blk.cell hz_ 1
    have x2 := Blk.cell hz_ 2
    simp only [List.getElem?_toArray, List.getElem?_cons_zero, List.getElem?_cons_succ] at a0 a1 a2 x0 x1 x2
    have f0 := Blk.frozen hz_ 0
    have f1 := Blk.frozen hz_ 1
    have f2 := Blk.frozen hz_ 2
    have hz3 := Blk.set (Blk.set (Blk.set hz_ 0 (.int .i64 c.level) #[.int .i64 c.level, .slice none 0 0, .slice none 0 0] rfl) 1 (.slice Am c.mem.length capm) #[.int .i64 c.level, .slice Am c.mem.length capm, .slice none 0 0] rfl) 2 (.slice (some ⟨gp, 0, none⟩) c.pl.length capp) #[.int .i64 c.level, .slice Am c.mem.length capm, .slice (some ⟨gp, 0, none⟩) c.pl.length capp] rfl
    have hb3_ := ((hb9.setCell (p := ⟨w.heap.size + 1, 0, none⟩) (Nat.le_succ _) (.int .i64 c.level)).setCell (p := ⟨w.heap.size + 1, 1, none⟩) (Nat.le_succ _) (.slice Am c.mem.length capm)).setCell (p := ⟨w.heap.size + 1, 2, none⟩) (Nat.le_succ _) (.slice (some ⟨gp, 0, none⟩) c.pl.length capp)
    have hrm3 := ((RowG.farB (j := 0) hrm9 HS1.out (.int .i64 c.level)).farB (j := 1) HS1.out (.slice Am c.mem.length capm)).farB (j := 2) HS1.out (.slice (some ⟨gp, 0, none⟩) c.pl.length capp)
    have hrp3 := ((RowG.farB (j := 0) hrp9 HS1.out (.int .i64 c.level)).farB (j := 1) HS1.out (.slice Am c.mem.length capm)).farB (j := 2) HS1.out (.slice (some ⟨gp, 0, none⟩) c.pl.length capp)
    have HZ3 := Lib.hid hz3; clear hz3
    have HIM := Lib.hid (hrm3.mono (base2 := w.heap.size) (by have := HS1.out; omega)); have HIP := Lib.hid (hrp3.mono (base2 := w.heap.size) (by have := HS1.out; omega)); have HB3_ := Lib.hid hb3_
    clear hrm3 hrp3 hb3_ hz_ ha_
    go_wp2_with fail
    have e0 := Blk.cell HZ3.out 0
    have e1 := Blk.cell HZ3.out 1
    have e2 := Blk.cell HZ3.out 2
    simp only [List.getElem?_toArray, List.getElem?_cons_zero, List.getElem?_cons_succ] at e0 e1 e2
    refine bodyPost_ret (v := .tuple #[.agg #[.int .i64 c.level, .slice Am c.mem.length capm, .slice (some ⟨gp, 0, none⟩) c.pl.length capp], .int .i64 0]) (by simp [results, Try.results27, go_sem, e0, e1, e2]) rfl ?_
    rw [HE.out]
    exact ⟨Am, c.mem.length, capm, some ⟨gp, 0, none⟩, c.pl.length, capp, rfl, HIM.out, HIP.out, HNE.out, HB3_.out⟩
  · have HE : Hid (planC c s t = (c, pe)) := HPE.out hpe
    have e1 : (pe != 0) = true := by simpa using hpe
    clear HPE HPO HPL0 hpe
    have ha_ := (Blk.below HA.out b3)
    have hz_ := (Blk.below HZ2.out b3)
    have a0 := Blk.cell ha_ 0
    have a1 := Blk.cell ha_ 1
    have a2 := Blk.cell ha_ 2
    have x0 := Blk.cell hz_ 0
    have x1 := Blk.cell hz_ 1
    have x2 := Blk.cell hz_ 2
    simp only [List.getElem?_toArray, List.getElem?_cons_zero, List.getElem?_cons_succ] at a0 a1 a2 x0 x1 x2
    have f0 := Blk.frozen hz_ 0
    have f1 := Blk.frozen hz_ 1
    have f2 := Blk.frozen hz_ 2
    have hz3 := Blk.set (Blk.set (Blk.set hz_ 0 (.int .i64 c.level) #[.int .i64 c.level, .slice none 0 0, .slice none 0 0] rfl) 1 (.slice Am c.mem.length capm) #[.int .i64 c.level, .slice Am c.mem.length capm, .slice none 0 0] rfl) 2 (.slice Bp c.pl.length capp) #[.int .i64 c.level, .slice Am c.mem.length capm, .slice Bp c.pl.length capp] rfl
    have hb3_ := (((bch HB2.out b3).setCell (p := ⟨w.heap.size + 1, 0, none⟩) (Nat.le_succ _) (.int .i64 c.level)).setCell (p := ⟨w.heap.size + 1, 1, none⟩) (Nat.le_succ _) (.slice Am c.mem.length capm)).setCell (p := ⟨w.heap.size + 1, 2, none⟩) (Nat.le_succ _) (.slice Bp c.pl.length capp)
    have hrm3 := ((RowG.farB (j := 0) (RowG.below HRM.out b3) HS1.out (.int .i64 c.level)).farB (j := 1) HS1.out (.slice Am c.mem.length capm)).farB (j := 2) HS1.out (.slice Bp c.pl.length capp)
    have hrp3 := ((RowG.farB (j := 0) (RowG.below HRP.out b3) HS1.out (.int .i64 c.level)).farB (j := 1) HS1.out (.slice Am c.mem.length capm)).farB (j := 2) HS1.out (.slice Bp c.pl.length capp)
    have HZ3 := Lib.hid hz3; clear hz3
    have HIM := Lib.hid (hrm3.mono (base2 := w.heap.size) (by have := HS1.out; omega)); have HIP := Lib.hid (hrp3.mono (base2 := w.heap.size) (by have := HS1.out; omega)); have HB3_ := Lib.hid hb3_
    clear hrm3 hrp3 hb3_ hz_ ha_
    go_wp2_with fail
    have e0 := Blk.cell HZ3.out 0
    have e1 := Blk.cell HZ3.out 1
    have e2 := Blk.cell HZ3.out 2
    simp only [List.getElem?_toArray, List.getElem?_cons_zero, List.getElem?_cons_succ] at e0 e1 e2
    refine bodyPost_ret (v := .tuple #[.agg #[.int .i64 c.level, .slice Am c.mem.length capm, .slice Bp c.pl.length capp], .int .i64 pe]) (by simp [results, Try.results27, go_sem, e0, e1, e2]) rfl ?_
    rw [HE.out]
    exact ⟨Am, c.mem.length, capm, Bp, c.pl.length, capp, rfl, HIM.out, HIP.out, HNE.out, HB3_.out⟩
end Go.Proofs.Ytndkmepdnekigaa
