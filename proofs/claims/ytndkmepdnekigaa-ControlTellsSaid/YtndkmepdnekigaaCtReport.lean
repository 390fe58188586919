import Derived.Test.YtndkmepdnekigaaCtCancel
/-
  The contract of the document's own Report of controllers (stage 18).
-/
namespace Go.Proofs.Ytndkmepdnekigaa
open Go.RowKit
set_option linter.unusedVariables false
set_option linter.unusedSimpArgs false

theorem row_otherM {w : World} {b1 b2 n cap m cm g : Nat} {A B : Option Addr} {l : List MbR} {k : List PlR} (h : RowG s2 45 w b1 (.slice A n cap) l) (h2 : RowG s3 48 w b2 (.slice B m cm) k) (hl : 0 < k.length) (hA : A = some ⟨g, 0, none⟩) (hne : A ≠ B) : (Value.slice B m cm).ownBlock ≠ some g := by
  obtain ⟨g2, c2, hv, _⟩ := h2.own hl
  obtain ⟨rfl, _, _⟩ := slice_eqG hv
  intro e
  have h9 : g2 = g := Option.some.inj e
  exact hne (by rw [hA, h9])
set_option maxRecDepth 100000 in
set_option maxHeartbeats 8000000 in
theorem refreport9_any (c : CtR) (A B : Option Addr) (n cap m cm : Nat) (x b : Int) (w : World) (hc : IsCt w c A n B m) (hn16 : n * 16 ≤ 140737488351232) (hm24 : m * 24 ≤ 140737488351232) :
    Calls Try.prog 25 #[ctV c A n cap B m cm, .int .i64 x, .int .i64 b] w (CtOwnP w (reportC c x b)) := by
  have HX0 := Blk.below (Blk.new w (ctB c A n cap B m cm)) (ba9 (w.alloc (ctB c A n cap B m cm)) (.cells #[.int .i64 0, .slice none 0 0, .slice none 0 0] 26))
  have HZ0 := Blk.new (w.alloc (ctB c A n cap B m cm)) (.cells #[.int .i64 0, .slice none 0 0, .slice none 0 0] 26)
  rw [World.size_alloc] at HZ0
  have HB0 := (ba9 w (ctB c A n cap B m cm)).alloc (ba9 w (ctB c A n cap B m cm)).size (.cells #[.int .i64 0, .slice none 0 0, .slice none 0 0] 26)
  have HC0 := hc.below HB0
  obtain ⟨W1, hW⟩ : ∃ W, (w.alloc (ctB c A n cap B m cm)).alloc (.cells #[.int .i64 0, .slice none 0 0, .slice none 0 0] 26) = W := ⟨_, rfl⟩
  rw [hW] at HX0 HZ0 HB0 HC0
  have z0 := Blk.cell HX0 0
  have z1 := Blk.cell HX0 1
  have z2 := Blk.cell HX0 2
  simp only [List.getElem?_toArray, List.getElem?_cons_zero, List.getElem?_cons_succ] at z0 z1 z2
  have q := refown9_any c A B n cap m cm W1 HC0 hn16 hm24
  have HCC := Lib.hid hc.1.1
  have HCP := Lib.hid hc.2.1
  clear hc
  go_enter Try.func25, Try.ntmps25
  go_upto_region 1 with fail
  try rw [hW]
  clear hW
  go_wp2_with fail
  ((with_reducible refine q.mono ?_); rintro e V ⟨Am, nm, capm, Bp, np, capp, rfl, hrm, hrp, hne, b1⟩)
  clear q z0 z1 z2
  obtain ⟨_, _, hvm, hcm, _⟩ := hrm.parts
  obtain ⟨_, rfl, rfl⟩ := slice_eqG hvm
  obtain ⟨_, _, hvp, hcp, _⟩ := hrp.parts
  obtain ⟨_, rfl, rfl⟩ := slice_eqG hvp
  go_upto_region 2 with fail
  have hs1 : w.heap.size + 1 < W1.heap.size := Blk.lt HZ0
  have hx2 := Blk.below (Blk.below HX0 b1) (ba9 V (ctB c Am c.mem.length capm Bp c.pl.length capp))
  have hz2 := Blk.below (Blk.below HZ0 b1) (ba9 V (ctB c Am c.mem.length capm Bp c.pl.length capp))
  have ha2 := Blk.new V (ctB c Am c.mem.length capm Bp c.pl.length capp)
  have hb2 := (bch HB0 b1).alloc (bch HB0 b1).size (ctB c Am c.mem.length capm Bp c.pl.length capp)
  have hc2 := (HC0.below b1).below (ba9 V (ctB c Am c.mem.length capm Bp c.pl.length capp))
  have hrm2 := hrm.below (ba9 V (ctB c Am c.mem.length capm Bp c.pl.length capp))
  have hrp2 := hrp.below (ba9 V (ctB c Am c.mem.length capm Bp c.pl.length capp))
  have hga : W1.heap.size ≤ V.heap.size := b1.size
  have hl1 : ∀ g, (Value.slice Am c.mem.length capm).ownBlock = some g → g < V.heap.size := fun g h => (hrm.lt g h).2
  have hl2 : ∀ g, (Value.slice Bp c.pl.length capp).ownBlock = some g → g < V.heap.size := fun g h => (hrp.lt g h).2
  obtain ⟨W2, hW2⟩ : ∃ W, V.alloc (ctB c Am c.mem.length capm Bp c.pl.length capp) = W := ⟨_, rfl⟩
  rw [hW2] at hx2 hz2 ha2 hb2 hc2 hrm2 hrp2
  rw [hW2]
  clear hW2 hrm hrp b1 HX0 HZ0 HB0 HC0
  generalize V.heap.size = ga at *
  generalize W1.heap.size = bs1 at *
  have HS1 := Lib.hid hs1; clear hs1
  have HX2 := Lib.hid hx2; clear hx2
  have HZ2 := Lib.hid hz2; clear hz2
  have HA := Lib.hid ha2; clear ha2
  have HB2 := Lib.hid hb2; clear hb2
  have HC2 := Lib.hid hc2; clear hc2
  have HRM := Lib.hid hrm2; clear hrm2
  have HRP := Lib.hid hrp2; clear hrp2
  have HL1 := Lib.hid hl1; clear hl1
  have HL2 := Lib.hid hl2; clear hl2
  have HGA := Lib.hid hga; clear hga
  have HNE := Lib.hid hne; clear hne
  have HRP0 : Hid (reportC c x b = if ¬ RightC c ∨ (b ≠ 1 ∧ b ≠ 2) then (c, 1) else if memI c.mem x < 0 then (c, 70) else if binB c.level b = false then (c, 22) else (⟨c.level, c.mem.set (memI c.mem x).toNat (x, b), c.pl⟩, 0)) := by
    show _ = _; unfold reportC; simp only [memI_no]
  have HR : Hid (rightC c = decide (RightC c)) := rfl
  have HMI : Hid (¬ memI c.mem x < 0 → ∃ k : Nat, memI c.mem x = k ∧ k < c.mem.length ∧ (atM9 c.mem k).1 = x) := fun h => by
    obtain ⟨k, h1, h2, h3, _⟩ := memI_yes (Classical.byContradiction fun e => h (memI_no.2 e))
    exact ⟨k, h1, h2, h3⟩
  have z0 := Blk.cell HX2.out 0
  have z1 := Blk.cell HX2.out 1
  have z2 := Blk.cell HX2.out 2
  simp only [List.getElem?_toArray, List.getElem?_cons_zero, List.getElem?_cons_succ] at z0 z1 z2
  have q := refright9_any c A B n cap m cm W2 HC2.out
  go_wp2_with fail
  ((with_reducible refine q.mono ?_); rintro e V3 ⟨rfl, b3⟩)
  clear q z0 z1 z2
  have hz := Blk.below HX2.out b3
  have z0 := Blk.cell hz 0
  have z1 := Blk.cell hz 1
  have z2 := Blk.cell hz 2
  simp only [List.getElem?_toArray, List.getElem?_cons_zero, List.getElem?_cons_succ] at z0 z1 z2
  have q := refmember_any c A B n cap m cm x V3 (HC2.out.below b3).1
  generalize memI c.mem x = mt at *
  go_wp2_with fail
  ((with_reducible refine q.mono ?_); rintro e V4 ⟨rfl, b4⟩)
  have HB4 := Lib.hid (bch b3 b4)
  clear q z0 z1 z2 hz b3 b4
  cases hr : rightC c with
  | false =>
    have HE : Hid (reportC c x b = (c, 1)) := by show _ = _; rw [HRP0.out, if_pos (.inl (by rw [HR.out] at hr; simpa using hr))]
    clear HRP0 HMI
    have ha_ := (Blk.below HA.out HB4.out)
    have hz_ := (Blk.below HZ2.out HB4.out)
    have a0 := Blk.cell ha_ 0
    have a1 := Blk.cell ha_ 1
    have a2 := Blk.cell ha_ 2
    have x0 := Blk.cell hz_ 0
    have x1 := Blk.cell hz_ 1
    have x2 := Blk.cell hz_ 2
    simp only [List.getElem?_toArray, List.getElem?_cons_zero, List.getElem?_cons_succ] at a0 a1 a2 x0 x1 x2
    have f0 := Blk.frozen hz_ 0
    have f1 := Blk.frozen hz_ 1
    have f2 := Blk.frozen hz_ 2
    have hz3 := Blk.set (Blk.set (Blk.set hz_ 0 (.int .i64 c.level) #[.int .i64 c.level, .slice none 0 0, .slice none 0 0] rfl) 1 (.slice Am c.mem.length capm) #[.int .i64 c.level, .slice Am c.mem.length capm, .slice none 0 0] rfl) 2 (.slice Bp c.pl.length capp) #[.int .i64 c.level, .slice Am c.mem.length capm, .slice Bp c.pl.length capp] rfl
    have hb3_ := (((bch HB2.out HB4.out).setCell (p := ⟨w.heap.size + 1, 0, none⟩) (Nat.le_succ _) (.int .i64 c.level)).setCell (p := ⟨w.heap.size + 1, 1, none⟩) (Nat.le_succ _) (.slice Am c.mem.length capm)).setCell (p := ⟨w.heap.size + 1, 2, none⟩) (Nat.le_succ _) (.slice Bp c.pl.length capp)
    have hrm3 := ((RowG.farB (j := 0) (RowG.below HRM.out HB4.out) HS1.out (.int .i64 c.level)).farB (j := 1) HS1.out (.slice Am c.mem.length capm)).farB (j := 2) HS1.out (.slice Bp c.pl.length capp)
    have hrp3 := ((RowG.farB (j := 0) (RowG.below HRP.out HB4.out) HS1.out (.int .i64 c.level)).farB (j := 1) HS1.out (.slice Am c.mem.length capm)).farB (j := 2) HS1.out (.slice Bp c.pl.length capp)
    have HZ3 := Lib.hid hz3; clear hz3
    have HIM := Lib.hid (hrm3.mono (base2 := w.heap.size) (by have := HS1.out; omega)); have HIP := Lib.hid (hrp3.mono (base2 := w.heap.size) (by have := HS1.out; omega)); have HB3_ := Lib.hid hb3_
    clear hrm3 hrp3 hb3_ hz_ ha_
    go_wp2_with fail
    have e0 := Blk.cell HZ3.out 0
    have e1 := Blk.cell HZ3.out 1
    have e2 := Blk.cell HZ3.out 2
    simp only [List.getElem?_toArray, List.getElem?_cons_zero, List.getElem?_cons_succ] at e0 e1 e2
    refine bodyPost_ret (v := .tuple #[.agg #[.int .i64 c.level, .slice Am c.mem.length capm, .slice Bp c.pl.length capp], .int .i64 1]) (by simp [results, Try.results25, go_sem, e0, e1, e2]) rfl ?_
    rw [HE.out]
    exact ⟨Am, c.mem.length, capm, Bp, c.pl.length, capp, rfl, HIM.out, HIP.out, HNE.out, HB3_.out⟩
  | true =>
    have hrc : RightC c := by rw [HR.out] at hr; simpa using hr
    clear hr HR
    by_cases h1 : b ≠ 1 ∧ b ≠ 2
    · have HE : Hid (reportC c x b = (c, 1)) := by show _ = _; rw [HRP0.out, if_pos (.inr h1)]
      have e1 : (b != 1) = true := by simpa using h1.1
      have e2 : (b != 2) = true := by simpa using h1.2
      clear HRP0 HMI h1
      have ha_ := (Blk.below HA.out HB4.out)
      have hz_ := (Blk.below HZ2.out HB4.out)
      have a0 := Blk.cell ha_ 0
      have a1 := Blk.cell ha_ 1
      have a2 := Blk.cell ha_ 2
      have x0 := Blk.cell hz_ 0
      have x1 := Blk.cell hz_ 1
      have x2 := Blk.cell hz_ 2
      simp only [List.getElem?_toArray, List.getElem?_cons_zero, List.getElem?_cons_succ] at a0 a1 a2 x0 x1 x2
      have f0 := Blk.frozen hz_ 0
      have f1 := Blk.frozen hz_ 1
      have f2 := Blk.frozen hz_ 2
      have hz3 := Blk.set (Blk.set (Blk.set hz_ 0 (.int .i64 c.level) #[.int .i64 c.level, .slice none 0 0, .slice none 0 0] rfl) 1 (.slice Am c.mem.length capm) #[.int .i64 c.level, .slice Am c.mem.length capm, .slice none 0 0] rfl) 2 (.slice Bp c.pl.length capp) #[.int .i64 c.level, .slice Am c.mem.length capm, .slice Bp c.pl.length capp] rfl
      have hb3_ := (((bch HB2.out HB4.out).setCell (p := ⟨w.heap.size + 1, 0, none⟩) (Nat.le_succ _) (.int .i64 c.level)).setCell (p := ⟨w.heap.size + 1, 1, none⟩) (Nat.le_succ _) (.slice Am c.mem.length capm)).setCell (p := ⟨w.heap.size + 1, 2, none⟩) (Nat.le_succ _) (.slice Bp c.pl.length capp)
      have hrm3 := ((RowG.farB (j := 0) (RowG.below HRM.out HB4.out) HS1.out (.int .i64 c.level)).farB (j := 1) HS1.out (.slice Am c.mem.length capm)).farB (j := 2) HS1.out (.slice Bp c.pl.length capp)
      have hrp3 := ((RowG.farB (j := 0) (RowG.below HRP.out HB4.out) HS1.out (.int .i64 c.level)).farB (j := 1) HS1.out (.slice Am c.mem.length capm)).farB (j := 2) HS1.out (.slice Bp c.pl.length capp)
      have HZ3 := Lib.hid hz3; clear hz3
      have HIM := Lib.hid (hrm3.mono (base2 := w.heap.size) (by have := HS1.out; omega)); have HIP := Lib.hid (hrp3.mono (base2 := w.heap.size) (by have := HS1.out; omega)); have HB3_ := Lib.hid hb3_
      clear hrm3 hrp3 hb3_ hz_ ha_
      go_wp2_with fail
      have e0 := Blk.cell HZ3.out 0
      have e1 := Blk.cell HZ3.out 1
      have e2 := Blk.cell HZ3.out 2
      simp only [List.getElem?_toArray, List.getElem?_cons_zero, List.getElem?_cons_succ] at e0 e1 e2
      refine bodyPost_ret (v := .tuple #[.agg #[.int .i64 c.level, .slice Am c.mem.length capm, .slice Bp c.pl.length capp], .int .i64 1]) (by simp [results, Try.results25, go_sem, e0, e1, e2]) rfl ?_
      rw [HE.out]
      exact ⟨Am, c.mem.length, capm, Bp, c.pl.length, capp, rfl, HIM.out, HIP.out, HNE.out, HB3_.out⟩
    have hb12 : b = 1 ∨ b = 2 := by omega
    have HN1 : Hid (¬ (¬ RightC c ∨ (b ≠ 1 ∧ b ≠ 2))) := by show ¬ _; rintro (h | h); exact h hrc; exact h1 h
    clear h1
    have q := fun W => refbin_any c.level b W
    have hz := Blk.below HX2.out HB4.out
    have z0 := Blk.cell hz 0
    simp only [List.getElem?_toArray, List.getElem?_cons_zero, List.getElem?_cons_succ] at z0
    clear hz
    have HBN : Hid (binB c.level b = binB c.level b) := rfl
    have HM0 : Hid (0 < c.pl.length ∧ c.mem.length ≤ 8) := ⟨hrc.2.2.1.1, hrc.2.1.2⟩
    go_upto_region 4 with fail
    go_cut [18] (fun s wx => s = .bool false ∧ wx = V4)
    case first =>
      rcases hb12 with rfl | rfl
      all_goals
        go_wp2_with fail
        go_meet
        exact ⟨rfl, rfl⟩
    case rest =>
      obtain ⟨rfl, rfl⟩ := hcut
      by_cases h2 : mt < 0
      · have HE : Hid (reportC c x b = (c, 70)) := by show _ = _; rw [HRP0.out, if_neg HN1.out, if_pos h2]
        clear HRP0 HMI
        have ha_ := (Blk.below HA.out HB4.out)
        have hz_ := (Blk.below HZ2.out HB4.out)
        have a0 := Blk.cell ha_ 0
        have a1 := Blk.cell ha_ 1
        have a2 := Blk.cell ha_ 2
        have x0 := Blk.cell hz_ 0
        have x1 := Blk.cell hz_ 1
        have x2 := Blk.cell hz_ 2
        simp only [List.getElem?_toArray, List.getElem?_cons_zero, List.getElem?_cons_succ] at a0 a1 a2 x0 x1 x2
        have f0 := Blk.frozen hz_ 0
        have f1 := Blk.frozen hz_ 1
        have f2 := Blk.frozen hz_ 2
        have hz3 := Blk.set (Blk.set (Blk.set hz_ 0 (.int .i64 c.level) #[.int .i64 c.level, .slice none 0 0, .slice none 0 0] rfl) 1 (.slice Am c.mem.length capm) #[.int .i64 c.level, .slice Am c.mem.length capm, .slice none 0 0] rfl) 2 (.slice Bp c.pl.length capp) #[.int .i64 c.level, .slice Am c.mem.length capm, .slice Bp c.pl.length capp] rfl
        have hb3_ := (((bch HB2.out HB4.out).setCell (p := ⟨w.heap.size + 1, 0, none⟩) (Nat.le_succ _) (.int .i64 c.level)).setCell (p := ⟨w.heap.size + 1, 1, none⟩) (Nat.le_succ _) (.slice Am c.mem.length capm)).setCell (p := ⟨w.heap.size + 1, 2, none⟩) (Nat.le_succ _) (.slice Bp c.pl.length capp)
        have hrm3 := ((RowG.farB (j := 0) (RowG.below HRM.out HB4.out) HS1.out (.int .i64 c.level)).farB (j := 1) HS1.out (.slice Am c.mem.length capm)).farB (j := 2) HS1.out (.slice Bp c.pl.length capp)
        have hrp3 := ((RowG.farB (j := 0) (RowG.below HRP.out HB4.out) HS1.out (.int .i64 c.level)).farB (j := 1) HS1.out (.slice Am c.mem.length capm)).farB (j := 2) HS1.out (.slice Bp c.pl.length capp)
        have HZ3 := Lib.hid hz3; clear hz3
        have HIM := Lib.hid (hrm3.mono (base2 := w.heap.size) (by have := HS1.out; omega)); have HIP := Lib.hid (hrp3.mono (base2 := w.heap.size) (by have := HS1.out; omega)); have HB3_ := Lib.hid hb3_
        clear hrm3 hrp3 hb3_ hz_ ha_
        go_wp2_with fail
        have e0 := Blk.cell HZ3.out 0
        have e1 := Blk.cell HZ3.out 1
        have e2 := Blk.cell HZ3.out 2
        simp only [List.getElem?_toArray, List.getElem?_cons_zero, List.getElem?_cons_succ] at e0 e1 e2
        refine bodyPost_ret (v := .tuple #[.agg #[.int .i64 c.level, .slice Am c.mem.length capm, .slice Bp c.pl.length capp], .int .i64 70]) (by simp [results, Try.results25, go_sem, e0, e1, e2]) rfl ?_
        rw [HE.out]
        exact ⟨Am, c.mem.length, capm, Bp, c.pl.length, capp, rfl, HIM.out, HIP.out, HNE.out, HB3_.out⟩
      obtain ⟨k, hmk, hkl, hkx⟩ := HMI.out (by omega)
      subst hmk
      cases hbin : binB c.level b with
      | false =>
        have HE : Hid (reportC c x b = (c, 22)) := by show _ = _; rw [HRP0.out, if_neg HN1.out, if_neg h2, if_pos hbin]
        have q := q wc
        rw [hbin] at q
        clear HRP0 HMI hbin HBN h2
        go_wp2_with fail
        ((with_reducible refine q.mono ?_); rintro e V5 ⟨rfl, rfl⟩)
        have ha_ := (Blk.below HA.out HB4.out)
        have hz_ := (Blk.below HZ2.out HB4.out)
        have a0 := Blk.cell ha_ 0
        have a1 := Blk.cell ha_ 1
        have a2 := Blk.cell ha_ 2
        have x0 := Blk.cell hz_ 0
        have x1 := Blk.cell hz_ 1
        have x2 := Blk.cell hz_ 2
        simp only [List.getElem?_toArray, List.getElem?_cons_zero, List.getElem?_cons_succ] at a0 a1 a2 x0 x1 x2
        have f0 := Blk.frozen hz_ 0
        have f1 := Blk.frozen hz_ 1
        have f2 := Blk.frozen hz_ 2
        have hz3 := Blk.set (Blk.set (Blk.set hz_ 0 (.int .i64 c.level) #[.int .i64 c.level, .slice none 0 0, .slice none 0 0] rfl) 1 (.slice Am c.mem.length capm) #[.int .i64 c.level, .slice Am c.mem.length capm, .slice none 0 0] rfl) 2 (.slice Bp c.pl.length capp) #[.int .i64 c.level, .slice Am c.mem.length capm, .slice Bp c.pl.length capp] rfl
        have hb3_ := (((bch HB2.out HB4.out).setCell (p := ⟨w.heap.size + 1, 0, none⟩) (Nat.le_succ _) (.int .i64 c.level)).setCell (p := ⟨w.heap.size + 1, 1, none⟩) (Nat.le_succ _) (.slice Am c.mem.length capm)).setCell (p := ⟨w.heap.size + 1, 2, none⟩) (Nat.le_succ _) (.slice Bp c.pl.length capp)
        have hrm3 := ((RowG.farB (j := 0) (RowG.below HRM.out HB4.out) HS1.out (.int .i64 c.level)).farB (j := 1) HS1.out (.slice Am c.mem.length capm)).farB (j := 2) HS1.out (.slice Bp c.pl.length capp)
        have hrp3 := ((RowG.farB (j := 0) (RowG.below HRP.out HB4.out) HS1.out (.int .i64 c.level)).farB (j := 1) HS1.out (.slice Am c.mem.length capm)).farB (j := 2) HS1.out (.slice Bp c.pl.length capp)
        have HZ3 := Lib.hid hz3; clear hz3
        have HIM := Lib.hid (hrm3.mono (base2 := w.heap.size) (by have := HS1.out; omega)); have HIP := Lib.hid (hrp3.mono (base2 := w.heap.size) (by have := HS1.out; omega)); have HB3_ := Lib.hid hb3_
        clear hrm3 hrp3 hb3_ hz_ ha_
        go_wp2_with fail
        have e0 := Blk.cell HZ3.out 0
        have e1 := Blk.cell HZ3.out 1
        have e2 := Blk.cell HZ3.out 2
        simp only [List.getElem?_toArray, List.getElem?_cons_zero, List.getElem?_cons_succ] at e0 e1 e2
        refine bodyPost_ret (v := .tuple #[.agg #[.int .i64 c.level, .slice Am c.mem.length capm, .slice Bp c.pl.length capp], .int .i64 22]) (by simp [results, Try.results25, go_sem, e0, e1, e2]) rfl ?_
        rw [HE.out]
        exact ⟨Am, c.mem.length, capm, Bp, c.pl.length, capp, rfl, HIM.out, HIP.out, HNE.out, HB3_.out⟩
      | true =>
        have HE : Hid (reportC c x b = (⟨c.level, c.mem.set k (x, b), c.pl⟩, 0)) := by show _ = _; rw [HRP0.out, if_neg HN1.out, if_neg h2, if_neg (by rw [hbin]; simp), Int.toNat_natCast]
        have q := q wc
        rw [hbin] at q
        clear HRP0 HMI hbin HBN h2
        have haw := Blk.below HA.out HB4.out
        have g1 := Blk.cell haw 1
        simp only [List.getElem?_toArray, List.getElem?_cons_zero, List.getElem?_cons_succ] at g1
        have hrp4 := RowG.below HRP.out HB4.out
        have hrm4 := RowG.below HRM.out HB4.out
        obtain ⟨gp, cp, hvp, hgp1, hgp2, hgp3⟩ := hrm4.own (by omega)
        obtain ⟨hAm, _, hcpp⟩ := slice_eqG hvp
        have hother := row_otherM hrm4 hrp4 HM0.out.1 hAm (HNE.out (by omega) HM0.out.1)
        subst hAm
        have hgpa := HL1.out gp rfl
        have hap := atM9_get hkl
        generalize hz9 : atM9 c.mem k = z at *
        obtain ⟨zn, zb⟩ := z
        obtain rfl : zn = x := hkx
        clear hz9
        have x1 : wc.cell? ⟨gp, k * 2 + 1, none⟩ = some (.int .i64 zb) := hrm4.cell (j := 1) hap rfl
        have xf : wc.frozen? ⟨gp, k * 2 + 1, none⟩ = false := hrm4.frozen _
        go_wp2_with fail
        ((with_reducible refine q.mono ?_); rintro e V5 ⟨rfl, rfl⟩)
        go_upto_region 11 with fail
        have hrm9 : RowG s2 45 (wc.setCell ⟨gp, k * 2 + 1, none⟩ (.int .i64 b)) bs1 (.slice (some ⟨gp, 0, none⟩) c.mem.length capm) (c.mem.set k (zn, b)) := (RowG.set hrm4 (j := 1) (u := .int .i64 b) (y := (zn, b)) hap (by decide) rfl).1
        have hrp9 := hrp4.far (g := gp) (j := k * 2 + 1) hother (.int .i64 b)
        have ha9 := Blk.far haw (show ga ≠ gp by omega) (k * 2 + 1) (.int .i64 b)
        have hz9 := Blk.far (Blk.below HZ2.out HB4.out) (show w.heap.size + 1 ≠ gp by have := HS1.out; omega) (k * 2 + 1) (.int .i64 b)
        have hb9 := (bch HB2.out HB4.out).setCell (p := ⟨gp, k * 2 + 1, none⟩) (show w.heap.size ≤ gp by have := HS1.out; omega) (.int .i64 b)
        obtain ⟨X9, hX9⟩ : ∃ X, wc.setCell ⟨gp, k * 2 + 1, none⟩ (.int .i64 b) = X := ⟨_, rfl⟩
        rw [hX9] at hrp9 hrm9 ha9 hz9 hb9
        rw [hX9]
        clear g1 x1 xf haw z0 hX9 q
        have ha_ := ha9
        have hz_ := hz9
        have a0 := Blk.cell ha_ 0
        have a1 := Blk.cell ha_ 1
        have a2 := Blk.cell ha_ 2
        have x0 := Blk.cell hz_ 0
        have x1 := Blk.cell hz_ 1
        have x2 := Blk.cell hz_ 2
        simp only [List.getElem?_toArray, List.getElem?_cons_zero, List.getElem?_cons_succ] at a0 a1 a2 x0 x1 x2
        have f0 := Blk.frozen hz_ 0
        have f1 := Blk.frozen hz_ 1
        have f2 := Blk.frozen hz_ 2
        have hz3 := Blk.set (Blk.set (Blk.set hz_ 0 (.int .i64 c.level) #[.int .i64 c.level, .slice none 0 0, .slice none 0 0] rfl) 1 (.slice (some ⟨gp, 0, none⟩) c.mem.length capm) #[.int .i64 c.level, .slice (some ⟨gp, 0, none⟩) c.mem.length capm, .slice none 0 0] rfl) 2 (.slice Bp c.pl.length capp) #[.int .i64 c.level, .slice (some ⟨gp, 0, none⟩) c.mem.length capm, .slice Bp c.pl.length capp] rfl
        have hb3_ := ((hb9.setCell (p := ⟨w.heap.size + 1, 0, none⟩) (Nat.le_succ _) (.int .i64 c.level)).setCell (p := ⟨w.heap.size + 1, 1, none⟩) (Nat.le_succ _) (.slice (some ⟨gp, 0, none⟩) c.mem.length capm)).setCell (p := ⟨w.heap.size + 1, 2, none⟩) (Nat.le_succ _) (.slice Bp c.pl.length capp)
        have hrm3 := ((RowG.farB (j := 0) hrm9 HS1.out (.int .i64 c.level)).farB (j := 1) HS1.out (.slice (some ⟨gp, 0, none⟩) c.mem.length capm)).farB (j := 2) HS1.out (.slice Bp c.pl.length capp)
        have hrp3 := ((RowG.farB (j := 0) hrp9 HS1.out (.int .i64 c.level)).farB (j := 1) HS1.out (.slice (some ⟨gp, 0, none⟩) c.mem.length capm)).farB (j := 2) HS1.out (.slice Bp c.pl.length capp)
        have HZ3 := Lib.hid hz3; clear hz3
        have HIM := Lib.hid (hrm3.mono (base2 := w.heap.size) (by have := HS1.out; omega)); have HIP := Lib.hid (hrp3.mono (base2 := w.heap.size) (by have := HS1.out; omega)); have HB3_ := Lib.hid hb3_
        clear hrm3 hrp3 hb3_ hz_ ha_
        go_wp2_with fail
        have e0 := Blk.cell HZ3.out 0
        have e1 := Blk.cell HZ3.out 1
        have e2 := Blk.cell HZ3.out 2
        simp only [List.getElem?_toArray, List.getElem?_cons_zero, List.getElem?_cons_succ] at e0 e1 e2
        refine bodyPost_ret (v := .tuple #[.agg #[.int .i64 c.level, .slice (some ⟨gp, 0, none⟩) c.mem.length capm, .slice Bp c.pl.length capp], .int .i64 0]) (by simp [results, Try.results25, go_sem, e0, e1, e2]) rfl ?_
        rw [HE.out]
        exact ⟨some ⟨gp, 0, none⟩, c.mem.length, capm, Bp, c.pl.length, capp, rfl, HIM.out, HIP.out, HNE.out, HB3_.out⟩
end Go.Proofs.Ytndkmepdnekigaa
