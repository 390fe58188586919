import Derived.Test.YtndkmepdnekigaaCtCancel
import Derived.Test.YtndkmepdnekigaaCtMathB
import Derived.RegionTactic
import Derived.ChangeAlike
import Derived.BigRegion
/-
  The contract of the document's own Commit of controllers (stage 18).
-/
namespace Go.Proofs.Ytndkmepdnekigaa
open Go.RowKit
set_option linter.unusedVariables false
set_option linter.unusedSimpArgs false

/-- A whole place set. -/
theorem row_set3 {w : World} {base g n cap k : Nat} {l : List PlR} {x : PlR} (h : RowG s3 48 w base (.slice (some ⟨g, 0, none⟩) n cap) l) (hx : l[k]? = some x) (a b c : Int) :
    RowG s3 48 (((w.setCell ⟨g, k * 3, none⟩ (.int .i64 a)).setCell ⟨g, k * 3 + 1, none⟩ (.int .i64 b)).setCell ⟨g, k * 3 + 2, none⟩ (.int .i64 c)) base (.slice (some ⟨g, 0, none⟩) n cap) (l.set k (a, b, c)) := by
  have hk := (List.getElem?_eq_some_iff.1 hx).1
  have h1 := (RowG.set h (j := 0) (u := .int .i64 a) (y := (a, x.2.1, x.2.2)) hx (by decide) rfl).1
  have h2 := (RowG.set h1 (j := 1) (u := .int .i64 b) (y := (a, b, x.2.2)) (List.getElem?_set_self hk) (by decide) rfl).1
  have h3 := (RowG.set h2 (j := 2) (u := .int .i64 c) (y := (a, b, c)) (List.getElem?_set_self (by rw [List.length_set]; exact hk)) (by decide) rfl).1
  rw [List.set_set, List.set_set] at h3
  exact h3
set_option maxRecDepth 100000 in
set_option maxHeartbeats 8000000 in
theorem refcommit9_any (c : CtR) (A B : Option Addr) (n cap m cm : Nat) (s : Int) (w : World) (hc : IsCt w c A n B m) (hwf : CtW c) (hn16 : n * 16 ≤ 140737488351232) (hm24 : m * 24 ≤ 140737488351232) :
    Calls Try.prog 29 #[ctV c A n cap B m cm, .int .i64 s] w (CtOwnP w (commitC c s)) := by
  have HC00 := Lib.hid hc
  have HX0 := Blk.below (Blk.new w (ctB c A n cap B m cm)) (ba9 (w.alloc (ctB c A n cap B m cm)) (.cells #[.int .i64 0, .slice none 0 0, .slice none 0 0] 26))
  have HZ0 := Blk.new (w.alloc (ctB c A n cap B m cm)) (.cells #[.int .i64 0, .slice none 0 0, .slice none 0 0] 26)
  rw [World.size_alloc] at HZ0
  have HB0 := (ba9 w (ctB c A n cap B m cm)).alloc (ba9 w (ctB c A n cap B m cm)).size (.cells #[.int .i64 0, .slice none 0 0, .slice none 0 0] 26)
  have HC0 := hc.below HB0
  obtain ⟨W1, hW⟩ : ∃ W, (w.alloc (ctB c A n cap B m cm)).alloc (.cells #[.int .i64 0, .slice none 0 0, .slice none 0 0] 26) = W := ⟨_, rfl⟩
  rw [hW] at HX0 HZ0 HB0 HC0
  have z0 := Blk.cell HX0 0
  have z1 := Blk.cell HX0 1
  have z2 := Blk.cell HX0 2
  simp only [List.getElem?_toArray, List.getElem?_cons_zero, List.getElem?_cons_succ] at z0 z1 z2
  have q := refown9_any c A B n cap m cm W1 HC0 hn16 hm24
  have HCC := Lib.hid hc.1.1
  have HCP := Lib.hid hc.2.1
  clear hc
  go_enter Try.func29, Try.ntmps29
  go_upto_region 1 with fail
  try rw [hW]
  clear hW
  go_wp2_with fail
  ((with_reducible refine q.mono ?_); rintro e V ⟨Am, nm, capm, Bp, np, capp, rfl, hrm, hrp, hne, b1⟩)
  clear q z0 z1 z2
  obtain ⟨_, _, hvm, hcm, _⟩ := hrm.parts
  obtain ⟨_, rfl, rfl⟩ := slice_eqG hvm
  obtain ⟨_, _, hvp, hcp, _⟩ := hrp.parts
  obtain ⟨_, rfl, rfl⟩ := slice_eqG hvp
  go_upto_region 2 with fail
  have hs1 : w.heap.size + 1 < W1.heap.size := Blk.lt HZ0
  have hx2 := Blk.below (Blk.below HX0 b1) (ba9 V (ctB c Am c.mem.length capm Bp c.pl.length capp))
  have hz2 := Blk.below (Blk.below HZ0 b1) (ba9 V (ctB c Am c.mem.length capm Bp c.pl.length capp))
  have ha2 := Blk.new V (ctB c Am c.mem.length capm Bp c.pl.length capp)
  have hb2 := (bch HB0 b1).alloc (bch HB0 b1).size (ctB c Am c.mem.length capm Bp c.pl.length capp)
  have hc2 := (HC0.below b1).below (ba9 V (ctB c Am c.mem.length capm Bp c.pl.length capp))
  have hrm2 := hrm.below (ba9 V (ctB c Am c.mem.length capm Bp c.pl.length capp))
  have hrp2 := hrp.below (ba9 V (ctB c Am c.mem.length capm Bp c.pl.length capp))
  have hga : W1.heap.size ≤ V.heap.size := b1.size
  have hl1 : ∀ g, (Value.slice Am c.mem.length capm).ownBlock = some g → g < V.heap.size := fun g h => (hrm.lt g h).2
  have hl2 : ∀ g, (Value.slice Bp c.pl.length capp).ownBlock = some g → g < V.heap.size := fun g h => (hrp.lt g h).2
  obtain ⟨W2, hW2⟩ : ∃ W, V.alloc (ctB c Am c.mem.length capm Bp c.pl.length capp) = W := ⟨_, rfl⟩
  rw [hW2] at hx2 hz2 ha2 hb2 hc2 hrm2 hrp2
  rw [hW2]
  clear hW2 hrm hrp b1 HX0 HZ0 HB0 HC0
  generalize V.heap.size = ga at *
  generalize W1.heap.size = bs1 at *
  have HS1 := Lib.hid hs1; clear hs1
  have HX2 := Lib.hid hx2; clear hx2
  have HZ2 := Lib.hid hz2; clear hz2
  have HA := Lib.hid ha2; clear ha2
  have HB2 := Lib.hid hb2; clear hb2
  have HC2 := Lib.hid hc2; clear hc2
  have HRM := Lib.hid hrm2; clear hrm2
  have HRP := Lib.hid hrp2; clear hrp2
  have HL1 := Lib.hid hl1; clear hl1
  have HL2 := Lib.hid hl2; clear hl2
  have HGA := Lib.hid hga; clear hga
  have HNE := Lib.hid hne; clear hne
  have HN16 := Lib.hid hn16; have HM24 := Lib.hid hm24; have HWF := Lib.hid hwf; clear hwf
  have HPE : Hid (placeE c s ≠ 0 → commitC c s = (c, placeE c s)) := fun h => if_pos h
  have HPO : Hid (placeE c s = 0 → RightC c ∧ 0 ≤ s ∧ s.toNat < c.pl.length) := place_ok
  have HPL0 : Hid (placeE c s = 0 → commitC c s = if (atP9 c.pl s.toNat).2.2 = 0 then (c, 70) else if (atP9 c.pl s.toNat).2.1 = 9007199254740992 then (c, 50)
      else (setPl c s ((atP9 c.pl s.toNat).2.2, (atP9 c.pl s.toNat).2.1 + 1, 0), 0)) := fun h => by
    show _ = _; unfold commitC; rw [if_neg (fun e => e h)]
  have z0 := Blk.cell HX2.out 0
  have z1 := Blk.cell HX2.out 1
  have z2 := Blk.cell HX2.out 2
  simp only [List.getElem?_toArray, List.getElem?_cons_zero, List.getElem?_cons_succ] at z0 z1 z2
  have q := refplace9_any c A B n cap m cm s W2 HC2.out
  generalize placeE c s = pe at *
  go_wp2_with fail
  ((with_reducible refine q.mono ?_); rintro e V3 ⟨rfl, b3⟩)
  have HB4 := Lib.hid b3
  clear q z0 z1 z2
  by_cases hpe : pe = 0
  · subst hpe
    obtain ⟨hrc, hs0, hsl⟩ := HPO.out rfl
    obtain ⟨k, rfl⟩ : ∃ k : Nat, s = k := ⟨s.toNat, by omega⟩
    have HK : Hid (k < c.pl.length) := hsl
    have HPL : Hid (commitC c (k : Int) = if (atP9 c.pl k).2.2 = 0 then (c, 70) else if (atP9 c.pl k).2.1 = 9007199254740992 then (c, 50) else (setPl c (k : Int) ((atP9 c.pl k).2.2, (atP9 c.pl k).2.1 + 1, 0), 0)) := HPL0.out rfl
    have HMM : Hid (0 < c.mem.length) := hrc.2.1.1
    have HM8 : Hid (m ≤ 8) := by show _ ≤ _; rw [HCP.out]; exact hrc.2.2.1.2
    have HRC := Lib.hid hrc
    have HEP : Hid (1 ≤ (atP9 c.pl k).2.1 ∧ (atP9 c.pl k).2.1 ≤ 9007199254740992) := by have h := hrc.2.2.2.2 _ (atP9_mem HK.out); exact ⟨h.2.1, h.2.2.1⟩
    clear HPE HPO HPL0 hs0 hsl hrc
    have hz := Blk.below HX2.out HB4.out
    have z2 := Blk.cell hz 2
    simp only [List.getElem?_toArray, List.getElem?_cons_zero, List.getElem?_cons_succ] at z2
    obtain ⟨b, off, hA, hb, y0, y1, y2⟩ := is3_at (IsG.below HC2.out.2 HB4.out) (atP9_get HK.out)
    subst hA
    have hkm : k < m := by have := HK.out; have := HCP.out; omega
    have hap := atP9_get HK.out
    generalize hzz : atP9 c.pl k = z at *
    obtain ⟨ow, ep, tz⟩ := z
    have HZZ := Lib.hid hzz; clear hzz
    simp only at y0 y1 y2 HPL HEP
    clear hz b3
    by_cases h2 : tz = 0
    · have HE : Hid (commitC c (k : Int) = (c, 70)) := by show _ = _; rw [HPL.out, if_pos h2]
      subst h2
      clear HPL
      have ha_ := (Blk.below HA.out HB4.out)
      have hz_ := (Blk.below HZ2.out HB4.out)
      have a0 := Blk.cell ha_ 0
      have a1 := Blk.cell ha_ 1
      have a2 := Blk.cell ha_ 2
      have x0 := Blk.cell hz_ 0
      have x1 := Blk.cell hz_ 1
      have x2 := Blk.cell hz_ 2
      simp only [List.getElem?_toArray, List.getElem?_cons_zero, List.getElem?_cons_succ] at a0 a1 a2 x0 x1 x2
      have f0 := Blk.frozen hz_ 0
      have f1 := Blk.frozen hz_ 1
      have f2 := Blk.frozen hz_ 2
      have hz3 := Blk.set (Blk.set (Blk.set hz_ 0 (.int .i64 c.level) #[.int .i64 c.level, .slice none 0 0, .slice none 0 0] rfl) 1 (.slice Am c.mem.length capm) #[.int .i64 c.level, .slice Am c.mem.length capm, .slice none 0 0] rfl) 2 (.slice Bp c.pl.length capp) #[.int .i64 c.level, .slice Am c.mem.length capm, .slice Bp c.pl.length capp] rfl
      have hb3_ := (((bch HB2.out HB4.out).setCell (p := ⟨w.heap.size + 1, 0, none⟩) (Nat.le_succ _) (.int .i64 c.level)).setCell (p := ⟨w.heap.size + 1, 1, none⟩) (Nat.le_succ _) (.slice Am c.mem.length capm)).setCell (p := ⟨w.heap.size + 1, 2, none⟩) (Nat.le_succ _) (.slice Bp c.pl.length capp)
      have hrm3 := ((RowG.farB (j := 0) (RowG.below HRM.out HB4.out) HS1.out (.int .i64 c.level)).farB (j := 1) HS1.out (.slice Am c.mem.length capm)).farB (j := 2) HS1.out (.slice Bp c.pl.length capp)
      have hrp3 := ((RowG.farB (j := 0) (RowG.below HRP.out HB4.out) HS1.out (.int .i64 c.level)).farB (j := 1) HS1.out (.slice Am c.mem.length capm)).farB (j := 2) HS1.out (.slice Bp c.pl.length capp)
      have HZ3 := Lib.hid hz3; clear hz3
      have HIM := Lib.hid (hrm3.mono (base2 := w.heap.size) (by have := HS1.out; omega)); have HIP := Lib.hid (hrp3.mono (base2 := w.heap.size) (by have := HS1.out; omega)); have HB3_ := Lib.hid hb3_
      clear hrm3 hrp3 hb3_ hz_ ha_
      go_wp2_with fail
      have e0 := Blk.cell HZ3.out 0
      have e1 := Blk.cell HZ3.out 1
      have e2 := Blk.cell HZ3.out 2
      simp only [List.getElem?_toArray, List.getElem?_cons_zero, List.getElem?_cons_succ] at e0 e1 e2
      refine bodyPost_ret (v := .tuple #[.agg #[.int .i64 c.level, .slice Am c.mem.length capm, .slice Bp c.pl.length capp], .int .i64 70]) (by simp [results, Try.results29, go_sem, e0, e1, e2]) rfl ?_
      rw [HE.out]
      exact ⟨Am, c.mem.length, capm, Bp, c.pl.length, capp, rfl, HIM.out, HIP.out, HNE.out, HB3_.out⟩
    have e2 : (tz == 0) = false := by simpa using h2
    have HMAY : Hid (rightC ⟨c.level, c.mem, c.pl.set k (tz, ep + 1, 0)⟩ = (ep != 9007199254740992)) := commit_may HRC.out HK.out HZZ.out h2
    have HPL2 : Hid (commitC c (k : Int) = if ep = 9007199254740992 then (c, 50) else (setPl c (k : Int) (tz, ep + 1, 0), 0)) := by show _ = _; rw [HPL.out, if_neg h2]
    clear HPL h2
    have haw := Blk.below HA.out HB4.out
    have g2 := Blk.cell haw 2
    simp only [List.getElem?_toArray, List.getElem?_cons_zero, List.getElem?_cons_succ] at g2
    have hrp4 := RowG.below HRP.out HB4.out
    have hrm4 := RowG.below HRM.out HB4.out
    obtain ⟨gp, cp, hvp, hgp1, hgp2, hgp3⟩ := hrp4.own (by have := HK.out; omega)
    obtain ⟨hBp, _, hcpp⟩ := slice_eqG hvp
    have hother := row_other hrm4 hrp4 HMM.out hBp (HNE.out HMM.out (by have := HK.out; omega))
    subst hBp
    have hgpa := HL2.out gp rfl
    have x0 : V3.cell? ⟨gp, k * 3, none⟩ = some (.int .i64 ow) := hrp4.cell (j := 0) hap rfl
    have x1 : V3.cell? ⟨gp, k * 3 + 1, none⟩ = some (.int .i64 ep) := hrp4.cell (j := 1) hap rfl
    have x2 : V3.cell? ⟨gp, k * 3 + 2, none⟩ = some (.int .i64 tz) := hrp4.cell (j := 2) hap rfl
    have xf0 : V3.frozen? ⟨gp, k * 3, none⟩ = false := hrp4.frozen _
    have xf1 : V3.frozen? ⟨gp, k * 3 + 1, none⟩ = false := hrp4.frozen _
    have xf2 : V3.frozen? ⟨gp, k * 3 + 2, none⟩ = false := hrp4.frozen _
    have hkp : k < c.pl.length := HK.out
    have hkpi : (k : Int) < (c.pl.length : Int) := by omega
    have hkmi : (k : Int) < (m : Int) := by omega
    have hgp0 : w.heap.size + 1 < gp := by have := HS1.out; omega
    have hga0 : ga ≠ gp := by omega
    have HG0 := Lib.hid hgp0; clear hgp0
    have HG1 := Lib.hid hga0; clear hga0
    have hw1 : (Lit.int .i64 (ep + 1)).wf = true := by
      have := HEP.out
      rw [show (Lit.int .i64 (ep + 1)).wf = (decide (-9223372036854775808 ≤ ep + 1) && decide (ep + 1 ≤ 9223372036854775807)) from rfl]
      simp; omega
    have hw2 : -9223372036854775808 ≤ ep + 1 ∧ ep + 1 ≤ 9223372036854775807 := by have := HEP.out; omega
    have hw3 := hw2.1
    have hw4 := hw2.2
    have HRP4 := Lib.hid hrp4; have HRM4 := Lib.hid hrm4; have HAW := Lib.hid haw; have HOT := Lib.hid hother; have HAP := Lib.hid hap; have HCPP := Lib.hid hcpp
    clear hw2 hrm4 hrp4 haw hgp1 hgp2 hgp3 hgpa hother hb hcpp hvp hap
    go_upto_region 7 with fail
    go_region
    clear x0 x1 x2 xf0 xf1 xf2 g2 z2 y0 y1 y2 hkpi hkmi hw1 hw3 hw4 e2
    have hrp9 : RowG s3 48 ((((V3.setCell ⟨gp, k * 3, none⟩ (.int .i64 tz)).setCell ⟨gp, k * 3 + 1, none⟩ (.int .i64 (ep + 1))).setCell ⟨gp, k * 3 + 2, none⟩ (.int .i64 0)).drew) bs1 (.slice (some ⟨gp, 0, none⟩) c.pl.length capp) (c.pl.set k (tz, ep + 1, 0)) := row_set3 HRP4.out HAP.out tz (ep + 1) 0
    have hrm9 : RowG s2 45 ((((V3.setCell ⟨gp, k * 3, none⟩ (.int .i64 tz)).setCell ⟨gp, k * 3 + 1, none⟩ (.int .i64 (ep + 1))).setCell ⟨gp, k * 3 + 2, none⟩ (.int .i64 0)).drew) bs1 (.slice Am c.mem.length capm) c.mem := ((HRM4.out.far (g := gp) (j := k * 3) HOT.out (.int .i64 tz)).far (g := gp) (j := k * 3 + 1) HOT.out (.int .i64 (ep + 1))).far (g := gp) (j := k * 3 + 2) HOT.out (.int .i64 0)
    have ha9 := (Blk.far (Blk.far (Blk.far HAW.out HG1.out (k * 3) (.int .i64 tz)) HG1.out (k * 3 + 1) (.int .i64 (ep + 1))) HG1.out (k * 3 + 2) (.int .i64 0)).drew
    have hgz : w.heap.size + 1 ≠ gp := by have := HG0.out; omega
    have hgx : w.heap.size ≠ gp := by have := HG0.out; omega
    have hgl : w.heap.size ≤ gp := by have := HG0.out; omega
    have hz9 := (Blk.far (Blk.far (Blk.far (Blk.below HZ2.out HB4.out) hgz (k * 3) (.int .i64 tz)) hgz (k * 3 + 1) (.int .i64 (ep + 1))) hgz (k * 3 + 2) (.int .i64 0)).drew
    have hx9 := (Blk.far (Blk.far (Blk.far (Blk.below HX2.out HB4.out) hgx (k * 3) (.int .i64 tz)) hgx (k * 3 + 1) (.int .i64 (ep + 1))) hgx (k * 3 + 2) (.int .i64 0)).drew
    have hb9 := ((((bch HB2.out HB4.out).setCell (p := ⟨gp, k * 3, none⟩) hgl (.int .i64 tz)).setCell (p := ⟨gp, k * 3 + 1, none⟩) hgl (.int .i64 (ep + 1))).setCell (p := ⟨gp, k * 3 + 2, none⟩) hgl (.int .i64 0)).drew
    obtain ⟨X9, hX9⟩ : ∃ X, (((V3.setCell ⟨gp, k * 3, none⟩ (.int .i64 tz)).setCell ⟨gp, k * 3 + 1, none⟩ (.int .i64 (ep + 1))).setCell ⟨gp, k * 3 + 2, none⟩ (.int .i64 0)).drew = X := ⟨_, rfl⟩
    rw [hX9] at hrp9 hrm9 ha9 hz9 hb9 hx9
    rw [hX9]
    clear hX9 hgz hgx hgl
    obtain ⟨_, _, hv1, hcc1, hi1⟩ := hrm9.parts
    obtain ⟨rfl, _, rfl⟩ := slice_eqG hv1
    obtain ⟨Ap9, cp9, hv2, hcc2, hi2⟩ := hrp9.parts
    obtain ⟨hAp9, hlp9, hcp9⟩ := slice_eqG hv2
    rw [← hlp9, ← hAp9] at hi2
    clear hv1 hv2 hcc2 hAp9 hlp9 hcp9
    have q := refright9_any ⟨c.level, c.mem, c.pl.set k (tz, ep + 1, 0)⟩ Am (some ⟨gp, 0, none⟩) c.mem.length capm c.pl.length capp X9 ⟨hi1, hi2⟩
    rw [HMAY.out] at q
    try dsimp only at q
    clear hi1 hi2 hcc1
    have HRP9 := Lib.hid hrp9; have HRM9 := Lib.hid hrm9; have HA9 := Lib.hid ha9; have HZ9 := Lib.hid hz9; have HX9 := Lib.hid hx9; have HB9 := Lib.hid hb9
    clear hrp9 hrm9 ha9 hz9 hx9 hb9
    have g0 := Blk.cell HA9.out 0
    have g1 := Blk.cell HA9.out 1
    have g2 := Blk.cell HA9.out 2
    simp only [List.getElem?_toArray, List.getElem?_cons_zero, List.getElem?_cons_succ] at g0 g1 g2
    go_wp2_with fail
    ((with_reducible refine q.mono ?_); rintro e V5 ⟨rfl, b5⟩)
    clear q g0 g1 g2
    have HB5 := Lib.hid b5; clear b5
    by_cases h4 : ep = 9007199254740992
    · have HE : Hid (commitC c (k : Int) = (c, 50)) := by show _ = _; rw [HPL2.out, if_pos h4]
      subst h4
      clear HPL2
      have hx5 := Blk.below HX9.out HB5.out
      have z0 := Blk.cell hx5 0
      have z1 := Blk.cell hx5 1
      have z2 := Blk.cell hx5 2
      simp only [List.getElem?_toArray, List.getElem?_cons_zero, List.getElem?_cons_succ] at z0 z1 z2
      have q := refown9_any c A (some ⟨b, off, none⟩) n cap m cm V5 (HC00.out.below (bch HB9.out HB5.out)) HN16.out HM24.out
      go_wp2_with fail
      ((with_reducible refine q.mono ?_); rintro e V6 ⟨Ao, no, capo, Bo, mo, cmo, rfl, hro, hrq, hneo, b6⟩)
      clear q z0 z1 z2 hx5
      have HSO : Hid (w.heap.size + 1 < V5.heap.size) := Blk.lt (Blk.below HZ9.out HB5.out)
      have hz_ := Blk.below (Blk.below HZ9.out HB5.out) b6
      have x0 := Blk.cell hz_ 0
      have x1 := Blk.cell hz_ 1
      have x2 := Blk.cell hz_ 2
      simp only [List.getElem?_toArray, List.getElem?_cons_zero, List.getElem?_cons_succ] at x0 x1 x2
      have f0 := Blk.frozen hz_ 0
      have f1 := Blk.frozen hz_ 1
      have f2 := Blk.frozen hz_ 2
      have hz3 := Blk.set (Blk.set (Blk.set hz_ 0 (.int .i64 c.level) #[.int .i64 c.level, .slice none 0 0, .slice none 0 0] rfl) 1 (.slice Ao no capo) #[.int .i64 c.level, .slice Ao no capo, .slice none 0 0] rfl) 2 (.slice Bo mo cmo) #[.int .i64 c.level, .slice Ao no capo, .slice Bo mo cmo] rfl
      have hb3_ := (((bch (bch HB9.out HB5.out) b6).setCell (p := ⟨w.heap.size + 1, 0, none⟩) (Nat.le_succ _) (.int .i64 c.level)).setCell (p := ⟨w.heap.size + 1, 1, none⟩) (Nat.le_succ _) (.slice Ao no capo)).setCell (p := ⟨w.heap.size + 1, 2, none⟩) (Nat.le_succ _) (.slice Bo mo cmo)
      have hrm3 := ((hro.farB (j := 0) HSO.out (.int .i64 c.level)).farB (j := 1) HSO.out (.slice Ao no capo)).farB (j := 2) HSO.out (.slice Bo mo cmo)
      have hrp3 := ((hrq.farB (j := 0) HSO.out (.int .i64 c.level)).farB (j := 1) HSO.out (.slice Ao no capo)).farB (j := 2) HSO.out (.slice Bo mo cmo)
      have HZ3 := Lib.hid hz3; clear hz3
      have HIM := Lib.hid (hrm3.mono (base2 := w.heap.size) (by have := HSO.out; omega)); have HIP := Lib.hid (hrp3.mono (base2 := w.heap.size) (by have := HSO.out; omega)); have HB3_ := Lib.hid hb3_
      have HNO := Lib.hid hneo; clear hneo
      clear hrm3 hrp3 hro hrq hb3_ hz_
      go_wp2_with fail
      have e0 := Blk.cell HZ3.out 0
      have e1 := Blk.cell HZ3.out 1
      have e2 := Blk.cell HZ3.out 2
      simp only [List.getElem?_toArray, List.getElem?_cons_zero, List.getElem?_cons_succ] at e0 e1 e2
      refine bodyPost_ret (v := .tuple #[.agg #[.int .i64 c.level, .slice Ao no capo, .slice Bo mo cmo], .int .i64 50]) (by simp [results, Try.results29, go_sem, e0, e1, e2]) rfl ?_
      rw [HE.out]
      exact ⟨Ao, no, capo, Bo, mo, cmo, rfl, HIM.out, HIP.out, HNO.out, HB3_.out⟩
    · have HE : Hid (commitC c (k : Int) = (setPl c (k : Int) (tz, ep + 1, 0), 0)) := by show _ = _; rw [HPL2.out, if_neg h4]
      have e4 : (ep != 9007199254740992) = true := by simpa using h4
      clear HPL2 h4
      have ha_ := (Blk.below HA9.out HB5.out)
      have hz_ := (Blk.below HZ9.out HB5.out)
      have a0 := Blk.cell ha_ 0
      have a1 := Blk.cell ha_ 1
      have a2 := Blk.cell ha_ 2
      have x0 := Blk.cell hz_ 0
      have x1 := Blk.cell hz_ 1
      have x2 := Blk.cell hz_ 2
      simp only [List.getElem?_toArray, List.getElem?_cons_zero, List.getElem?_cons_succ] at a0 a1 a2 x0 x1 x2
      have f0 := Blk.frozen hz_ 0
      have f1 := Blk.frozen hz_ 1
      have f2 := Blk.frozen hz_ 2
      have hz3 := Blk.set (Blk.set (Blk.set hz_ 0 (.int .i64 c.level) #[.int .i64 c.level, .slice none 0 0, .slice none 0 0] rfl) 1 (.slice Am c.mem.length capm) #[.int .i64 c.level, .slice Am c.mem.length capm, .slice none 0 0] rfl) 2 (.slice (some ⟨gp, 0, none⟩) c.pl.length capp) #[.int .i64 c.level, .slice Am c.mem.length capm, .slice (some ⟨gp, 0, none⟩) c.pl.length capp] rfl
      have hb3_ := (((bch HB9.out HB5.out).setCell (p := ⟨w.heap.size + 1, 0, none⟩) (Nat.le_succ _) (.int .i64 c.level)).setCell (p := ⟨w.heap.size + 1, 1, none⟩) (Nat.le_succ _) (.slice Am c.mem.length capm)).setCell (p := ⟨w.heap.size + 1, 2, none⟩) (Nat.le_succ _) (.slice (some ⟨gp, 0, none⟩) c.pl.length capp)
      have hrm3 := ((RowG.farB (j := 0) (RowG.below HRM9.out HB5.out) HS1.out (.int .i64 c.level)).farB (j := 1) HS1.out (.slice Am c.mem.length capm)).farB (j := 2) HS1.out (.slice (some ⟨gp, 0, none⟩) c.pl.length capp)
      have hrp3 := ((RowG.farB (j := 0) (RowG.below HRP9.out HB5.out) HS1.out (.int .i64 c.level)).farB (j := 1) HS1.out (.slice Am c.mem.length capm)).farB (j := 2) HS1.out (.slice (some ⟨gp, 0, none⟩) c.pl.length capp)
      have HZ3 := Lib.hid hz3; clear hz3
      have HIM := Lib.hid (hrm3.mono (base2 := w.heap.size) (by have := HS1.out; omega)); have HIP := Lib.hid (hrp3.mono (base2 := w.heap.size) (by have := HS1.out; omega)); have HB3_ := Lib.hid hb3_
      clear hrm3 hrp3 hb3_ hz_ ha_
      go_wp2_with fail
      have e0 := Blk.cell HZ3.out 0
      have e1 := Blk.cell HZ3.out 1
      have e2 := Blk.cell HZ3.out 2
      simp only [List.getElem?_toArray, List.getElem?_cons_zero, List.getElem?_cons_succ] at e0 e1 e2
      refine bodyPost_ret (v := .tuple #[.agg #[.int .i64 c.level, .slice Am c.mem.length capm, .slice (some ⟨gp, 0, none⟩) c.pl.length capp], .int .i64 0]) (by simp [results, Try.results29, go_sem, e0, e1, e2]) rfl ?_
      rw [HE.out]
      exact ⟨Am, c.mem.length, capm, some ⟨gp, 0, none⟩, c.pl.length, capp, rfl, HIM.out, HIP.out, HNE.out, HB3_.out⟩
  · have HE : Hid (commitC c s = (c, pe)) := HPE.out hpe
    have e1 : (pe != 0) = true := by simpa using hpe
    clear HPE HPO HPL0 hpe
    have ha_ := (Blk.below HA.out HB4.out)
    have hz_ := (Blk.below HZ2.out HB4.out)
    have a0 := Blk.cell ha_ 0
    have a1 := Blk.cell ha_ 1
    have a2 := Blk.cell ha_ 2
    have x0 := Blk.cell hz_ 0
    have x1 := Blk.cell hz_ 1
    have x2 := Blk.cell hz_ 2
    simp only [List.getElem?_toArray, List.getElem?_cons_zero, List.getElem?_cons_succ] at a0 a1 a2 x0 x1 x2
    have f0 := Blk.frozen hz_ 0
    have f1 := Blk.frozen hz_ 1
    have f2 := Blk.frozen hz_ 2
    have hz3 := Blk.set (Blk.set (Blk.set hz_ 0 (.int .i64 c.level) #[.int .i64 c.level, .slice none 0 0, .slice none 0 0] rfl) 1 (.slice Am c.mem.length capm) #[.int .i64 c.level, .slice Am c.mem.length capm, .slice none 0 0] rfl) 2 (.slice Bp c.pl.length capp) #[.int .i64 c.level, .slice Am c.mem.length capm, .slice Bp c.pl.length capp] rfl
    have hb3_ := (((bch HB2.out HB4.out).setCell (p := ⟨w.heap.size + 1, 0, none⟩) (Nat.le_succ _) (.int .i64 c.level)).setCell (p := ⟨w.heap.size + 1, 1, none⟩) (Nat.le_succ _) (.slice Am c.mem.length capm)).setCell (p := ⟨w.heap.size + 1, 2, none⟩) (Nat.le_succ _) (.slice Bp c.pl.length capp)
    have hrm3 := ((RowG.farB (j := 0) (RowG.below HRM.out HB4.out) HS1.out (.int .i64 c.level)).farB (j := 1) HS1.out (.slice Am c.mem.length capm)).farB (j := 2) HS1.out (.slice Bp c.pl.length capp)
    have hrp3 := ((RowG.farB (j := 0) (RowG.below HRP.out HB4.out) HS1.out (.int .i64 c.level)).farB (j := 1) HS1.out (.slice Am c.mem.length capm)).farB (j := 2) HS1.out (.slice Bp c.pl.length capp)
    have HZ3 := Lib.hid hz3; clear hz3
    have HIM := Lib.hid (hrm3.mono (base2 := w.heap.size) (by have := HS1.out; omega)); have HIP := Lib.hid (hrp3.mono (base2 := w.heap.size) (by have := HS1.out; omega)); have HB3_ := Lib.hid hb3_
    clear hrm3 hrp3 hb3_ hz_ ha_
    go_wp2_with fail
    have e0 := Blk.cell HZ3.out 0
    have e1 := Blk.cell HZ3.out 1
    have e2 := Blk.cell HZ3.out 2
    simp only [List.getElem?_toArray, List.getElem?_cons_zero, List.getElem?_cons_succ] at e0 e1 e2
    refine bodyPost_ret (v := .tuple #[.agg #[.int .i64 c.level, .slice Am c.mem.length capm, .slice Bp c.pl.length capp], .int .i64 pe]) (by simp [results, Try.results29, go_sem, e0, e1, e2]) rfl ?_
    rw [HE.out]
    exact ⟨Am, c.mem.length, capm, Bp, c.pl.length, capp, rfl, HIM.out, HIP.out, HNE.out, HB3_.out⟩
end Go.Proofs.Ytndkmepdnekigaa
