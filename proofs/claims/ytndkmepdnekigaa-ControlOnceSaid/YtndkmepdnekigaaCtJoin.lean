import Derived.Test.YtndkmepdnekigaaCtReport
import Derived.Test.YtndkmepdnekigaaCtWf
import Derived.Test.YtndkmepdnekigaaTill
/-
  The contract of the document's own Join of controllers (stage 18).
-/
namespace Go.Proofs.Ytndkmepdnekigaa
open Go.RowKit
set_option linter.unusedVariables false
set_option linter.unusedSimpArgs false

theorem rowG_drew {α : Type} {S : Shp α} {T : TypeId} {w : World} {b : Nat} {v : Value} {l : List α} (h : RowG S T w b v l) : RowG S T w.drew b v l := World.ownsRow.drew h
set_option maxRecDepth 100000 in
set_option maxHeartbeats 8000000 in
theorem refjoin9_any (c : CtR) (A B : Option Addr) (n cap m cm : Nat) (x b : Int) (w : World) (hc : IsCt w c A n B m) (hn16 : n * 16 ≤ 140737488351232) (hm24 : m * 24 ≤ 140737488351232) :
    Calls Try.prog 23 #[ctV c A n cap B m cm, .int .i64 x, .int .i64 b] w (CtOwnP w (joinC c x b)) := by
  have HC00 := Lib.hid hc
  have HX0 := Blk.below (Blk.new w (ctB c A n cap B m cm)) (ba9 (w.alloc (ctB c A n cap B m cm)) (.cells #[.int .i64 0, .slice none 0 0, .slice none 0 0] 26))
  have HZ0 := Blk.new (w.alloc (ctB c A n cap B m cm)) (.cells #[.int .i64 0, .slice none 0 0, .slice none 0 0] 26)
  rw [World.size_alloc] at HZ0
  have HB0 := (ba9 w (ctB c A n cap B m cm)).alloc (ba9 w (ctB c A n cap B m cm)).size (.cells #[.int .i64 0, .slice none 0 0, .slice none 0 0] 26)
  have HC0 := hc.below HB0
  obtain ⟨W1, hW⟩ : ∃ W, (w.alloc (ctB c A n cap B m cm)).alloc (.cells #[.int .i64 0, .slice none 0 0, .slice none 0 0] 26) = W := ⟨_, rfl⟩
  rw [hW] at HX0 HZ0 HB0 HC0
  have z0 := Blk.cell HX0 0
  have z1 := Blk.cell HX0 1
  have z2 := Blk.cell HX0 2
  simp only [List.getElem?_toArray, List.getElem?_cons_zero, List.getElem?_cons_succ] at z0 z1 z2
  have q := refown9_any c A B n cap m cm W1 HC0 hn16 hm24
  have HCC := Lib.hid hc.1.1
  have HCP := Lib.hid hc.2.1
  clear hc
  go_enter Try.func23, Try.ntmps23
  go_upto_region 1 with fail
  try rw [hW]
  clear hW
  go_wp2_with fail
  ((with_reducible refine q.mono ?_); rintro e V ⟨Am, nm, capm, Bp, np, capp, rfl, hrm, hrp, hne, b1⟩)
  clear q z0 z1 z2
  obtain ⟨_, _, hvm, hcm, _⟩ := hrm.parts
  obtain ⟨_, rfl, rfl⟩ := slice_eqG hvm
  obtain ⟨_, _, hvp, hcp, _⟩ := hrp.parts
  obtain ⟨_, rfl, rfl⟩ := slice_eqG hvp
  go_upto_region 2 with fail
  have hs1 : w.heap.size + 1 < W1.heap.size := Blk.lt HZ0
  have hx2 := Blk.below (Blk.below HX0 b1) (ba9 V (ctB c Am c.mem.length capm Bp c.pl.length capp))
  have hz2 := Blk.below (Blk.below HZ0 b1) (ba9 V (ctB c Am c.mem.length capm Bp c.pl.length capp))
  have ha2 := Blk.new V (ctB c Am c.mem.length capm Bp c.pl.length capp)
  have hb2 := (bch HB0 b1).alloc (bch HB0 b1).size (ctB c Am c.mem.length capm Bp c.pl.length capp)
  have hc2 := (HC0.below b1).below (ba9 V (ctB c Am c.mem.length capm Bp c.pl.length capp))
  have hrm2 := hrm.below (ba9 V (ctB c Am c.mem.length capm Bp c.pl.length capp))
  have hrp2 := hrp.below (ba9 V (ctB c Am c.mem.length capm Bp c.pl.length capp))
  have hga : W1.heap.size ≤ V.heap.size := b1.size
  have hl1 : ∀ g, (Value.slice Am c.mem.length capm).ownBlock = some g → g < V.heap.size := fun g h => (hrm.lt g h).2
  have hl2 : ∀ g, (Value.slice Bp c.pl.length capp).ownBlock = some g → g < V.heap.size := fun g h => (hrp.lt g h).2
  obtain ⟨W2, hW2⟩ : ∃ W, V.alloc (ctB c Am c.mem.length capm Bp c.pl.length capp) = W := ⟨_, rfl⟩
  rw [hW2] at hx2 hz2 ha2 hb2 hc2 hrm2 hrp2
  rw [hW2]
  clear hW2 hrm hrp b1 HX0 HZ0 HB0 HC0
  generalize V.heap.size = ga at *
  generalize W1.heap.size = bs1 at *
  have HS1 := Lib.hid hs1; clear hs1
  have HX2 := Lib.hid hx2; clear hx2
  have HZ2 := Lib.hid hz2; clear hz2
  have HA := Lib.hid ha2; clear ha2
  have HB2 := Lib.hid hb2; clear hb2
  have HC2 := Lib.hid hc2; clear hc2
  have HRM := Lib.hid hrm2; clear hrm2
  have HRP := Lib.hid hrp2; clear hrp2
  have HL1 := Lib.hid hl1; clear hl1
  have HL2 := Lib.hid hl2; clear hl2
  have HGA := Lib.hid hga; clear hga
  have HNE := Lib.hid hne; clear hne
  have HJ0 : Hid (joinC c x b = if (¬ RightC c ∨ x < 1 ∨ 100 < x ∨ (b ≠ 1 ∧ b ≠ 2) ∨ 0 ≤ memI c.mem x) then (c, 1) else if binB c.level b = false then (c, 22) else if 8 ≤ c.mem.length then (c, 50) else (⟨c.level, insM c.mem (x, b), c.pl⟩, 0)) := by
    show _ = _; unfold joinC
    have e : isMem c.mem x ↔ 0 ≤ memI c.mem x := ⟨fun h => Int.not_lt.1 (fun h2 => memI_no.1 h2 h), fun h => Classical.byContradiction fun h2 => by have := memI_no.2 h2; omega⟩
    simp only [e]
  have HR : Hid (rightC c = decide (RightC c)) := rfl
  have z0 := Blk.cell HX2.out 0
  have z1 := Blk.cell HX2.out 1
  have z2 := Blk.cell HX2.out 2
  simp only [List.getElem?_toArray, List.getElem?_cons_zero, List.getElem?_cons_succ] at z0 z1 z2
  have q := refright9_any c A B n cap m cm W2 HC2.out
  go_wp2_with fail
  ((with_reducible refine q.mono ?_); rintro e V3 ⟨rfl, b3⟩)
  clear q z0 z1 z2
  have hz := Blk.below HX2.out b3
  have z0 := Blk.cell hz 0
  have z1 := Blk.cell hz 1
  have z2 := Blk.cell hz 2
  simp only [List.getElem?_toArray, List.getElem?_cons_zero, List.getElem?_cons_succ] at z0 z1 z2
  have q := refmember_any c A B n cap m cm x V3 (HC2.out.below b3).1
  have HB3 := Lib.hid b3; clear b3
  obtain ⟨JQ, hJQ⟩ : ∃ Q : Bool, Q = decide (¬ RightC c ∨ x < 1 ∨ 100 < x ∨ (b ≠ 1 ∧ b ≠ 2) ∨ 0 ≤ memI c.mem x) := ⟨_, rfl⟩
  have HJQ : Hid (JQ = true ↔ (¬ RightC c ∨ x < 1 ∨ 100 < x ∨ (b ≠ 1 ∧ b ≠ 2) ∨ 0 ≤ memI c.mem x)) := by show _ ↔ _; rw [hJQ]; exact decide_eq_true_iff
  have HJ1 : Hid (joinC c x b = if JQ = true then (c, 1) else if binB c.level b = false then (c, 22) else if 8 ≤ c.mem.length then (c, 50) else (⟨c.level, insM c.mem (x, b), c.pl⟩, 0)) := by
    show _ = _; rw [HJ0.out]
    by_cases hq : (¬ RightC c ∨ x < 1 ∨ 100 < x ∨ (b ≠ 1 ∧ b ≠ 2) ∨ 0 ≤ memI c.mem x)
    · rw [if_pos hq, if_pos (by rw [hJQ]; exact decide_eq_true hq)]
    · have hq2 : ¬ JQ = true := fun h => hq (by rw [hJQ] at h; exact of_decide_eq_true h)
      rw [if_neg hq, if_neg hq2]
  clear hJQ HJ0
  generalize memI c.mem x = mt at *
  go_upto_region 3 with fail
  go_cut [9, 16] (fun r s wx => (∃ p0 : Bool, r = .bool p0) ∧ ∃ p : Bool, s = .bool p ∧ Hid (p = true ↔ JQ = true) ∧ Hid (Below V3.heap.size V3 wx))
  case first =>
    cases hr : rightC c with
    | false =>
      have HP : Hid (JQ = true) := HJQ.out.2 (.inl (by rw [HR.out] at hr; simpa using hr))
      go_wp2_with fail
      go_meet
      exact ⟨⟨_, rfl⟩, true, rfl, ⟨fun _ => HP.out, fun _ => rfl⟩, Below.refl _ _⟩
    | true =>
      have HRC : Hid (RightC c) := by show RightC c; rw [HR.out] at hr; simpa using hr
      by_cases h1 : x < 1
      · have HP : Hid (JQ = true) := HJQ.out.2 <| .inr (.inl h1)
        go_wp2_with fail
        go_meet
        exact ⟨⟨_, rfl⟩, true, rfl, ⟨fun _ => HP.out, fun _ => rfl⟩, Below.refl _ _⟩
      · have h1' : 1 ≤ x := by omega
        by_cases h2 : 100 < x
        · have HP : Hid (JQ = true) := HJQ.out.2 <| .inr (.inr (.inl h2))
          go_wp2_with fail
          go_meet
          exact ⟨⟨_, rfl⟩, true, rfl, ⟨fun _ => HP.out, fun _ => rfl⟩, Below.refl _ _⟩
        · have h2' : x ≤ 100 := by omega
          by_cases h3 : b ≠ 1 ∧ b ≠ 2
          · have HP : Hid (JQ = true) := HJQ.out.2 <| .inr (.inr (.inr (.inl h3)))
            have e1 : (b != 1) = true := by simpa using h3.1
            have e2 : (b != 2) = true := by simpa using h3.2
            clear h3
            go_wp2_with fail
            go_meet
            exact ⟨⟨_, rfl⟩, true, rfl, ⟨fun _ => HP.out, fun _ => rfl⟩, Below.refl _ _⟩
          · have HN : Hid (0 ≤ mt ↔ JQ = true) := by
              refine Iff.trans ?_ HJQ.out.symm
              exact ⟨fun h => .inr (.inr (.inr (.inr h))), fun h => by
                rcases h with h | h | h | h | h
                · exact absurd HRC.out h
                · exact absurd h h1
                · exact absurd h h2
                · exact absurd h h3
                · exact h⟩
            have hb12 : b = 1 ∨ b = 2 := by omega
            have d1 : decide (x < 1) = false := decide_eq_false h1
            have d2 : decide (100 < x) = false := decide_eq_false h2
            clear h1 h2 h3
            rcases hb12 with rfl | rfl
            all_goals
              go_wp2_with fail
              ((with_reducible refine q.mono ?_); rintro e V4 ⟨rfl, b4⟩)
              by_cases h4 : mt < 0
              · have HP : Hid (¬ JQ = true) := fun h => by have := HN.out.2 h; omega
                have h4i : decide ((0 : Int) ≤ mt) = false := decide_eq_false (by omega)
                go_wp2_with fail
                go_meet
                exact ⟨⟨_, rfl⟩, false, rfl, ⟨fun h => (by cases h), fun h => absurd h HP.out⟩, b4⟩
              · have HP : Hid (JQ = true) := HN.out.1 (by omega)
                have h4i : (0 : Int) ≤ mt := by omega
                clear h4
                go_wp2_with fail
                go_meet
                exact ⟨⟨_, rfl⟩, true, rfl, ⟨fun _ => HP.out, fun _ => rfl⟩, b4⟩
  case rest =>
    obtain ⟨⟨p0, rfl⟩, p, rfl, HPQ, hb4⟩ := hcut
    have HB4 := Lib.hid (bch HB3.out hb4.out)
    clear hb4 q z0 z1 z2 hz
    cases p with
    | true =>
      have HE : Hid (joinC c x b = (c, 1)) := by show _ = _; rw [HJ1.out, if_pos (HPQ.out.1 rfl)]
      clear HJ1 HPQ HJQ HR
      have ha_ := (Blk.below HA.out HB4.out)
      have hz_ := (Blk.below HZ2.out HB4.out)
      have a0 := Blk.cell ha_ 0
      have a1 := Blk.cell ha_ 1
      have a2 := Blk.cell ha_ 2
      have x0 := Blk.cell hz_ 0
      have x1 := Blk.cell hz_ 1
      have x2 := Blk.cell hz_ 2
      simp only [List.getElem?_toArray, List.getElem?_cons_zero, List.getElem?_cons_succ] at a0 a1 a2 x0 x1 x2
      have f0 := Blk.frozen hz_ 0
      have f1 := Blk.frozen hz_ 1
      have f2 := Blk.frozen hz_ 2
      have hz3 := Blk.set (Blk.set (Blk.set hz_ 0 (.int .i64 c.level) #[.int .i64 c.level, .slice none 0 0, .slice none 0 0] rfl) 1 (.slice Am c.mem.length capm) #[.int .i64 c.level, .slice Am c.mem.length capm, .slice none 0 0] rfl) 2 (.slice Bp c.pl.length capp) #[.int .i64 c.level, .slice Am c.mem.length capm, .slice Bp c.pl.length capp] rfl
      have hb3_ := (((bch HB2.out HB4.out).setCell (p := ⟨w.heap.size + 1, 0, none⟩) (Nat.le_succ _) (.int .i64 c.level)).setCell (p := ⟨w.heap.size + 1, 1, none⟩) (Nat.le_succ _) (.slice Am c.mem.length capm)).setCell (p := ⟨w.heap.size + 1, 2, none⟩) (Nat.le_succ _) (.slice Bp c.pl.length capp)
      have hrm3 := ((RowG.farB (j := 0) (RowG.below HRM.out HB4.out) HS1.out (.int .i64 c.level)).farB (j := 1) HS1.out (.slice Am c.mem.length capm)).farB (j := 2) HS1.out (.slice Bp c.pl.length capp)
      have hrp3 := ((RowG.farB (j := 0) (RowG.below HRP.out HB4.out) HS1.out (.int .i64 c.level)).farB (j := 1) HS1.out (.slice Am c.mem.length capm)).farB (j := 2) HS1.out (.slice Bp c.pl.length capp)
      have HZ3 := Lib.hid hz3; clear hz3
      have HIM := Lib.hid (hrm3.mono (base2 := w.heap.size) (by have := HS1.out; omega)); have HIP := Lib.hid (hrp3.mono (base2 := w.heap.size) (by have := HS1.out; omega)); have HB3_ := Lib.hid hb3_
      clear hrm3 hrp3 hb3_ hz_ ha_
      go_wp2_with fail
      have e0 := Blk.cell HZ3.out 0
      have e1 := Blk.cell HZ3.out 1
      have e2 := Blk.cell HZ3.out 2
      simp only [List.getElem?_toArray, List.getElem?_cons_zero, List.getElem?_cons_succ] at e0 e1 e2
      refine bodyPost_ret (v := .tuple #[.agg #[.int .i64 c.level, .slice Am c.mem.length capm, .slice Bp c.pl.length capp], .int .i64 1]) (by simp [results, Try.results23, go_sem, e0, e1, e2]) rfl ?_
      rw [HE.out]
      exact ⟨Am, c.mem.length, capm, Bp, c.pl.length, capp, rfl, HIM.out, HIP.out, HNE.out, HB3_.out⟩
    | false =>
      have HNJ : Hid (¬ JQ = true) := fun h => by have := HPQ.out.2 h; cases this
      have q := fun W => refbin_any c.level b W
      have hz := Blk.below HX2.out HB4.out
      have z0 := Blk.cell hz 0
      have z1 := Blk.cell hz 1
      simp only [List.getElem?_toArray, List.getElem?_cons_zero, List.getElem?_cons_succ] at z0 z1
      have HRC : Hid (RightC c) := by
        show RightC c
        exact Classical.byContradiction fun h => HNJ.out (HJQ.out.2 (.inl h))
      have HJ2 : Hid (joinC c x b = if binB c.level b = false then (c, 22) else if 8 ≤ c.mem.length then (c, 50) else (⟨c.level, insM c.mem (x, b), c.pl⟩, 0)) := by show _ = _; rw [HJ1.out, if_neg HNJ.out]
      clear HJ1 HPQ HJQ HNJ HR hz
      generalize hbb : binB c.level b = bb at *
      clear hbb
      have q := q wc
      go_wp2_with fail
      ((with_reducible refine q.mono ?_); rintro e V5 ⟨rfl, rfl⟩)
      clear q
      cases bb with
      | false =>
        have HE : Hid (joinC c x b = (c, 22)) := by show _ = _; rw [HJ2.out, if_pos rfl]
        clear HJ2 HRC
        have ha_ := (Blk.below HA.out HB4.out)
        have hz_ := (Blk.below HZ2.out HB4.out)
        have a0 := Blk.cell ha_ 0
        have a1 := Blk.cell ha_ 1
        have a2 := Blk.cell ha_ 2
        have x0 := Blk.cell hz_ 0
        have x1 := Blk.cell hz_ 1
        have x2 := Blk.cell hz_ 2
        simp only [List.getElem?_toArray, List.getElem?_cons_zero, List.getElem?_cons_succ] at a0 a1 a2 x0 x1 x2
        have f0 := Blk.frozen hz_ 0
        have f1 := Blk.frozen hz_ 1
        have f2 := Blk.frozen hz_ 2
        have hz3 := Blk.set (Blk.set (Blk.set hz_ 0 (.int .i64 c.level) #[.int .i64 c.level, .slice none 0 0, .slice none 0 0] rfl) 1 (.slice Am c.mem.length capm) #[.int .i64 c.level, .slice Am c.mem.length capm, .slice none 0 0] rfl) 2 (.slice Bp c.pl.length capp) #[.int .i64 c.level, .slice Am c.mem.length capm, .slice Bp c.pl.length capp] rfl
        have hb3_ := (((bch HB2.out HB4.out).setCell (p := ⟨w.heap.size + 1, 0, none⟩) (Nat.le_succ _) (.int .i64 c.level)).setCell (p := ⟨w.heap.size + 1, 1, none⟩) (Nat.le_succ _) (.slice Am c.mem.length capm)).setCell (p := ⟨w.heap.size + 1, 2, none⟩) (Nat.le_succ _) (.slice Bp c.pl.length capp)
        have hrm3 := ((RowG.farB (j := 0) (RowG.below HRM.out HB4.out) HS1.out (.int .i64 c.level)).farB (j := 1) HS1.out (.slice Am c.mem.length capm)).farB (j := 2) HS1.out (.slice Bp c.pl.length capp)
        have hrp3 := ((RowG.farB (j := 0) (RowG.below HRP.out HB4.out) HS1.out (.int .i64 c.level)).farB (j := 1) HS1.out (.slice Am c.mem.length capm)).farB (j := 2) HS1.out (.slice Bp c.pl.length capp)
        have HZ3 := Lib.hid hz3; clear hz3
        have HIM := Lib.hid (hrm3.mono (base2 := w.heap.size) (by have := HS1.out; omega)); have HIP := Lib.hid (hrp3.mono (base2 := w.heap.size) (by have := HS1.out; omega)); have HB3_ := Lib.hid hb3_
        clear hrm3 hrp3 hb3_ hz_ ha_
        go_wp2_with fail
        have e0 := Blk.cell HZ3.out 0
        have e1 := Blk.cell HZ3.out 1
        have e2 := Blk.cell HZ3.out 2
        simp only [List.getElem?_toArray, List.getElem?_cons_zero, List.getElem?_cons_succ] at e0 e1 e2
        refine bodyPost_ret (v := .tuple #[.agg #[.int .i64 c.level, .slice Am c.mem.length capm, .slice Bp c.pl.length capp], .int .i64 22]) (by simp [results, Try.results23, go_sem, e0, e1, e2]) rfl ?_
        rw [HE.out]
        exact ⟨Am, c.mem.length, capm, Bp, c.pl.length, capp, rfl, HIM.out, HIP.out, HNE.out, HB3_.out⟩
      | true =>
        have HN0 : Hid (n = c.mem.length) := HCC.out
        by_cases h8 : 8 ≤ n
        · have HE : Hid (joinC c x b = (c, 50)) := by show _ = _; rw [HJ2.out, if_neg (by simp), if_pos (by have := HN0.out; omega)]
          have h8i : (8 : Int) ≤ (n : Int) := by omega
          clear HJ2 HRC
          have ha_ := (Blk.below HA.out HB4.out)
          have hz_ := (Blk.below HZ2.out HB4.out)
          have a0 := Blk.cell ha_ 0
          have a1 := Blk.cell ha_ 1
          have a2 := Blk.cell ha_ 2
          have x0 := Blk.cell hz_ 0
          have x1 := Blk.cell hz_ 1
          have x2 := Blk.cell hz_ 2
          simp only [List.getElem?_toArray, List.getElem?_cons_zero, List.getElem?_cons_succ] at a0 a1 a2 x0 x1 x2
          have f0 := Blk.frozen hz_ 0
          have f1 := Blk.frozen hz_ 1
          have f2 := Blk.frozen hz_ 2
          have hz3 := Blk.set (Blk.set (Blk.set hz_ 0 (.int .i64 c.level) #[.int .i64 c.level, .slice none 0 0, .slice none 0 0] rfl) 1 (.slice Am c.mem.length capm) #[.int .i64 c.level, .slice Am c.mem.length capm, .slice none 0 0] rfl) 2 (.slice Bp c.pl.length capp) #[.int .i64 c.level, .slice Am c.mem.length capm, .slice Bp c.pl.length capp] rfl
          have hb3_ := (((bch HB2.out HB4.out).setCell (p := ⟨w.heap.size + 1, 0, none⟩) (Nat.le_succ _) (.int .i64 c.level)).setCell (p := ⟨w.heap.size + 1, 1, none⟩) (Nat.le_succ _) (.slice Am c.mem.length capm)).setCell (p := ⟨w.heap.size + 1, 2, none⟩) (Nat.le_succ _) (.slice Bp c.pl.length capp)
          have hrm3 := ((RowG.farB (j := 0) (RowG.below HRM.out HB4.out) HS1.out (.int .i64 c.level)).farB (j := 1) HS1.out (.slice Am c.mem.length capm)).farB (j := 2) HS1.out (.slice Bp c.pl.length capp)
          have hrp3 := ((RowG.farB (j := 0) (RowG.below HRP.out HB4.out) HS1.out (.int .i64 c.level)).farB (j := 1) HS1.out (.slice Am c.mem.length capm)).farB (j := 2) HS1.out (.slice Bp c.pl.length capp)
          have HZ3 := Lib.hid hz3; clear hz3
          have HIM := Lib.hid (hrm3.mono (base2 := w.heap.size) (by have := HS1.out; omega)); have HIP := Lib.hid (hrp3.mono (base2 := w.heap.size) (by have := HS1.out; omega)); have HB3_ := Lib.hid hb3_
          clear hrm3 hrp3 hb3_ hz_ ha_
          go_wp2_with fail
          have e0 := Blk.cell HZ3.out 0
          have e1 := Blk.cell HZ3.out 1
          have e2 := Blk.cell HZ3.out 2
          simp only [List.getElem?_toArray, List.getElem?_cons_zero, List.getElem?_cons_succ] at e0 e1 e2
          refine bodyPost_ret (v := .tuple #[.agg #[.int .i64 c.level, .slice Am c.mem.length capm, .slice Bp c.pl.length capp], .int .i64 50]) (by simp [results, Try.results23, go_sem, e0, e1, e2]) rfl ?_
          rw [HE.out]
          exact ⟨Am, c.mem.length, capm, Bp, c.pl.length, capp, rfl, HIM.out, HIP.out, HNE.out, HB3_.out⟩
        · have HE : Hid (joinC c x b = (⟨c.level, insM c.mem (x, b), c.pl⟩, 0)) := by show _ = _; rw [HJ2.out, if_neg (by simp), if_neg (by have := HN0.out; omega)]
          have h8i : (n : Int) < (8 : Int) := by omega
          clear HJ2
          have hA9 := Blk.below HA.out HB4.out
          have g1 := Blk.cell hA9 1
          simp only [List.getElem?_toArray, List.getElem?_cons_zero, List.getElem?_cons_succ] at g1
          have gf := Blk.frozen hA9 1
          have hP9 := HRP.out.below HB4.out
          have hX9 := Blk.below HX2.out HB4.out
          have hZ9 := Blk.below HZ2.out HB4.out
          have hB9 := bch HB2.out HB4.out
          have HGX : Hid (w.heap.size ≠ ga) := by show _ ≠ _; have := HS1.out; have := HGA.out; omega
          have HGZ : Hid (w.heap.size + 1 ≠ ga) := by show _ ≠ _; have := HS1.out; have := HGA.out; omega
          have HGL : Hid (w.heap.size ≤ ga) := by show _ ≤ _; have := HS1.out; have := HGA.out; omega
          have HBS : Hid (ga < wc.heap.size ∧ True ∧ w.heap.size < wc.heap.size ∧ w.heap.size + 1 < wc.heap.size) := ⟨Blk.lt hA9, trivial, Blk.lt hX9, Blk.lt hZ9⟩
          have hA10 := Blk.set hA9 1 (.slice none 0 0) #[.int .i64 c.level, .slice none 0 0, .slice Bp c.pl.length capp] rfl
          have hP10 := hP9.far (g := ga) (j := 1) (fun e => Nat.lt_irrefl _ (HL2.out _ e)) (.slice none 0 0)
          have hX10 := Blk.far hX9 HGX.out 1 (.slice none 0 0)
          have hZ10 := Blk.far hZ9 HGZ.out 1 (.slice none 0 0)
          have hB10 := hB9.setCell (p := ⟨ga, 1, none⟩) HGL.out (.slice none 0 0)
          have hS10 : wc.heap.size ≤ (wc.setCell ⟨ga, 1, none⟩ (.slice none 0 0)).heap.size := by rw [World.size_setCell]; exact Nat.le_refl _
          have HA1 := Lib.hid hA10; have HP1 := Lib.hid hP10; have HX1 := Lib.hid hX10; have HZ1 := Lib.hid hZ10; have HB1 := Lib.hid hB10; have HS10 := Lib.hid hS10
          clear hA9 hP9 hX9 hZ9 hB9 hA10 hP10 hX10 hZ10 hB10 hS10 HA HRM HRP HX2 HZ2 HB2 HB3 HB4 HC2
          generalize hbs2 : wc.heap.size = bs2 at *
          clear hbs2
          have HROW1 : Hid (RowG s2 45 (wc.setCell ⟨ga, 1, none⟩ (.slice none 0 0)) bs2 (.slice none 0 0) (jacM c.mem (x, b) 0)) := rowG_nil _ _
          clear z0
          go_wp2_with fail
          go_loopw [10, 11] (fun d i wr => ∃ k : Nat, k ≤ n ∧ i = .int .i64 k ∧ d = .bool (jdnM c.mem x k) ∧ ∃ A1 l1 c1, Hid (l1 = (jacM c.mem (x, b) k).length) ∧ Hid (Blk wr ga (.cells #[.int .i64 c.level, .slice A1 l1 c1, .slice Bp c.pl.length capp] 26)) ∧ Hid (RowG s2 45 wr bs2 (.slice A1 l1 c1) (jacM c.mem (x, b) k)) ∧ Hid (RowG s3 48 wr bs1 (.slice Bp c.pl.length capp) c.pl) ∧ Hid (Blk wr w.heap.size (ctB c A n cap B m cm)) ∧ Hid (Blk wr (w.heap.size + 1) (.cells #[.int .i64 0, .slice none 0 0, .slice none 0 0] 26)) ∧ Hid (Below w.heap.size w wr ∧ bs2 ≤ wr.heap.size)) (fun _ i _ => n - (intOf i).toNat)
          case atStart => exact ⟨0, Nat.zero_le _, rfl, rfl, none, 0, 0, rfl, HA1.out, HROW1.out, HP1.out, HX1.out, HZ1.out, HB1.out, HS10.out⟩
          case round =>
            clear HA1 HROW1 HP1 HX1 HZ1 HB1 HS10 z1 g1 gf
            obtain ⟨k, hk, rfl, rfl, A1, l1, c1, HLN, HA, HROW, HRP, HX, HZ, HB⟩ := hrel
            have z1 := Blk.cell HX.out 1
            simp only [List.getElem?_toArray, List.getElem?_cons_zero, List.getElem?_cons_succ] at z1
            have HLX : Hid ((jacM c.mem (x, b) k).length ≤ 19) := by show _ ≤ _; have := jacM_len (l := c.mem) (x := (x, b)) k; omega
            have HLL : Hid ((jacM c.mem (x, b) k).length ≤ 20) := by show _ ≤ _; have := jacM_len (l := c.mem) (x := (x, b)) k; omega
            by_cases hlt : k < n
            · have HK : Hid (k < c.mem.length) := by show k < _; rw [← HN0.out]; exact hlt
              have hki : (k : Int) < (n : Int) := by omega
              have HI := Lib.hid (HC00.out.below HB.out.1).1
              have HGK : Hid (c.mem[k]? = some (atM9 c.mem k)) := atM9_get HK.out
              obtain ⟨b2, off, hA, hb2, y0, y1⟩ := is2_at HI.out HGK.out
              subst hA
              have HBM : Hid (b2 < bs2) := by
                obtain ⟨b_, off_, hA_, hb_, _, _⟩ := is2_at HC00.out.1 HGK.out
                cases hA_
                exact Nat.lt_trans hb_ HBS.out.2.2.1
              have hj1 := fun h => jacM_done (x := (x, b)) HK.out h
              have hj2 := fun h => jacM_here (x := (x, b)) HK.out h
              have hj3 := fun h => jacM_not (x := (x, b)) HK.out h
              simp only [← atM9_def] at hj1 hj2 hj3
              generalize atM9 c.mem k = pk at *
              obtain ⟨nm, nb⟩ := pk
              simp only at y0 y1 hj2 hj3
              generalize hL : jacM c.mem (x, b) k = L at *
              clear hL
              cases hd : jdnM c.mem x k with
              | true =>
                have HJ := Lib.hid (hj1 hd)
                clear hj1 hj2 hj3 hd y0 y1 hb2
                go_upto_region 17 with fail
                refine wp_region_noPanic ?_
                refine wp_region_till (S := (fun W_ => IsG s2 W_ (some ⟨b2, off, none⟩) n c.mem ∧ Blk W_ w.heap.size (ctB c (some ⟨b2, off, none⟩) n cap B m cm) ∧ Blk W_ ga (.cells #[.int .i64 c.level, .slice A1 l1 c1, .slice Bp c.pl.length capp] 26))) [10] (by kernel_rfl) (⟨HI.out.drew, HX.out.drew, HA.out.drew⟩) (fun hHeld => ?_)
                refine wpTill_take (i := 0) (v := ?_) rfl (by kernel_rfl) (by kernel_rfl) (by kernel_rfl) (by kernel_rfl) (fun _ _ _ h => h) (Or.inl ⟨by rfl, ?_⟩) (by assumption) ?_
                rotate_left
                · (intro w hSw; (try dsimp only at hSw); go_simp; (try with_reducible rfl))
                simp only [Act.put, List.getElem_toArray, List.getElem_cons_zero, List.setIfInBounds_toArray, List.set_cons_zero, List.set_cons_succ]
                refine wpTill_take (i := 1) (v := ?_) rfl (by kernel_rfl) (by kernel_rfl) (by kernel_rfl) (by kernel_rfl) (fun _ _ _ h => h) (Or.inl ⟨by rfl, ?_⟩) (by assumption) ?_
                rotate_left
                · (intro w hSw; (try dsimp only at hSw); (have v0 := Blk.cell hSw.2.2 1); simp only [List.getElem?_toArray, List.getElem?_cons_zero, List.getElem?_cons_succ] at v0; go_simp; (try with_reducible rfl))
                simp only [Act.put, List.getElem_toArray, List.getElem_cons_zero, List.getElem_cons_succ, List.setIfInBounds_toArray, List.set_cons_zero, List.set_cons_succ]
                refine wpTill_take (i := 2) (v := ?_) rfl (by kernel_rfl) (by kernel_rfl) (by kernel_rfl) (by kernel_rfl) (fun _ _ _ h => h) (Or.inl ⟨by rfl, ?_⟩) (by assumption) ?_
                rotate_left
                · (intro w hSw; (try dsimp only at hSw); go_simp; (try with_reducible rfl))
                simp only [Act.put, List.getElem_toArray, List.getElem_cons_zero, List.getElem_cons_succ, List.setIfInBounds_toArray, List.set_cons_zero, List.set_cons_succ]
                refine wpTill_take (i := 3) (v := ?_) rfl (by kernel_rfl) (by kernel_rfl) (by kernel_rfl) (by kernel_rfl) (fun _ _ _ h => h) (Or.inl ⟨by rfl, ?_⟩) (by assumption) ?_
                rotate_left
                · (intro w hSw; (try dsimp only at hSw); (have v0 := Blk.cell hSw.2.1 1); simp only [List.getElem?_toArray, List.getElem?_cons_zero, List.getElem?_cons_succ] at v0; go_simp; (try with_reducible rfl))
                simp only [Act.put, List.getElem_toArray, List.getElem_cons_zero, List.getElem_cons_succ, List.setIfInBounds_toArray, List.set_cons_zero, List.set_cons_succ]
                refine wpTill_take (i := 4) (v := ?_) rfl (by kernel_rfl) (by kernel_rfl) (by kernel_rfl) (by kernel_rfl) (fun _ _ _ h => h) (Or.inl ⟨by rfl, ?_⟩) (by assumption) ?_
                rotate_left
                · (intro w hSw; (try dsimp only at hSw); go_simp; (try with_reducible rfl))
                simp only [Act.put, List.getElem_toArray, List.getElem_cons_zero, List.getElem_cons_succ, List.setIfInBounds_toArray, List.set_cons_zero, List.set_cons_succ]
                refine wpTill_take (i := 5) (v := ?_) rfl (by kernel_rfl) (by kernel_rfl) (by kernel_rfl) (by kernel_rfl) (fun _ _ _ h => h) (Or.inl ⟨by rfl, ?_⟩) (by assumption) ?_
                rotate_left
                · (intro w hSw; (try dsimp only at hSw); go_simp; (try with_reducible rfl))
                simp only [Act.put, List.getElem_toArray, List.getElem_cons_zero, List.getElem_cons_succ, List.setIfInBounds_toArray, List.set_cons_zero, List.set_cons_succ]
                refine wpTill_take (i := 6) (v := ?_) rfl (by kernel_rfl) (by kernel_rfl) (by kernel_rfl) (by kernel_rfl) (fun _ _ _ h => h) (Or.inl ⟨by rfl, ?_⟩) (by assumption) ?_
                rotate_left
                · (intro w hSw; (try dsimp only at hSw); (obtain ⟨b_, off_, hA_, _, v0, v1⟩ := is2_at hSw.1 HGK.out); cases hA_; simp only at v0 v1; go_simp; (try with_reducible rfl))
                simp only [Act.put, List.getElem_toArray, List.getElem_cons_zero, List.getElem_cons_succ, List.setIfInBounds_toArray, List.set_cons_zero, List.set_cons_succ]
                refine wpTill_ready (rs := [7]) (by kernel_rfl) (by simp) ?_
                refine AllReadyT.cons rfl (fun K hK => ?_) AllReadyT.nil
                rw [if_pos (by rfl)]
                go_simp
                have hba := ba9 wr.drew (.cells #[.int .i64 nm, .int .i64 nb] 45)
                have hr2 := (rowG_drew HROW.out).below hba
                have HA2 := Lib.hid (Blk.below HA.out.drew hba)
                have HX2 := Lib.hid (Blk.below HX.out.drew hba)
                have HZ2 := Lib.hid (Blk.below HZ.out.drew hba)
                have HRP2 := Lib.hid ((rowG_drew HRP.out).below hba)
                have HB2 : Hid (Below w.heap.size w (wr.drew.alloc (.cells #[.int .i64 nm, .int .i64 nb] 45)) ∧ w.heap.size ≤ (wr.drew.alloc (.cells #[.int .i64 nm, .int .i64 nb] 45)).heap.size ∧ bs2 ≤ (wr.drew.alloc (.cells #[.int .i64 nm, .int .i64 nb] 45)).heap.size) := ⟨HB.out.1.drew.alloc HB.out.1.drew.size (.cells #[.int .i64 nm, .int .i64 nb] 45), by have := HB.out.1.size; rw [World.size_alloc]; exact Nat.le_succ_of_le this, by have := HB.out.2; rw [World.size_alloc]; exact Nat.le_succ_of_le this⟩
                refine hK.out _ _ ⟨IsG.below hHeld.1 hba, HX2.out, HA2.out⟩ (fun hHeld2 => ?_)
                clear hK K hHeld
                have hHeld := hHeld2; clear hHeld2
                refine wpTill_ready (rs := [8]) (by kernel_rfl) (by simp) ?_
                refine AllReadyT.cons rfl (fun K hK => ?_) AllReadyT.nil
                rw [if_pos (by rfl)]
                refine wp_append_g (S := s2) (T := 45) Try.underlying23 infoM rfl _ _ rfl bs2 _ L rfl hr2 _ 1 1 [(nm, nb)] rfl (isG_one (S := s2) wr.drew (nm, nb) _) (by unfold maxLen; have := HLL.out; omega) (by have := HLL.out; omega) HB2.out.2.2 ?_
                intro v8 V8 hr8 hg8 _
                have hfar : ∀ g, g < bs2 → some g ≠ (Value.slice A1 l1 c1).ownBlock := fun g hg e => by have := (hr2.lt g e.symm).1; omega
                have hA8 := Blk.kept HA2.out hg8 (hfar ga HBS.out.1)
                have hx8 := Blk.kept HX2.out hg8 (hfar w.heap.size HBS.out.2.2.1)
                have hz8 := Blk.kept HZ2.out hg8 (hfar (w.heap.size + 1) HBS.out.2.2.2)
                have hp8 : RowG s3 48 V8 bs1 (.slice Bp c.pl.length capp) c.pl := by
                  refine World.ownsRow.kept HRP2.out hg8 ?_
                  cases hob : (Value.slice Bp c.pl.length capp).ownBlock with
                  | none => exact .inl rfl
                  | some g => exact .inr (hfar g (Nat.lt_trans (HL2.out g hob) HBS.out.1))
                have hb8 := HB2.out.1.grown hg8 HB2.out.2.1 (fun g hg => Nat.le_trans (Nat.le_trans (Nat.le_succ _) (Nat.le_of_lt HBS.out.2.2.2)) (by have := (hr2.lt g hg).1; omega))
                have hs8 : bs2 ≤ V8.heap.size := Nat.le_trans HB2.out.2.2 hg8.size
                obtain ⟨A8, cap8, hv8, _, _⟩ := hr8.parts
                have hln : (L ++ [(nm, nb)]).length = l1 + 1 := by rw [List.length_append, HLN.out]; rfl
                rw [hln] at hv8
                subst hv8
                refine hK.out _ _ ⟨IsG.kept hHeld.1 hg8 (fun _ b_ off_ e => by cases e; exact hfar b2 HBM.out), hx8, hA8⟩ (fun hHeld2 => ?_)
                clear hK K hHeld
                have hHeld := hHeld2; clear hHeld2
                refine wpTill_take (i := 9) (v := ?_) rfl (by kernel_rfl) (by kernel_rfl) (by kernel_rfl) (by kernel_rfl) (fun _ _ _ h => h) (Or.inl ⟨by rfl, ?_⟩) (by assumption) ?_
                rotate_left
                · (intro w hSw; (try dsimp only at hSw); go_simp; (try with_reducible rfl))
                simp only [Act.put, List.getElem_toArray, List.getElem_cons_zero, List.getElem_cons_succ, List.setIfInBounds_toArray, List.set_cons_zero, List.set_cons_succ]
                clear HA HROW HRP HX HZ HB
                have HA := Lib.hid (Blk.set hA8 1 (.slice A8 (l1 + 1) cap8) #[.int .i64 c.level, .slice A8 (l1 + 1) cap8, .slice Bp c.pl.length capp] rfl)
                have HROW := Lib.hid (hr8.farB (j := 1) HBS.out.1 (.slice A8 (l1 + 1) cap8))
                have HRP := Lib.hid (hp8.far (g := ga) (j := 1) (fun e => Nat.lt_irrefl _ (HL2.out _ e)) (.slice A8 (l1 + 1) cap8))
                have HX := Lib.hid (Blk.far hx8 HGX.out 1 (.slice A8 (l1 + 1) cap8))
                have HZ := Lib.hid (Blk.far hz8 HGZ.out 1 (.slice A8 (l1 + 1) cap8))
                have HB : Hid (Below w.heap.size w (V8.setCell ⟨ga, 1, none⟩ (.slice A8 (l1 + 1) cap8)) ∧ bs2 ≤ (V8.setCell ⟨ga, 1, none⟩ (.slice A8 (l1 + 1) cap8)).heap.size) := ⟨hb8.setCell (p := ⟨ga, 1, none⟩) HGL.out (.slice A8 (l1 + 1) cap8), by rw [World.size_setCell]; exact hs8⟩
                have y8 := Blk.cell hA8 1
                simp only [List.getElem?_toArray, List.getElem?_cons_zero, List.getElem?_cons_succ] at y8
                have f8 := Blk.frozen hA8 1
                clear hr2 HA2 HX2 HZ2 HRP2 HB2 hba hg8 hfar hA8 hx8 hz8 hp8 hb8 hs8 hr8
                refine wpTill_ready (rs := [10]) (by kernel_rfl) (by simp) ?_
                refine AllReadyT.last rfl (by kernel_rfl) (fun K hK => ?_) AllReadyT.nil
                rw [if_pos (by rfl)]
                go_simp
                refine hK.out _ _ (trivial) (fun hHeld2 => ?_)
                clear hK K hHeld
                have hHeld := hHeld2; clear hHeld2
                refine wpTill_done (by kernel_rfl) ?_ _
                refine NoPanic.normal ?_
                go_wp2_with fail
                go_roundw
                case rel => exact ⟨k + 1, by omega, by go_num, by rw [HJ.out.1], A8, l1 + 1, cap8, by show _ = _; rw [HJ.out.2, hln], HA.out, by show RowG _ _ _ _ _ (jacM _ _ _); rw [HJ.out.2]; exact HROW.out, HRP.out, HX.out, HZ.out, HB.out⟩
                case measure => simp [intOf]; omega
              | false =>
                by_cases hx : x < nm
                · have HJ := Lib.hid (hj2 hd hx)
                  clear hj1 hj2 hj3 hd hb2
                  have g1 := Blk.cell HA.out 1
                  simp only [List.getElem?_toArray, List.getElem?_cons_zero, List.getElem?_cons_succ] at g1
                  have hba := ba9 wr (.cells #[.int .i64 x, .int .i64 b] 45)
                  have hr2 := HROW.out.below hba
                  have HA2 := Lib.hid (Blk.below HA.out hba)
                  have HX2 := Lib.hid (Blk.below HX.out hba)
                  have HZ2 := Lib.hid (Blk.below HZ.out hba)
                  have HRP2 := Lib.hid (HRP.out.below hba)
                  have HB2 : Hid (Below w.heap.size w (wr.alloc (.cells #[.int .i64 x, .int .i64 b] 45)) ∧ w.heap.size ≤ (wr.alloc (.cells #[.int .i64 x, .int .i64 b] 45)).heap.size ∧ bs2 ≤ (wr.alloc (.cells #[.int .i64 x, .int .i64 b] 45)).heap.size) := ⟨HB.out.1.alloc HB.out.1.size (.cells #[.int .i64 x, .int .i64 b] 45), by have := HB.out.1.size; rw [World.size_alloc]; omega, by have := HB.out.2; rw [World.size_alloc]; omega⟩
                  go_wp2_with (at_builtin; refine wpList_append_g (S := s2) (T := 45) Try.underlying23 infoM rfl rfl _ _ rfl bs2 _ L rfl hr2 _ 1 1 [(x, b)] rfl (isG_one (S := s2) wr (x, b) _) (by unfold maxLen; have := HLL.out; omega) (by have := HLL.out; omega) HB2.out.2.2 ?_)
                  intro v3 V6 hr8 hg8 _
                  have hfar : ∀ g, g < bs2 → some g ≠ (Value.slice A1 l1 c1).ownBlock := fun g hg e => by have := (hr2.lt g e.symm).1; omega
                  have hA8 := Blk.kept HA2.out hg8 (hfar ga HBS.out.1)
                  have hx8 := Blk.kept HX2.out hg8 (hfar w.heap.size HBS.out.2.2.1)
                  have hz8 := Blk.kept HZ2.out hg8 (hfar (w.heap.size + 1) HBS.out.2.2.2)
                  have hp8 : RowG s3 48 V6 bs1 (.slice Bp c.pl.length capp) c.pl := by
                    refine World.ownsRow.kept HRP2.out hg8 ?_
                    cases hob : (Value.slice Bp c.pl.length capp).ownBlock with
                    | none => exact .inl rfl
                    | some g => exact .inr (hfar g (Nat.lt_trans (HL2.out g hob) HBS.out.1))
                  have hb8 := HB2.out.1.grown hg8 HB2.out.2.1 (fun g hg => Nat.le_trans (Nat.le_trans (Nat.le_succ _) (Nat.le_of_lt HBS.out.2.2.2)) (by have := (hr2.lt g hg).1; omega))
                  have hs8 : bs2 ≤ V6.heap.size := Nat.le_trans HB2.out.2.2 hg8.size
                  obtain ⟨A3, c3, hv8, _, _⟩ := hr8.parts
                  have hln : (L ++ [(x, b)]).length = l1 + 1 := by rw [List.length_append, HLN.out]; rfl
                  rw [hln] at hv8
                  subst hv8
                  clear HA HROW HRP HX HZ HB g1
                  have HA := Lib.hid (Blk.set hA8 1 (.slice A3 (l1 + 1) c3) #[.int .i64 c.level, .slice A3 (l1 + 1) c3, .slice Bp c.pl.length capp] rfl)
                  have HROW := Lib.hid (hr8.farB (j := 1) HBS.out.1 (.slice A3 (l1 + 1) c3))
                  have HRP := Lib.hid (hp8.far (g := ga) (j := 1) (fun e => Nat.lt_irrefl _ (HL2.out _ e)) (.slice A3 (l1 + 1) c3))
                  have HX := Lib.hid (Blk.far hx8 HGX.out 1 (.slice A3 (l1 + 1) c3))
                  have HZ := Lib.hid (Blk.far hz8 HGZ.out 1 (.slice A3 (l1 + 1) c3))
                  have HB : Hid (Below w.heap.size w (V6.setCell ⟨ga, 1, none⟩ (.slice A3 (l1 + 1) c3)) ∧ bs2 ≤ (V6.setCell ⟨ga, 1, none⟩ (.slice A3 (l1 + 1) c3)).heap.size) := ⟨hb8.setCell (p := ⟨ga, 1, none⟩) HGL.out (.slice A3 (l1 + 1) c3), by rw [World.size_setCell]; exact hs8⟩
                  have HLL2 : Hid ((L ++ [(x, b)]).length ≤ 20) := by show _ ≤ _; have h9_ := HLX.out; rw [List.length_append]; exact Nat.succ_le_succ h9_
                  have HLN2 : Hid (l1 + 1 = (L ++ [(x, b)]).length) := hln.symm
                  clear HLL HLN
                  have HLL := HLL2; have HLN := HLN2; clear HLL2 HLN2
                  have y8 := Blk.cell hA8 1
                  simp only [List.getElem?_toArray, List.getElem?_cons_zero, List.getElem?_cons_succ] at y8
                  have f8 := Blk.frozen hA8 1
                  clear hr2 HA2 HX2 HZ2 HRP2 HB2 hba hg8 hfar hA8 hx8 hz8 hp8 hb8 hs8 hr8
                  go_upto_region 17 with fail
                  obtain ⟨Y, hY⟩ : ∃ Y, V6.setCell ⟨ga, 1, none⟩ (.slice A3 (l1 + 1) c3) = Y := ⟨_, rfl⟩
                  rw [hY] at HA HROW HRP HX HZ HB
                  rw [hY]
                  clear hY y0 y1 y8 f8 z1 hx
                  have HI := Lib.hid (HC00.out.below HB.out.1).1
                  refine wp_region_noPanic ?_
                  refine wp_region_till (S := (fun W_ => IsG s2 W_ (some ⟨b2, off, none⟩) n c.mem ∧ Blk W_ w.heap.size (ctB c (some ⟨b2, off, none⟩) n cap B m cm) ∧ Blk W_ ga (.cells #[.int .i64 c.level, .slice A3 (l1 + 1) c3, .slice Bp c.pl.length capp] 26))) [10] (by kernel_rfl) (⟨HI.out.drew, HX.out.drew, HA.out.drew⟩) (fun hHeld => ?_)
                  refine wpTill_take (i := 0) (v := ?_) rfl (by kernel_rfl) (by kernel_rfl) (by kernel_rfl) (by kernel_rfl) (fun _ _ _ h => h) (Or.inl ⟨by rfl, ?_⟩) (by assumption) ?_
                  rotate_left
                  · (intro w hSw; (try dsimp only at hSw); go_simp; (try with_reducible rfl))
                  simp only [Act.put, List.getElem_toArray, List.getElem_cons_zero, List.setIfInBounds_toArray, List.set_cons_zero, List.set_cons_succ]
                  refine wpTill_take (i := 1) (v := ?_) rfl (by kernel_rfl) (by kernel_rfl) (by kernel_rfl) (by kernel_rfl) (fun _ _ _ h => h) (Or.inl ⟨by rfl, ?_⟩) (by assumption) ?_
                  rotate_left
                  · (intro w hSw; (try dsimp only at hSw); (have v0 := Blk.cell hSw.2.2 1); simp only [List.getElem?_toArray, List.getElem?_cons_zero, List.getElem?_cons_succ] at v0; go_simp; (try with_reducible rfl))
                  simp only [Act.put, List.getElem_toArray, List.getElem_cons_zero, List.getElem_cons_succ, List.setIfInBounds_toArray, List.set_cons_zero, List.set_cons_succ]
                  refine wpTill_take (i := 2) (v := ?_) rfl (by kernel_rfl) (by kernel_rfl) (by kernel_rfl) (by kernel_rfl) (fun _ _ _ h => h) (Or.inl ⟨by rfl, ?_⟩) (by assumption) ?_
                  rotate_left
                  · (intro w hSw; (try dsimp only at hSw); go_simp; (try with_reducible rfl))
                  simp only [Act.put, List.getElem_toArray, List.getElem_cons_zero, List.getElem_cons_succ, List.setIfInBounds_toArray, List.set_cons_zero, List.set_cons_succ]
                  refine wpTill_take (i := 3) (v := ?_) rfl (by kernel_rfl) (by kernel_rfl) (by kernel_rfl) (by kernel_rfl) (fun _ _ _ h => h) (Or.inl ⟨by rfl, ?_⟩) (by assumption) ?_
                  rotate_left
                  · (intro w hSw; (try dsimp only at hSw); (have v0 := Blk.cell hSw.2.1 1); simp only [List.getElem?_toArray, List.getElem?_cons_zero, List.getElem?_cons_succ] at v0; go_simp; (try with_reducible rfl))
                  simp only [Act.put, List.getElem_toArray, List.getElem_cons_zero, List.getElem_cons_succ, List.setIfInBounds_toArray, List.set_cons_zero, List.set_cons_succ]
                  refine wpTill_take (i := 4) (v := ?_) rfl (by kernel_rfl) (by kernel_rfl) (by kernel_rfl) (by kernel_rfl) (fun _ _ _ h => h) (Or.inl ⟨by rfl, ?_⟩) (by assumption) ?_
                  rotate_left
                  · (intro w hSw; (try dsimp only at hSw); go_simp; (try with_reducible rfl))
                  simp only [Act.put, List.getElem_toArray, List.getElem_cons_zero, List.getElem_cons_succ, List.setIfInBounds_toArray, List.set_cons_zero, List.set_cons_succ]
                  refine wpTill_take (i := 5) (v := ?_) rfl (by kernel_rfl) (by kernel_rfl) (by kernel_rfl) (by kernel_rfl) (fun _ _ _ h => h) (Or.inl ⟨by rfl, ?_⟩) (by assumption) ?_
                  rotate_left
                  · (intro w hSw; (try dsimp only at hSw); go_simp; (try with_reducible rfl))
                  simp only [Act.put, List.getElem_toArray, List.getElem_cons_zero, List.getElem_cons_succ, List.setIfInBounds_toArray, List.set_cons_zero, List.set_cons_succ]
                  refine wpTill_take (i := 6) (v := ?_) rfl (by kernel_rfl) (by kernel_rfl) (by kernel_rfl) (by kernel_rfl) (fun _ _ _ h => h) (Or.inl ⟨by rfl, ?_⟩) (by assumption) ?_
                  rotate_left
                  · (intro w hSw; (try dsimp only at hSw); (obtain ⟨b_, off_, hA_, _, v0, v1⟩ := is2_at hSw.1 HGK.out); cases hA_; simp only at v0 v1; go_simp; (try with_reducible rfl))
                  simp only [Act.put, List.getElem_toArray, List.getElem_cons_zero, List.getElem_cons_succ, List.setIfInBounds_toArray, List.set_cons_zero, List.set_cons_succ]
                  refine wpTill_ready (rs := [7]) (by kernel_rfl) (by simp) ?_
                  refine AllReadyT.cons rfl (fun K hK => ?_) AllReadyT.nil
                  rw [if_pos (by rfl)]
                  go_simp
                  have hba := ba9 Y.drew (.cells #[.int .i64 nm, .int .i64 nb] 45)
                  have hr2 := (rowG_drew HROW.out).below hba
                  have HA2 := Lib.hid (Blk.below HA.out.drew hba)
                  have HX2 := Lib.hid (Blk.below HX.out.drew hba)
                  have HZ2 := Lib.hid (Blk.below HZ.out.drew hba)
                  have HRP2 := Lib.hid ((rowG_drew HRP.out).below hba)
                  have HB2 : Hid (Below w.heap.size w (Y.drew.alloc (.cells #[.int .i64 nm, .int .i64 nb] 45)) ∧ w.heap.size ≤ (Y.drew.alloc (.cells #[.int .i64 nm, .int .i64 nb] 45)).heap.size ∧ bs2 ≤ (Y.drew.alloc (.cells #[.int .i64 nm, .int .i64 nb] 45)).heap.size) := ⟨HB.out.1.drew.alloc HB.out.1.drew.size (.cells #[.int .i64 nm, .int .i64 nb] 45), by have := HB.out.1.size; rw [World.size_alloc]; exact Nat.le_succ_of_le this, by have := HB.out.2; rw [World.size_alloc]; exact Nat.le_succ_of_le this⟩
                  refine hK.out _ _ ⟨IsG.below hHeld.1 hba, HX2.out, HA2.out⟩ (fun hHeld2 => ?_)
                  clear hK K hHeld
                  have hHeld := hHeld2; clear hHeld2
                  refine wpTill_ready (rs := [8]) (by kernel_rfl) (by simp) ?_
                  refine AllReadyT.cons rfl (fun K hK => ?_) AllReadyT.nil
                  rw [if_pos (by rfl)]
                  refine wp_append_g (S := s2) (T := 45) Try.underlying23 infoM rfl _ _ rfl bs2 _ (L ++ [(x, b)]) rfl hr2 _ 1 1 [(nm, nb)] rfl (isG_one (S := s2) Y.drew (nm, nb) _) (by unfold maxLen; have := HLL.out; omega) (by have := HLL.out; omega) HB2.out.2.2 ?_
                  intro v8 V8 hr8 hg8 _
                  have hfar : ∀ g, g < bs2 → some g ≠ (Value.slice A3 (l1 + 1) c3).ownBlock := fun g hg e => by have := (hr2.lt g e.symm).1; omega
                  have hA8 := Blk.kept HA2.out hg8 (hfar ga HBS.out.1)
                  have hx8 := Blk.kept HX2.out hg8 (hfar w.heap.size HBS.out.2.2.1)
                  have hz8 := Blk.kept HZ2.out hg8 (hfar (w.heap.size + 1) HBS.out.2.2.2)
                  have hp8 : RowG s3 48 V8 bs1 (.slice Bp c.pl.length capp) c.pl := by
                    refine World.ownsRow.kept HRP2.out hg8 ?_
                    cases hob : (Value.slice Bp c.pl.length capp).ownBlock with
                    | none => exact .inl rfl
                    | some g => exact .inr (hfar g (Nat.lt_trans (HL2.out g hob) HBS.out.1))
                  have hb8 := HB2.out.1.grown hg8 HB2.out.2.1 (fun g hg => Nat.le_trans (Nat.le_trans (Nat.le_succ _) (Nat.le_of_lt HBS.out.2.2.2)) (by have := (hr2.lt g hg).1; omega))
                  have hs8 : bs2 ≤ V8.heap.size := Nat.le_trans HB2.out.2.2 hg8.size
                  obtain ⟨A8, cap8, hv8, _, _⟩ := hr8.parts
                  have hln : ((L ++ [(x, b)]) ++ [(nm, nb)]).length = (l1 + 1) + 1 := by rw [List.length_append, HLN.out]; rfl
                  rw [hln] at hv8
                  subst hv8
                  refine hK.out _ _ ⟨IsG.kept hHeld.1 hg8 (fun _ b_ off_ e => by cases e; exact hfar b2 HBM.out), hx8, hA8⟩ (fun hHeld2 => ?_)
                  clear hK K hHeld
                  have hHeld := hHeld2; clear hHeld2
                  refine wpTill_take (i := 9) (v := ?_) rfl (by kernel_rfl) (by kernel_rfl) (by kernel_rfl) (by kernel_rfl) (fun _ _ _ h => h) (Or.inl ⟨by rfl, ?_⟩) (by assumption) ?_
                  rotate_left
                  · (intro w hSw; (try dsimp only at hSw); go_simp; (try with_reducible rfl))
                  simp only [Act.put, List.getElem_toArray, List.getElem_cons_zero, List.getElem_cons_succ, List.setIfInBounds_toArray, List.set_cons_zero, List.set_cons_succ]
                  clear HA HROW HRP HX HZ HB
                  have HA := Lib.hid (Blk.set hA8 1 (.slice A8 ((l1 + 1) + 1) cap8) #[.int .i64 c.level, .slice A8 ((l1 + 1) + 1) cap8, .slice Bp c.pl.length capp] rfl)
                  have HROW := Lib.hid (hr8.farB (j := 1) HBS.out.1 (.slice A8 ((l1 + 1) + 1) cap8))
                  have HRP := Lib.hid (hp8.far (g := ga) (j := 1) (fun e => Nat.lt_irrefl _ (HL2.out _ e)) (.slice A8 ((l1 + 1) + 1) cap8))
                  have HX := Lib.hid (Blk.far hx8 HGX.out 1 (.slice A8 ((l1 + 1) + 1) cap8))
                  have HZ := Lib.hid (Blk.far hz8 HGZ.out 1 (.slice A8 ((l1 + 1) + 1) cap8))
                  have HB : Hid (Below w.heap.size w (V8.setCell ⟨ga, 1, none⟩ (.slice A8 ((l1 + 1) + 1) cap8)) ∧ bs2 ≤ (V8.setCell ⟨ga, 1, none⟩ (.slice A8 ((l1 + 1) + 1) cap8)).heap.size) := ⟨hb8.setCell (p := ⟨ga, 1, none⟩) HGL.out (.slice A8 ((l1 + 1) + 1) cap8), by rw [World.size_setCell]; exact hs8⟩
                  have y8 := Blk.cell hA8 1
                  simp only [List.getElem?_toArray, List.getElem?_cons_zero, List.getElem?_cons_succ] at y8
                  have f8 := Blk.frozen hA8 1
                  clear hr2 HA2 HX2 HZ2 HRP2 HB2 hba hg8 hfar hA8 hx8 hz8 hp8 hb8 hs8 hr8
                  refine wpTill_ready (rs := [10]) (by kernel_rfl) (by simp) ?_
                  refine AllReadyT.last rfl (by kernel_rfl) (fun K hK => ?_) AllReadyT.nil
                  rw [if_pos (by rfl)]
                  go_simp
                  refine hK.out _ _ (trivial) (fun hHeld2 => ?_)
                  clear hK K hHeld
                  have hHeld := hHeld2; clear hHeld2
                  refine wpTill_done (by kernel_rfl) ?_ _
                  refine NoPanic.normal ?_
                  go_wp2_with fail
                  go_roundw
                  case rel => exact ⟨k + 1, by omega, by go_num, by rw [HJ.out.1], A8, (l1 + 1) + 1, cap8, by show _ = _; rw [HJ.out.2, hln], HA.out, by show RowG _ _ _ _ _ (jacM _ _ _); rw [HJ.out.2]; exact HROW.out, HRP.out, HX.out, HZ.out, HB.out⟩
                  case measure => simp [intOf]; omega
                · have HJ := Lib.hid (hj3 hd hx)
                  have hx' : nm ≤ x := by omega
                  clear hj1 hj2 hj3 hd hb2 hx
                  go_upto_region 17 with fail
                  clear y0 y1 hx'
                  refine wp_region_noPanic ?_
                  refine wp_region_till (S := (fun W_ => IsG s2 W_ (some ⟨b2, off, none⟩) n c.mem ∧ Blk W_ w.heap.size (ctB c (some ⟨b2, off, none⟩) n cap B m cm) ∧ Blk W_ ga (.cells #[.int .i64 c.level, .slice A1 l1 c1, .slice Bp c.pl.length capp] 26))) [10] (by kernel_rfl) (⟨HI.out.drew, HX.out.drew, HA.out.drew⟩) (fun hHeld => ?_)
                  refine wpTill_take (i := 0) (v := ?_) rfl (by kernel_rfl) (by kernel_rfl) (by kernel_rfl) (by kernel_rfl) (fun _ _ _ h => h) (Or.inl ⟨by rfl, ?_⟩) (by assumption) ?_
                  rotate_left
                  · (intro w hSw; (try dsimp only at hSw); go_simp; (try with_reducible rfl))
                  simp only [Act.put, List.getElem_toArray, List.getElem_cons_zero, List.setIfInBounds_toArray, List.set_cons_zero, List.set_cons_succ]
                  refine wpTill_take (i := 1) (v := ?_) rfl (by kernel_rfl) (by kernel_rfl) (by kernel_rfl) (by kernel_rfl) (fun _ _ _ h => h) (Or.inl ⟨by rfl, ?_⟩) (by assumption) ?_
                  rotate_left
                  · (intro w hSw; (try dsimp only at hSw); (have v0 := Blk.cell hSw.2.2 1); simp only [List.getElem?_toArray, List.getElem?_cons_zero, List.getElem?_cons_succ] at v0; go_simp; (try with_reducible rfl))
                  simp only [Act.put, List.getElem_toArray, List.getElem_cons_zero, List.getElem_cons_succ, List.setIfInBounds_toArray, List.set_cons_zero, List.set_cons_succ]
                  refine wpTill_take (i := 2) (v := ?_) rfl (by kernel_rfl) (by kernel_rfl) (by kernel_rfl) (by kernel_rfl) (fun _ _ _ h => h) (Or.inl ⟨by rfl, ?_⟩) (by assumption) ?_
                  rotate_left
                  · (intro w hSw; (try dsimp only at hSw); go_simp; (try with_reducible rfl))
                  simp only [Act.put, List.getElem_toArray, List.getElem_cons_zero, List.getElem_cons_succ, List.setIfInBounds_toArray, List.set_cons_zero, List.set_cons_succ]
                  refine wpTill_take (i := 3) (v := ?_) rfl (by kernel_rfl) (by kernel_rfl) (by kernel_rfl) (by kernel_rfl) (fun _ _ _ h => h) (Or.inl ⟨by rfl, ?_⟩) (by assumption) ?_
                  rotate_left
                  · (intro w hSw; (try dsimp only at hSw); (have v0 := Blk.cell hSw.2.1 1); simp only [List.getElem?_toArray, List.getElem?_cons_zero, List.getElem?_cons_succ] at v0; go_simp; (try with_reducible rfl))
                  simp only [Act.put, List.getElem_toArray, List.getElem_cons_zero, List.getElem_cons_succ, List.setIfInBounds_toArray, List.set_cons_zero, List.set_cons_succ]
                  refine wpTill_take (i := 4) (v := ?_) rfl (by kernel_rfl) (by kernel_rfl) (by kernel_rfl) (by kernel_rfl) (fun _ _ _ h => h) (Or.inl ⟨by rfl, ?_⟩) (by assumption) ?_
                  rotate_left
                  · (intro w hSw; (try dsimp only at hSw); go_simp; (try with_reducible rfl))
                  simp only [Act.put, List.getElem_toArray, List.getElem_cons_zero, List.getElem_cons_succ, List.setIfInBounds_toArray, List.set_cons_zero, List.set_cons_succ]
                  refine wpTill_take (i := 5) (v := ?_) rfl (by kernel_rfl) (by kernel_rfl) (by kernel_rfl) (by kernel_rfl) (fun _ _ _ h => h) (Or.inl ⟨by rfl, ?_⟩) (by assumption) ?_
                  rotate_left
                  · (intro w hSw; (try dsimp only at hSw); go_simp; (try with_reducible rfl))
                  simp only [Act.put, List.getElem_toArray, List.getElem_cons_zero, List.getElem_cons_succ, List.setIfInBounds_toArray, List.set_cons_zero, List.set_cons_succ]
                  refine wpTill_take (i := 6) (v := ?_) rfl (by kernel_rfl) (by kernel_rfl) (by kernel_rfl) (by kernel_rfl) (fun _ _ _ h => h) (Or.inl ⟨by rfl, ?_⟩) (by assumption) ?_
                  rotate_left
                  · (intro w hSw; (try dsimp only at hSw); (obtain ⟨b_, off_, hA_, _, v0, v1⟩ := is2_at hSw.1 HGK.out); cases hA_; simp only at v0 v1; go_simp; (try with_reducible rfl))
                  simp only [Act.put, List.getElem_toArray, List.getElem_cons_zero, List.getElem_cons_succ, List.setIfInBounds_toArray, List.set_cons_zero, List.set_cons_succ]
                  refine wpTill_ready (rs := [7]) (by kernel_rfl) (by simp) ?_
                  refine AllReadyT.cons rfl (fun K hK => ?_) AllReadyT.nil
                  rw [if_pos (by rfl)]
                  go_simp
                  have hba := ba9 wr.drew (.cells #[.int .i64 nm, .int .i64 nb] 45)
                  have hr2 := (rowG_drew HROW.out).below hba
                  have HA2 := Lib.hid (Blk.below HA.out.drew hba)
                  have HX2 := Lib.hid (Blk.below HX.out.drew hba)
                  have HZ2 := Lib.hid (Blk.below HZ.out.drew hba)
                  have HRP2 := Lib.hid ((rowG_drew HRP.out).below hba)
                  have HB2 : Hid (Below w.heap.size w (wr.drew.alloc (.cells #[.int .i64 nm, .int .i64 nb] 45)) ∧ w.heap.size ≤ (wr.drew.alloc (.cells #[.int .i64 nm, .int .i64 nb] 45)).heap.size ∧ bs2 ≤ (wr.drew.alloc (.cells #[.int .i64 nm, .int .i64 nb] 45)).heap.size) := ⟨HB.out.1.drew.alloc HB.out.1.drew.size (.cells #[.int .i64 nm, .int .i64 nb] 45), by have := HB.out.1.size; rw [World.size_alloc]; exact Nat.le_succ_of_le this, by have := HB.out.2; rw [World.size_alloc]; exact Nat.le_succ_of_le this⟩
                  refine hK.out _ _ ⟨IsG.below hHeld.1 hba, HX2.out, HA2.out⟩ (fun hHeld2 => ?_)
                  clear hK K hHeld
                  have hHeld := hHeld2; clear hHeld2
                  refine wpTill_ready (rs := [8]) (by kernel_rfl) (by simp) ?_
                  refine AllReadyT.cons rfl (fun K hK => ?_) AllReadyT.nil
                  rw [if_pos (by rfl)]
                  refine wp_append_g (S := s2) (T := 45) Try.underlying23 infoM rfl _ _ rfl bs2 _ L rfl hr2 _ 1 1 [(nm, nb)] rfl (isG_one (S := s2) wr.drew (nm, nb) _) (by unfold maxLen; have := HLL.out; omega) (by have := HLL.out; omega) HB2.out.2.2 ?_
                  intro v8 V8 hr8 hg8 _
                  have hfar : ∀ g, g < bs2 → some g ≠ (Value.slice A1 l1 c1).ownBlock := fun g hg e => by have := (hr2.lt g e.symm).1; omega
                  have hA8 := Blk.kept HA2.out hg8 (hfar ga HBS.out.1)
                  have hx8 := Blk.kept HX2.out hg8 (hfar w.heap.size HBS.out.2.2.1)
                  have hz8 := Blk.kept HZ2.out hg8 (hfar (w.heap.size + 1) HBS.out.2.2.2)
                  have hp8 : RowG s3 48 V8 bs1 (.slice Bp c.pl.length capp) c.pl := by
                    refine World.ownsRow.kept HRP2.out hg8 ?_
                    cases hob : (Value.slice Bp c.pl.length capp).ownBlock with
                    | none => exact .inl rfl
                    | some g => exact .inr (hfar g (Nat.lt_trans (HL2.out g hob) HBS.out.1))
                  have hb8 := HB2.out.1.grown hg8 HB2.out.2.1 (fun g hg => Nat.le_trans (Nat.le_trans (Nat.le_succ _) (Nat.le_of_lt HBS.out.2.2.2)) (by have := (hr2.lt g hg).1; omega))
                  have hs8 : bs2 ≤ V8.heap.size := Nat.le_trans HB2.out.2.2 hg8.size
                  obtain ⟨A8, cap8, hv8, _, _⟩ := hr8.parts
                  have hln : (L ++ [(nm, nb)]).length = l1 + 1 := by rw [List.length_append, HLN.out]; rfl
                  rw [hln] at hv8
                  subst hv8
                  refine hK.out _ _ ⟨IsG.kept hHeld.1 hg8 (fun _ b_ off_ e => by cases e; exact hfar b2 HBM.out), hx8, hA8⟩ (fun hHeld2 => ?_)
                  clear hK K hHeld
                  have hHeld := hHeld2; clear hHeld2
                  refine wpTill_take (i := 9) (v := ?_) rfl (by kernel_rfl) (by kernel_rfl) (by kernel_rfl) (by kernel_rfl) (fun _ _ _ h => h) (Or.inl ⟨by rfl, ?_⟩) (by assumption) ?_
                  rotate_left
                  · (intro w hSw; (try dsimp only at hSw); go_simp; (try with_reducible rfl))
                  simp only [Act.put, List.getElem_toArray, List.getElem_cons_zero, List.getElem_cons_succ, List.setIfInBounds_toArray, List.set_cons_zero, List.set_cons_succ]
                  clear HA HROW HRP HX HZ HB
                  have HA := Lib.hid (Blk.set hA8 1 (.slice A8 (l1 + 1) cap8) #[.int .i64 c.level, .slice A8 (l1 + 1) cap8, .slice Bp c.pl.length capp] rfl)
                  have HROW := Lib.hid (hr8.farB (j := 1) HBS.out.1 (.slice A8 (l1 + 1) cap8))
                  have HRP := Lib.hid (hp8.far (g := ga) (j := 1) (fun e => Nat.lt_irrefl _ (HL2.out _ e)) (.slice A8 (l1 + 1) cap8))
                  have HX := Lib.hid (Blk.far hx8 HGX.out 1 (.slice A8 (l1 + 1) cap8))
                  have HZ := Lib.hid (Blk.far hz8 HGZ.out 1 (.slice A8 (l1 + 1) cap8))
                  have HB : Hid (Below w.heap.size w (V8.setCell ⟨ga, 1, none⟩ (.slice A8 (l1 + 1) cap8)) ∧ bs2 ≤ (V8.setCell ⟨ga, 1, none⟩ (.slice A8 (l1 + 1) cap8)).heap.size) := ⟨hb8.setCell (p := ⟨ga, 1, none⟩) HGL.out (.slice A8 (l1 + 1) cap8), by rw [World.size_setCell]; exact hs8⟩
                  have y8 := Blk.cell hA8 1
                  simp only [List.getElem?_toArray, List.getElem?_cons_zero, List.getElem?_cons_succ] at y8
                  have f8 := Blk.frozen hA8 1
                  clear hr2 HA2 HX2 HZ2 HRP2 HB2 hba hg8 hfar hA8 hx8 hz8 hp8 hb8 hs8 hr8
                  refine wpTill_ready (rs := [10]) (by kernel_rfl) (by simp) ?_
                  refine AllReadyT.last rfl (by kernel_rfl) (fun K hK => ?_) AllReadyT.nil
                  rw [if_pos (by rfl)]
                  go_simp
                  refine hK.out _ _ (trivial) (fun hHeld2 => ?_)
                  clear hK K hHeld
                  have hHeld := hHeld2; clear hHeld2
                  refine wpTill_done (by kernel_rfl) ?_ _
                  refine NoPanic.normal ?_
                  go_wp2_with fail
                  go_roundw
                  case rel => exact ⟨k + 1, by omega, by go_num, by rw [HJ.out.1], A8, l1 + 1, cap8, by show _ = _; rw [HJ.out.2, hln], HA.out, by show RowG _ _ _ _ _ (jacM _ _ _); rw [HJ.out.2]; exact HROW.out, HRP.out, HX.out, HZ.out, HB.out⟩
                  case measure => simp [intOf]; omega
            · have hke : k = n := by omega
              have hki : (n : Int) ≤ (k : Int) := by omega
              have hje := jacM_end (l := c.mem) (x := (x, b))
              rw [← HN0.out, ← hke] at hje
              generalize hL : jacM c.mem (x, b) k = L at *
              clear hL
              cases hd : jdnM c.mem x k with
              | true =>
                have HLI := Lib.hid (hje.1 hd)
                have HE2 : Hid (joinC c x b = (⟨c.level, L, c.pl⟩, 0)) := by show _ = _; rw [HE.out, HLI.out]
                clear HE hje hd hke
                have HE := HE2; clear HE2
                obtain rfl : l1 = L.length := HLN.out
                have HCM : Hid (L.length ≤ c1) := by
                  obtain ⟨_, _, hv, hc_, _⟩ := HROW.out.parts
                  obtain ⟨_, _, rfl⟩ := slice_eqG hv
                  exact hc_
                have HNE2 : Hid (0 < L.length → 0 < c.pl.length → A1 ≠ Bp) := fun h1 h2 e => by
                  obtain ⟨g1_, _, hv, hg1_, _⟩ := HROW.out.own h1
                  obtain ⟨rfl, _, _⟩ := slice_eqG hv
                  have h9 := HL2.out g1_ (by rw [← e]; rfl)
                  have := HBS.out.1
                  omega
                clear HLN
                have HCI := HB.out.1
                have ha_ := HA.out
                have hz_ := HZ.out
                have a0 := Blk.cell ha_ 0
                have a1 := Blk.cell ha_ 1
                have a2 := Blk.cell ha_ 2
                have x0 := Blk.cell hz_ 0
                have x1 := Blk.cell hz_ 1
                have x2 := Blk.cell hz_ 2
                simp only [List.getElem?_toArray, List.getElem?_cons_zero, List.getElem?_cons_succ] at a0 a1 a2 x0 x1 x2
                have f0 := Blk.frozen hz_ 0
                have f1 := Blk.frozen hz_ 1
                have f2 := Blk.frozen hz_ 2
                have hz3 := Blk.set (Blk.set (Blk.set hz_ 0 (.int .i64 c.level) #[.int .i64 c.level, .slice none 0 0, .slice none 0 0] rfl) 1 (.slice A1 L.length c1) #[.int .i64 c.level, .slice A1 L.length c1, .slice none 0 0] rfl) 2 (.slice Bp c.pl.length capp) #[.int .i64 c.level, .slice A1 L.length c1, .slice Bp c.pl.length capp] rfl
                have hb3_ := ((HB.out.1.setCell (p := ⟨w.heap.size + 1, 0, none⟩) (Nat.le_succ _) (.int .i64 c.level)).setCell (p := ⟨w.heap.size + 1, 1, none⟩) (Nat.le_succ _) (.slice A1 L.length c1)).setCell (p := ⟨w.heap.size + 1, 2, none⟩) (Nat.le_succ _) (.slice Bp c.pl.length capp)
                have hrm3 := ((RowG.farB (j := 0) (HROW.out.mono (base2 := bs1) (by have := HGA.out; have := HBS.out.1; omega)) HS1.out (.int .i64 c.level)).farB (j := 1) HS1.out (.slice A1 L.length c1)).farB (j := 2) HS1.out (.slice Bp c.pl.length capp)
                have hrp3 := ((RowG.farB (j := 0) HRP.out HS1.out (.int .i64 c.level)).farB (j := 1) HS1.out (.slice A1 L.length c1)).farB (j := 2) HS1.out (.slice Bp c.pl.length capp)
                have HZ3 := Lib.hid hz3; clear hz3
                have HIM := Lib.hid (hrm3.mono (base2 := w.heap.size) (by have := HS1.out; omega)); have HIP := Lib.hid (hrp3.mono (base2 := w.heap.size) (by have := HS1.out; omega)); have HB3_ := Lib.hid hb3_
                clear hrm3 hrp3 hb3_ hz_ ha_
                go_wp2_with fail
                have e0 := Blk.cell HZ3.out 0
                have e1 := Blk.cell HZ3.out 1
                have e2 := Blk.cell HZ3.out 2
                simp only [List.getElem?_toArray, List.getElem?_cons_zero, List.getElem?_cons_succ] at e0 e1 e2
                refine bodyPost_ret (v := .tuple #[.agg #[.int .i64 c.level, .slice A1 L.length c1, .slice Bp c.pl.length capp], .int .i64 0]) (by simp [results, Try.results23, go_sem, e0, e1, e2]) rfl ?_
                rw [HE.out]
                exact ⟨A1, L.length, c1, Bp, c.pl.length, capp, rfl, HIM.out, HIP.out, HNE2.out, HB3_.out⟩
              | false =>
                have HLI := Lib.hid (hje.2 hd)
                have HE2 : Hid (joinC c x b = (⟨c.level, L ++ [(x, b)], c.pl⟩, 0)) := by show _ = _; rw [HE.out, HLI.out]
                clear HE hje hd hke
                have HE := HE2; clear HE2
                have g1 := Blk.cell HA.out 1
                simp only [List.getElem?_toArray, List.getElem?_cons_zero, List.getElem?_cons_succ] at g1
                have hba := ba9 wr (.cells #[.int .i64 x, .int .i64 b] 45)
                have hr2 := HROW.out.below hba
                have HA2 := Lib.hid (Blk.below HA.out hba)
                have HX2 := Lib.hid (Blk.below HX.out hba)
                have HZ2 := Lib.hid (Blk.below HZ.out hba)
                have HRP2 := Lib.hid (HRP.out.below hba)
                have HB2 : Hid (Below w.heap.size w (wr.alloc (.cells #[.int .i64 x, .int .i64 b] 45)) ∧ w.heap.size ≤ (wr.alloc (.cells #[.int .i64 x, .int .i64 b] 45)).heap.size ∧ bs2 ≤ (wr.alloc (.cells #[.int .i64 x, .int .i64 b] 45)).heap.size) := ⟨HB.out.1.alloc HB.out.1.size (.cells #[.int .i64 x, .int .i64 b] 45), by have := HB.out.1.size; rw [World.size_alloc]; omega, by have := HB.out.2; rw [World.size_alloc]; omega⟩
                go_wp2_with (at_builtin; refine wpList_append_g (S := s2) (T := 45) Try.underlying23 infoM rfl rfl _ _ rfl bs2 _ L rfl hr2 _ 1 1 [(x, b)] rfl (isG_one (S := s2) wr (x, b) _) (by unfold maxLen; have := HLL.out; omega) (by have := HLL.out; omega) HB2.out.2.2 ?_)
                intro v3 V6 hr8 hg8 _
                have hfar : ∀ g, g < bs2 → some g ≠ (Value.slice A1 l1 c1).ownBlock := fun g hg e => by have := (hr2.lt g e.symm).1; omega
                have hA8 := Blk.kept HA2.out hg8 (hfar ga HBS.out.1)
                have hx8 := Blk.kept HX2.out hg8 (hfar w.heap.size HBS.out.2.2.1)
                have hz8 := Blk.kept HZ2.out hg8 (hfar (w.heap.size + 1) HBS.out.2.2.2)
                have hp8 : RowG s3 48 V6 bs1 (.slice Bp c.pl.length capp) c.pl := by
                  refine World.ownsRow.kept HRP2.out hg8 ?_
                  cases hob : (Value.slice Bp c.pl.length capp).ownBlock with
                  | none => exact .inl rfl
                  | some g => exact .inr (hfar g (Nat.lt_trans (HL2.out g hob) HBS.out.1))
                have hb8 := HB2.out.1.grown hg8 HB2.out.2.1 (fun g hg => Nat.le_trans (Nat.le_trans (Nat.le_succ _) (Nat.le_of_lt HBS.out.2.2.2)) (by have := (hr2.lt g hg).1; omega))
                have hs8 : bs2 ≤ V6.heap.size := Nat.le_trans HB2.out.2.2 hg8.size
                obtain ⟨A3, c3, hv8, _, _⟩ := hr8.parts
                have hln : (L ++ [(x, b)]).length = l1 + 1 := by rw [List.length_append, HLN.out]; rfl
                rw [hln] at hv8
                subst hv8
                clear HA HROW HRP HX HZ HB g1
                have HA := Lib.hid (Blk.set hA8 1 (.slice A3 (l1 + 1) c3) #[.int .i64 c.level, .slice A3 (l1 + 1) c3, .slice Bp c.pl.length capp] rfl)
                have HROW := Lib.hid (hr8.farB (j := 1) HBS.out.1 (.slice A3 (l1 + 1) c3))
                have HRP := Lib.hid (hp8.far (g := ga) (j := 1) (fun e => Nat.lt_irrefl _ (HL2.out _ e)) (.slice A3 (l1 + 1) c3))
                have HX := Lib.hid (Blk.far hx8 HGX.out 1 (.slice A3 (l1 + 1) c3))
                have HZ := Lib.hid (Blk.far hz8 HGZ.out 1 (.slice A3 (l1 + 1) c3))
                have HB : Hid (Below w.heap.size w (V6.setCell ⟨ga, 1, none⟩ (.slice A3 (l1 + 1) c3)) ∧ bs2 ≤ (V6.setCell ⟨ga, 1, none⟩ (.slice A3 (l1 + 1) c3)).heap.size) := ⟨hb8.setCell (p := ⟨ga, 1, none⟩) HGL.out (.slice A3 (l1 + 1) c3), by rw [World.size_setCell]; exact hs8⟩
                have HLL2 : Hid ((L ++ [(x, b)]).length ≤ 20) := by show _ ≤ _; have h9_ := HLX.out; rw [List.length_append]; exact Nat.succ_le_succ h9_
                have HLN2 : Hid (l1 + 1 = (L ++ [(x, b)]).length) := hln.symm
                clear HLL HLN
                have HLL := HLL2; have HLN := HLN2; clear HLL2 HLN2
                have y8 := Blk.cell hA8 1
                simp only [List.getElem?_toArray, List.getElem?_cons_zero, List.getElem?_cons_succ] at y8
                have f8 := Blk.frozen hA8 1
                clear hr2 HA2 HX2 HZ2 HRP2 HB2 hba hg8 hfar hA8 hx8 hz8 hp8 hb8 hs8 hr8
                go_upto_region 20 with fail
                obtain ⟨Y, hY⟩ : ∃ Y, V6.setCell ⟨ga, 1, none⟩ (.slice A3 (l1 + 1) c3) = Y := ⟨_, rfl⟩
                rw [hY] at HA HROW HRP HX HZ HB
                rw [hY]
                clear hY y8 f8 z1
                generalize hL2 : L ++ [(x, b)] = L2 at *
                generalize l1 + 1 = l2 at *
                obtain rfl : L2.length = l2 := hln
                have HCM : Hid (L2.length ≤ c3) := by
                  obtain ⟨_, _, hv, hc_, _⟩ := HROW.out.parts
                  obtain ⟨_, _, rfl⟩ := slice_eqG hv
                  exact hc_
                have HNE2 : Hid (0 < L2.length → 0 < c.pl.length → A3 ≠ Bp) := fun h1 h2 e => by
                  obtain ⟨g1_, _, hv, hg1_, _⟩ := HROW.out.own h1
                  obtain ⟨rfl, _, _⟩ := slice_eqG hv
                  have h9 := HL2.out g1_ (by rw [← e]; rfl)
                  have := HBS.out.1
                  omega
                clear HLN
                have ha_ := HA.out
                have hz_ := HZ.out
                have a0 := Blk.cell ha_ 0
                have a1 := Blk.cell ha_ 1
                have a2 := Blk.cell ha_ 2
                have x0 := Blk.cell hz_ 0
                have x1 := Blk.cell hz_ 1
                have x2 := Blk.cell hz_ 2
                simp only [List.getElem?_toArray, List.getElem?_cons_zero, List.getElem?_cons_succ] at a0 a1 a2 x0 x1 x2
                have f0 := Blk.frozen hz_ 0
                have f1 := Blk.frozen hz_ 1
                have f2 := Blk.frozen hz_ 2
                have hz3 := Blk.set (Blk.set (Blk.set hz_ 0 (.int .i64 c.level) #[.int .i64 c.level, .slice none 0 0, .slice none 0 0] rfl) 1 (.slice A3 L2.length c3) #[.int .i64 c.level, .slice A3 L2.length c3, .slice none 0 0] rfl) 2 (.slice Bp c.pl.length capp) #[.int .i64 c.level, .slice A3 L2.length c3, .slice Bp c.pl.length capp] rfl
                have hb3_ := ((HB.out.1.setCell (p := ⟨w.heap.size + 1, 0, none⟩) (Nat.le_succ _) (.int .i64 c.level)).setCell (p := ⟨w.heap.size + 1, 1, none⟩) (Nat.le_succ _) (.slice A3 L2.length c3)).setCell (p := ⟨w.heap.size + 1, 2, none⟩) (Nat.le_succ _) (.slice Bp c.pl.length capp)
                have hrm3 := ((RowG.farB (j := 0) (HROW.out.mono (base2 := bs1) (by have := HGA.out; have := HBS.out.1; omega)) HS1.out (.int .i64 c.level)).farB (j := 1) HS1.out (.slice A3 L2.length c3)).farB (j := 2) HS1.out (.slice Bp c.pl.length capp)
                have hrp3 := ((RowG.farB (j := 0) HRP.out HS1.out (.int .i64 c.level)).farB (j := 1) HS1.out (.slice A3 L2.length c3)).farB (j := 2) HS1.out (.slice Bp c.pl.length capp)
                have HZ3 := Lib.hid hz3; clear hz3
                have HIM := Lib.hid (hrm3.mono (base2 := w.heap.size) (by have := HS1.out; omega)); have HIP := Lib.hid (hrp3.mono (base2 := w.heap.size) (by have := HS1.out; omega)); have HB3_ := Lib.hid hb3_
                clear hrm3 hrp3 hb3_ hz_ ha_
                go_wp2_with fail
                have e0 := Blk.cell HZ3.out 0
                have e1 := Blk.cell HZ3.out 1
                have e2 := Blk.cell HZ3.out 2
                simp only [List.getElem?_toArray, List.getElem?_cons_zero, List.getElem?_cons_succ] at e0 e1 e2
                refine bodyPost_ret (v := .tuple #[.agg #[.int .i64 c.level, .slice A3 L2.length c3, .slice Bp c.pl.length capp], .int .i64 0]) (by simp [results, Try.results23, go_sem, e0, e1, e2]) rfl ?_
                rw [HE.out]
                exact ⟨A3, L2.length, c3, Bp, c.pl.length, capp, rfl, HIM.out, HIP.out, HNE2.out, HB3_.out⟩
end Go.Proofs.Ytndkmepdnekigaa
