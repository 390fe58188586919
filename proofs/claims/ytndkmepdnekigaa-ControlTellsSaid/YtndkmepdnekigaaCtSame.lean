import Derived.Test.YtndkmepdnekigaaCtPlace
import Derived.Deep.DeepCutAuto
/-
  The contract of the document's own Same of controllers (stage 18).
-/
namespace Go.Proofs.Ytndkmepdnekigaa
open Go.RowKit
set_option linter.unusedVariables false
set_option linter.unusedSimpArgs false

set_option maxRecDepth 100000 in
set_option maxHeartbeats 8000000 in
theorem refsamec_any (c d : CtR) (A B D E : Option Addr) (n cap m cm k capd l cl : Nat) (w : World) (hc : IsCt w c A n B m) (hd : IsCt w d D k E l) :
    Calls Try.prog 11 #[ctV c A n cap B m cm, ctV d D k capd E l cl] w fun e w' => e = .returned (.bool (decide (c = d))) ∧ Below w.heap.size w w' := by
  have hn := hc.1.1
  have hm := hc.2.1
  have hk := hd.1.1
  have hl := hd.2.1
  have hnm := hc.1.2.1
  have hmm := hc.2.2.1
  unfold maxLen at hnm hmm
  have HX0 := Blk.below (Blk.new w (ctB c A n cap B m cm)) (ba9 (w.alloc (ctB c A n cap B m cm)) (ctB d D k capd E l cl))
  have HY0 := Blk.new (w.alloc (ctB c A n cap B m cm)) (ctB d D k capd E l cl)
  rw [World.size_alloc] at HY0
  have HB0 := (ba9 w (ctB c A n cap B m cm)).alloc (ba9 w (ctB c A n cap B m cm)).size (ctB d D k capd E l cl)
  have HC0 := hc.below HB0
  have HD0 := hd.below HB0
  obtain ⟨W1, hW⟩ : ∃ W, (w.alloc (ctB c A n cap B m cm)).alloc (ctB d D k capd E l cl) = W := ⟨_, rfl⟩
  rw [hW] at HX0 HY0 HB0 HC0 HD0
  have HX := Lib.hid HX0; clear HX0
  have HY := Lib.hid HY0; clear HY0
  have HBE := Lib.hid HB0; clear HB0
  have HC := Lib.hid HC0; clear HC0
  have HD := Lib.hid HD0; clear HD0
  have HNN : Hid (n = c.mem.length ∧ m = c.pl.length ∧ k = d.mem.length ∧ l = d.pl.length) := ⟨hn, hm, hk, hl⟩
  clear hn hm hk hl hc hd
  have HRN : Hid (c ≠ d → decide (c = d) = false) := fun h => decide_eq_false h
  have HRY : Hid (c.level = d.level → c.mem = d.mem → c.pl = d.pl → decide (c = d) = true) := fun h1 h2 h3 => decide_eq_true (by cases c; cases d; simp_all)
  generalize decide (c = d) = R at *
  go_enter Try.func11, Try.ntmps11
  go_upto_region 1 with fail
  try rw [hW]
  clear hW
  have z0 := Blk.cell HX.out 0
  have z1 := Blk.cell HX.out 1
  have z2 := Blk.cell HX.out 2
  have y0 := Blk.cell HY.out 0
  have y1 := Blk.cell HY.out 1
  have y2 := Blk.cell HY.out 2
  simp only [List.getElem?_toArray, List.getElem?_cons_zero, List.getElem?_cons_succ] at z0 z1 z2 y0 y1 y2
  by_cases h1 : c.level = d.level
  · by_cases h2 : n = k
    · by_cases h3 : m = l
      · have HLV : Hid (c.level = d.level) := h1
        have HLM : Hid (n = c.mem.length ∧ n = d.mem.length) := ⟨HNN.out.1, by have := HNN.out.2.2.1; omega⟩
        have HLP : Hid (m = c.pl.length ∧ m = d.pl.length) := ⟨HNN.out.2.1, by have := HNN.out.2.2.2; omega⟩
        have e1 : (c.level != d.level) = false := by simpa using h1
        have e2 : ((n : Int) != (k : Int)) = false := by simp; omega
        have e3 : ((m : Int) != (l : Int)) = false := by simp; omega
        clear h1
        go_wp2_with fail
        clear z0 z1 z2 y0 y1 y2 e1 e2 e3
        go_loopw [5] (fun i wr => ∃ j : Nat, j ≤ n ∧ i = .int .i64 j ∧ Hid (Below W1.heap.size W1 wr) ∧ Hid (∀ q, q < j → atM9 c.mem q = atM9 d.mem q)) (fun i _ => n - (intOf i).toNat)
        case atStart => exact ⟨0, by omega, rfl, Below.refl _ _, fun q hq => by omega⟩
        case round =>
          obtain ⟨j, hj, rfl, hbw, hsm⟩ := hrel
          have z0 := Blk.cell (Blk.below HX.out hbw.out) 0
          have z1 := Blk.cell (Blk.below HX.out hbw.out) 1
          have z2 := Blk.cell (Blk.below HX.out hbw.out) 2
          have y0 := Blk.cell (Blk.below HY.out hbw.out) 0
          have y1 := Blk.cell (Blk.below HY.out hbw.out) 1
          have y2 := Blk.cell (Blk.below HY.out hbw.out) 2
          simp only [List.getElem?_toArray, List.getElem?_cons_zero, List.getElem?_cons_succ] at z0 z1 z2 y0 y1 y2
          by_cases hlt : j < n
          · have HJ : Hid (j < c.mem.length) := by show j < _; have := HLM.out; omega
            have HJ2 : Hid (j < d.mem.length) := by show j < _; have := HLM.out; omega
            obtain ⟨b, off, hA1, hb, x0, x1⟩ := is2_at (IsG.below HC.out.1 hbw.out) (atM9_get HJ.out)
            obtain ⟨b2, off2, hA2, hb2, u0, u1⟩ := is2_at (IsG.below HD.out.1 hbw.out) (atM9_get HJ2.out)
            subst hA1 hA2
            have HQ : Hid (∀ q, q < j + 1 → atM9 c.mem j = atM9 d.mem j → atM9 c.mem q = atM9 d.mem q) := fun q hq he => by
              rcases Nat.lt_or_ge q j with h5 | h5
              · exact hsm.out q h5
              · rw [show q = j by omega]; exact he
            have HNE : Hid (atM9 c.mem j ≠ atM9 d.mem j → R = false) := fun h => HRN.out (fun e => h (by rw [e]))
            generalize atM9 c.mem j = x at *
            generalize atM9 d.mem j = y at *
            have eW := eqMb x y
            have gW := guardMb
            obtain ⟨p0, p1⟩ := x
            obtain ⟨q0, q1⟩ := y
            simp only at x0 x1 u0 u1
            by_cases he : p0 = q0 ∧ p1 = q1
            · obtain ⟨rfl, rfl⟩ := he
              have HQ2 : Hid (∀ q, q < j + 1 → atM9 c.mem q = atM9 d.mem q) := fun q hq => HQ.out q hq rfl
              clear HQ HNE
              simp only [decide_true] at eW
              go_wp2_with fail
              go_quiet (fail)
              go_wp2_with fail
              go_roundw
              case rel => exact ⟨j + 1, by omega, by go_num, bdn hbw.out _, HQ2⟩
              case measure => simp [intOf]; omega
            · have HE : Hid (R = false) := HNE.out (fun e => he (by cases e; exact ⟨rfl, rfl⟩))
              have e5 : decide ((p0, p1) = (q0, q1)) = false := decide_eq_false (fun e => he (by cases e; exact ⟨rfl, rfl⟩))
              rw [e5] at eW
              clear HQ HNE he e5
              go_wp2_with fail
              go_quiet (fail)
              go_wp2_with fail
              go_ret
              exact ⟨ret_bool HE.out.symm, bdn (bch HBE.out hbw.out) _⟩
          · have hje : j = n := by omega
            subst hje
            have HS_M : Hid (c.mem = d.mem) := by
              show _ = _
              refine List.ext_getElem (by have := HLM.out; have := HLP.out; omega) fun q h5 h6 => ?_
              have h7 := hsm.out q (by have := HLM.out; have := HLP.out; omega)
              have e1 := atM9_get h5
              have e2 := atM9_get h6
              rw [List.getElem?_eq_getElem h5] at e1
              rw [List.getElem?_eq_getElem h6] at e2
              rw [Option.some.inj e1, Option.some.inj e2, h7]
            obtain ⟨wo, rfl⟩ : ∃ x, x = wr := ⟨_, rfl⟩
            have HX2 := Lib.hid (Blk.below HX.out hbw.out)
            have HY2 := Lib.hid (Blk.below HY.out hbw.out)
            have HC2 := Lib.hid (HC.out.below hbw.out)
            have HD2 := Lib.hid (HD.out.below hbw.out)
            have HBE' := Lib.hid (bch HBE.out hbw.out)
            go_wp2_with fail
            clear HBE hsm hbw z0 z1 z2 y0 y1 y2 HX HY HC HD
            have HBE := HBE'
            clear HBE'
            go_loopw [6] (fun i wr => ∃ j : Nat, j ≤ m ∧ i = .int .i64 j ∧ Hid (Below wo.heap.size wo wr) ∧ Hid (∀ q, q < j → atP9 c.pl q = atP9 d.pl q)) (fun i _ => m - (intOf i).toNat)
            case atStart => exact ⟨0, by omega, rfl, Below.refl _ _, fun q hq => by omega⟩
            case round =>
              obtain ⟨j, hj, rfl, hbw, hsm⟩ := hrel
              have z0 := Blk.cell (Blk.below HX2.out hbw.out) 0
              have z1 := Blk.cell (Blk.below HX2.out hbw.out) 1
              have z2 := Blk.cell (Blk.below HX2.out hbw.out) 2
              have y0 := Blk.cell (Blk.below HY2.out hbw.out) 0
              have y1 := Blk.cell (Blk.below HY2.out hbw.out) 1
              have y2 := Blk.cell (Blk.below HY2.out hbw.out) 2
              simp only [List.getElem?_toArray, List.getElem?_cons_zero, List.getElem?_cons_succ] at z0 z1 z2 y0 y1 y2
              by_cases hlt : j < m
              · have HJ : Hid (j < c.pl.length) := by show j < _; have := HLP.out; omega
                have HJ2 : Hid (j < d.pl.length) := by show j < _; have := HLP.out; omega
                obtain ⟨b, off, hA1, hb, x0, x1, x2⟩ := is3_at (IsG.below HC2.out.2 hbw.out) (atP9_get HJ.out)
                obtain ⟨b2, off2, hA2, hb2, u0, u1, u2⟩ := is3_at (IsG.below HD2.out.2 hbw.out) (atP9_get HJ2.out)
                subst hA1 hA2
                have HQ : Hid (∀ q, q < j + 1 → atP9 c.pl j = atP9 d.pl j → atP9 c.pl q = atP9 d.pl q) := fun q hq he => by
                  rcases Nat.lt_or_ge q j with h5 | h5
                  · exact hsm.out q h5
                  · rw [show q = j by omega]; exact he
                have HNE : Hid (atP9 c.pl j ≠ atP9 d.pl j → R = false) := fun h => HRN.out (fun e => h (by rw [e]))
                generalize atP9 c.pl j = x at *
                generalize atP9 d.pl j = y at *
                have eW := eqPl x y
                have gW := guardPl
                obtain ⟨p0, p1, p2⟩ := x
                obtain ⟨q0, q1, q2⟩ := y
                simp only at x0 x1 x2 u0 u1 u2
                by_cases he : p0 = q0 ∧ p1 = q1 ∧ p2 = q2
                · obtain ⟨rfl, rfl, rfl⟩ := he
                  have HQ2 : Hid (∀ q, q < j + 1 → atP9 c.pl q = atP9 d.pl q) := fun q hq => HQ.out q hq rfl
                  clear HQ HNE
                  simp only [decide_true] at eW
                  go_wp2_with fail
                  go_quiet (fail)
                  go_wp2_with fail
                  go_roundw
                  case rel => exact ⟨j + 1, by omega, by go_num, bdn hbw.out _, HQ2⟩
                  case measure => simp [intOf]; omega
                · have HE : Hid (R = false) := HNE.out (fun e => he (by cases e; exact ⟨rfl, rfl, rfl⟩))
                  have e5 : decide ((p0, p1, p2) = (q0, q1, q2)) = false := decide_eq_false (fun e => he (by cases e; exact ⟨rfl, rfl, rfl⟩))
                  rw [e5] at eW
                  clear HQ HNE he e5
                  go_wp2_with fail
                  go_quiet (fail)
                  go_wp2_with fail
                  go_ret
                  exact ⟨ret_bool HE.out.symm, bdn (bch HBE.out hbw.out) _⟩
              · have hje : j = m := by omega
                subst hje
                have HS_P : Hid (c.pl = d.pl) := by
                  show _ = _
                  refine List.ext_getElem (by have := HLM.out; have := HLP.out; omega) fun q h5 h6 => ?_
                  have h7 := hsm.out q (by have := HLM.out; have := HLP.out; omega)
                  have e1 := atP9_get h5
                  have e2 := atP9_get h6
                  rw [List.getElem?_eq_getElem h5] at e1
                  rw [List.getElem?_eq_getElem h6] at e2
                  rw [Option.some.inj e1, Option.some.inj e2, h7]
                have HE : Hid (R = true) := HRY.out HLV.out HS_M.out HS_P.out
                have HBF := Lib.hid (bch HBE.out hbw.out)
                go_wp2_with fail
                go_ret
                exact ⟨ret_bool HE.out.symm, HBF.out⟩
      · have HE : Hid (R = false) := HRN.out (fun e => h3 (by have := HNN.out; rw [e] at this; omega))
        have e1 : (c.level != d.level) = false := by simpa using h1
        have e2 : ((n : Int) != (k : Int)) = false := by simp; omega
        have e3 : ((m : Int) != (l : Int)) = true := by simp; omega
        clear h1 h3
        go_wp2_with fail
        go_ret
        exact ⟨ret_bool HE.out.symm, HBE.out⟩
    · have HE : Hid (R = false) := HRN.out (fun e => h2 (by have := HNN.out; rw [e] at this; omega))
      have e1 : (c.level != d.level) = false := by simpa using h1
      have e2 : ((n : Int) != (k : Int)) = true := by simp; omega
      clear h1 h2
      go_wp2_with fail
      go_ret
      exact ⟨ret_bool HE.out.symm, HBE.out⟩
  · have HE : Hid (R = false) := HRN.out (fun e => h1 (by rw [e]))
    have e1 : (c.level != d.level) = true := by simpa using h1
    clear h1
    go_wp2_with fail
    go_ret
    exact ⟨ret_bool HE.out.symm, HBE.out⟩
end Go.Proofs.Ytndkmepdnekigaa
