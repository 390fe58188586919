import Derived.Test.YtgckoihangccbaaRpPd
import Derived.Test.YtgckoihangccbaaRpPc
/-
  The contracts of the program's own Right and Look of caches (stage 13).
-/
namespace Go.Proofs.Ytgckoihangccbaa
open Go.RowKit
set_option linter.unusedVariables false
set_option linter.unusedSimpArgs false

def aheadD (l : List DnR) (j : Nat) : Int := if j = 0 then 0 else (atD l (j - 1)).client
theorem aheadD_next (l : List DnR) (j : Nat) : aheadD l (j + 1) = (atD l j).client := by unfold aheadD; rw [if_neg (by omega)]; rfl
theorem rise_stepD {l : List DnR} {j : Nat} (hj : j < l.length) (h : RiseD (l.take j)) (ha : aheadD l j < (atD l j).client) : RiseD (l.take (j + 1)) := by
  rw [take_succD hj]
  refine List.pairwise_append.2 ⟨h, List.pairwise_singleton _ _, fun a ha2 b hb => ?_⟩
  rw [List.mem_singleton.1 hb]
  obtain ⟨q, hq, rfl⟩ := List.getElem_of_mem ha2
  rw [List.length_take] at hq
  unfold aheadD at ha
  rw [if_neg (by omega)] at ha
  rw [List.getElem_take, ← atD_get (l := l) (i := q) (by omega)]
  rcases (by omega : q < j - 1 ∨ q = j - 1) with h2 | h2
  · have h3 : (atD (l.take j) q).client < (atD (l.take j) (j - 1)).client := riseD_lt h h2 (by rw [List.length_take]; omega)
    rw [atD_get (by rw [List.length_take]; omega), atD_get (by rw [List.length_take]; omega), List.getElem_take, List.getElem_take, ← atD_get, ← atD_get] at h3
    omega
  · rw [h2]; exact ha
theorem right_step {l : List DnR} {j : Nat} (hj : j < l.length) (h : RightD l) : MayP (atD l j).rep ∧ GoodC (atD l j).client (atD l j).id ∧ aheadD l j < (atD l j).client := by
  obtain ⟨h1, h2⟩ := h.1 _ (atD_mem hj)
  refine ⟨h1, h2, ?_⟩
  unfold aheadD
  split
  · have := h2.1.1; omega
  · exact riseD_lt h.2.1 (by omega) hj
set_option maxRecDepth 100000 in
set_option maxHeartbeats 8000000 in
theorem right13_any (l : List DnR) (A : Option Addr) (n cap : Nat) (w : World) (h : IsDs w A n l) :
    Calls Try.prog 14 #[.slice A n cap] w fun e w' => e = .returned (.bool (rightD l)) ∧ Below w.heap.size w w' := by
  have hn9 := h.2.1
  unfold maxLen at hn9
  have HN : Hid (n = l.length) := h.1
  have HT := Lib.hid h; clear h
  have HNO : Hid (¬ RightD l → rightD l = false) := rightD_no
  have HYES : Hid (RightD l → rightD l = true) := rightD_iff.2
  generalize rightD l = R at *
  by_cases h20 : (8 : Int) < (n : Int)
  · have HE : Hid (R = false) := HNO.out fun h => by have := h.2.2; have := HN.out; omega
    go_enter Try.func14, Try.ntmps14
    go_wp2_with fail
    go_ret
    exact ⟨by rw [HE.out]; rfl, Below.refl _ _⟩
  go_enter Try.func14, Try.ntmps14
  go_wp2_with fail
  go_loopw [3, 11] (fun a i wy => ∃ (j : Nat) (wr : World) (z : Int), wr = wy ∧ j ≤ n ∧ a = .int .i64 z ∧ z = aheadD l j ∧ i = .int .i64 j ∧ (∀ q, q < j → MayP (atD l q).rep ∧ GoodC (atD l q).client (atD l q).id) ∧ RiseD (l.take j) ∧ Below w.heap.size w wr) (fun _ i _ => n - (intOf i).toNat)
  case atStart => exact ⟨0, _, 0, rfl, by omega, rfl, rfl, rfl, (fun q hq => by omega), List.Pairwise.nil, Below.refl _ _⟩
  case round =>
    obtain ⟨j, wr, z, rfl, hj, rfl, hz, rfl, hri, hrs, hb⟩ := hrel
    have HB := Lib.hid hb; clear hb
    have HRI := Lib.hid hri; clear hri
    have HRS := Lib.hid hrs; clear hrs
    have HZ := Lib.hid hz; clear hz
    by_cases hlt : j < n
    · have hji : (j : Int) < (n : Int) := by omega
      have hj0 : (0 : Int) ≤ (j : Int) := by omega
      have hjl : j < l.length := by have := HN.out; omega
      obtain ⟨b, off, hA, _⟩ := HT.out.block (by omega)
      subst hA
      obtain ⟨E, m, c, hx, _, hss⟩ := HT.out.at hjl HB.out
      have hbw : Below wr.heap.size wr (wr.alloc (.cells #[.int .i64 (atD l j).client, .int .i64 (atD l j).id, .int .i64 (atD l j).rep.errno, .int .i64 (atD l j).rep.rev, .string (atD l j).rep.value, .slice E m c] 45)) := (Below.refl _ _).alloc (Nat.le_refl _) _
      have hrb := Blk.new wr (.cells #[.int .i64 (atD l j).client, .int .i64 (atD l j).id, .int .i64 (atD l j).rep.errno, .int .i64 (atD l j).rep.rev, .string (atD l j).rep.value, .slice E m c] 45)
      have HST : Hid (RightD l → MayP (atD l j).rep ∧ GoodC (atD l j).client (atD l j).id ∧ z < (atD l j).client) := fun h => by rw [HZ.out]; exact right_step hjl h
      have HNX : Hid (z < (atD l j).client → RiseD (l.take (j + 1))) := fun h => rise_stepD hjl HRS.out (by rw [← HZ.out]; exact h)
      have HRI2 : Hid (MayP (atD l j).rep → GoodC (atD l j).client (atD l j).id → ∀ q, q < j + 1 → MayP (atD l q).rep ∧ GoodC (atD l q).client (atD l q).id) := fun h1 h2 q hq => by
        rcases (by omega : q < j ∨ q = j) with h | rfl
        · exact HRI.out q h
        · exact ⟨h1, h2⟩
      have HAH : Hid ((atD l j).client = aheadD l (j + 1)) := (aheadD_next l j).symm
      have HDW : Hid (DnW (atD l j)) := HT.out.2.2.1 _ (atD_mem hjl)
      have HSS : Hid (IsSs wr E m (atD l j).rep.keys) := hss
      clear hss hjl
      obtain ⟨x0, x1, x2, x3, x4, x5⟩ := hx
      generalize atD l j = d at *
      have q1 := fun W => mayCall_any d.client d.id W
      have q2 := odd_any d.rep E m c (wr.alloc (.cells #[.int .i64 d.client, .int .i64 d.id, .int .i64 d.rep.errno, .int .i64 d.rep.rev, .string d.rep.value, .slice E m c] 45)) (HSS.out.below hbw) HDW.out.2.2.1
      unfold rpV at q2
      go_upto_region 7 with fail
      clear x0 x1 x2 x3 x4 x5
      obtain ⟨V, hV⟩ : ∃ V, wr.alloc (.cells #[.int .i64 d.client, .int .i64 d.id, .int .i64 d.rep.errno, .int .i64 d.rep.rev, .string d.rep.value, .slice E m c] 45) = V := ⟨_, rfl⟩
      rw [hV] at hbw hrb q2 ⊢
      clear hV
      have y0 := Blk.cell hrb 0
      have y1 := Blk.cell hrb 1
      have y2 := Blk.cell hrb 2
      have y3 := Blk.cell hrb 3
      have y4 := Blk.cell hrb 4
      have y5 := Blk.cell hrb 5
      simp only [List.getElem?_toArray, List.getElem?_cons_zero, List.getElem?_cons_succ] at y0 y1 y2 y3 y4 y5
      have HRB := Lib.hid hrb; clear hrb
      have HBV := Lib.hid (bch HB.out hbw); clear hbw
      by_cases hcz : d.client ≤ z
      · have HE : Hid (R = false) := HNO.out fun h => by have := (HST.out h).2.2; omega
        clear q1 q2
        go_wp2_with fail
        go_ret
        exact ⟨by rw [HE.out]; rfl, HBV.out⟩
      by_cases hg : GoodC d.client d.id
      rotate_left
      · have HE : Hid (R = false) := HNO.out fun h => hg (HST.out h).2.1
        have e1 : goodCB d.client d.id = false := decide_eq_false hg
        rw [e1] at q1
        clear q2 hg e1
        go_wp2_with fail
        ((with_reducible refine (q1 _).mono ?_); rintro e W1 ⟨rfl, rfl⟩)
        go_wp2_with fail
        go_ret
        exact ⟨by rw [HE.out]; rfl, HBV.out⟩
      have e1 : goodCB d.client d.id = true := decide_eq_true hg
      rw [e1] at q1
      have HG := Lib.hid hg; clear hg e1
      by_cases hm : MayP d.rep
      rotate_left
      · have HE : Hid (R = false) := HNO.out fun h => hm (HST.out h).1
        have e1 : mayRB d.rep = false := decide_eq_false hm
        rw [e1] at q2
        clear hm e1
        go_wp2_with fail
        ((with_reducible refine (q1 _).mono ?_); rintro e W1 ⟨rfl, rfl⟩)
        go_wp2_with fail
        ((with_reducible refine q2.mono ?_); rintro e W1 ⟨rfl, b1⟩)
        have HB1 := Lib.hid (bch HBV.out b1); clear q2 b1
        go_wp2_with fail
        go_ret
        exact ⟨by rw [HE.out]; rfl, HB1.out⟩
      have e1 : mayRB d.rep = true := decide_eq_true hm
      rw [e1] at q2
      have HM := Lib.hid hm; clear hm e1
      go_wp2_with fail
      ((with_reducible refine (q1 _).mono ?_); rintro e W1 ⟨rfl, rfl⟩)
      go_wp2_with fail
      ((with_reducible refine q2.mono ?_); rintro e W1 ⟨rfl, b1⟩)
      have HB1 := Lib.hid (bch HBV.out b1)
      have u0 := (b1.cell (p := ⟨wr.heap.size, 0, none⟩) (Blk.lt HRB.out)).trans y0
      clear q1 q2 b1 y0 y1 y2 y3 y4 y5
      have HZN : Hid (z < d.client) := by show _ < _; omega
      go_wp2_with fail
      go_roundw
      case rel => exact ⟨j + 1, _, _, rfl, by omega, rfl, HAH.out, by go_num, HRI2.out HM.out HG.out, HNX.out HZN.out, HB1.out⟩
      case measure => simp [intOf]; omega
    · have hje : j = n := by omega
      subst hje
      have htl : l.take j = l := by rw [List.take_of_length_le]; have := HN.out; omega
      rw [htl] at HRS
      have hall : ∀ d ∈ l, MayP d.rep ∧ GoodC d.client d.id := fun r hr => by
        obtain ⟨q, hq, rfl⟩ := List.getElem_of_mem hr
        have := HRI.out q (by have := HN.out; omega)
        rw [atD_get hq] at this
        exact this
      have HE : Hid (R = true) := HYES.out ⟨hall, HRS.out, by have := HN.out; omega⟩
      clear hlt htl hall
      go_wp2_with fail
      go_ret
      exact ⟨by rw [HE.out]; rfl, HB.out⟩
theorem rightQ13_any : RightQ13 := fun l A n cap w _ h _ => right13_any l A n cap w h
set_option maxRecDepth 100000 in
set_option maxHeartbeats 8000000 in
theorem look13_any (l : List DnR) (c i : Int) (A : Option Addr) (n cap : Nat) (w : World) (h : IsDs w A n l) :
    Calls Try.prog 12 #[.slice A n cap, .int .i64 c, .int .i64 i] w (LookPost w (lookL l c i).1 (lookL l c i).2) := by
  have hn9 := h.2.1
  unfold maxLen at hn9
  have HN : Hid (n = l.length) := h.1
  have hb0 : Below w.heap.size w (w.alloc (.cells #[.int .i64 0, .int .i64 0, .string ⟨#[]⟩, .slice none 0 0] 31)) := (Below.refl _ _).alloc (Nat.le_refl _) _
  have hz0 := Blk.new w (.cells #[.int .i64 0, .int .i64 0, .string ⟨#[]⟩, .slice none 0 0] 31)
  have hts := h.below hb0
  obtain ⟨W0, hW0⟩ : ∃ W, w.alloc (.cells #[.int .i64 0, .int .i64 0, .string ⟨#[]⟩, .slice none 0 0] 31) = W := ⟨_, rfl⟩
  rw [hW0] at hb0 hz0 hts
  have HT := Lib.hid hts; clear hts h
  have HZ := Lib.hid hz0; clear hz0
  have HB := Lib.hid hb0; clear hb0
  have q := right13_any l A n cap W0 HT.out
  have HBAD : Hid (¬ (RightD l ∧ GoodC c i) → lookL l c i = (zeroP13, 1)) := fun h => if_pos h
  have HTELL : Hid (RightD l ∧ GoodC c i → lookL l c i = tellD (lookD l c) i) := fun h => look_tell h.1 h.2
  have HRD : Hid (∀ b, rightD l = b → (b = true ↔ RightD l)) := fun b hb => by rw [← hb]; exact rightD_iff
  obtain ⟨b, hb⟩ : ∃ b, rightD l = b := ⟨_, rfl⟩
  have HRB := Lib.hid (HRD.out b hb)
  rw [hb] at q
  clear hb HRD
  generalize lookL l c i = L at *
  go_enter Try.func12, Try.ntmps12
  go_wp2_with fail
  ((with_reducible refine q.mono ?_); rintro e W1 ⟨rfl, b1⟩)
  clear q
  have HZ1 := Lib.hid (Blk.below HZ.out b1)
  have HT1 := Lib.hid (HT.out.below b1)
  have HB1 := Lib.hid (bch HB.out b1); clear b1
  cases b with
  | false =>
    have HE : Hid (L = (zeroP13, 1)) := HBAD.out fun h => by have := HRB.out.2 h.1; cases this
    have z0 := Blk.cell HZ1.out 0
    have z1 := Blk.cell HZ1.out 1
    have z2 := Blk.cell HZ1.out 2
    have z3 := Blk.cell HZ1.out 3
    simp only [List.getElem?_toArray, List.getElem?_cons_zero, List.getElem?_cons_succ] at z0 z1 z2 z3
    have f0 := Blk.frozen HZ1.out 0
    have f1 := Blk.frozen HZ1.out 1
    have f2 := Blk.frozen HZ1.out 2
    have f3 := Blk.frozen HZ1.out 3
    have hfin := rp_put13 HZ1.out (.int .i64 0) (.int .i64 0) (.string ⟨#[]⟩) (.slice none 0 0)
    have e0 := Blk.cell hfin 0
    have e1 := Blk.cell hfin 1
    have e2 := Blk.cell hfin 2
    have e3 := Blk.cell hfin 3
    simp only [List.getElem?_toArray, List.getElem?_cons_zero, List.getElem?_cons_succ] at e0 e1 e2 e3
    have HBF := Lib.hid (below_four13 (g := w.heap.size) HB1.out (Nat.le_refl _) (.int .i64 0) (.int .i64 0) (.string ⟨#[]⟩) (.slice none 0 0))
    clear hfin
    go_wp2_with fail
    refine bodyPost_ret (v := .tuple #[.agg #[(.int .i64 0), (.int .i64 0), (.string ⟨#[]⟩), (.slice none 0 0)], .int .i64 1]) (by simp [results, Try.results12, go_sem, e0, e1, e2, e3]) rfl (by rw [HE.out]; exact ⟨none, 0, 0, rfl, Nat.le_refl _, isSs_nil _ _, HBF.out⟩)
  | true =>
    have HR : Hid (RightD l) := HRB.out.1 rfl
    clear HRB
    have q := fun W => mayCall_any c i W
    by_cases hg : GoodC c i
    rotate_left
    · have HE : Hid (L = (zeroP13, 1)) := HBAD.out fun h => hg h.2
      have e1 : goodCB c i = false := decide_eq_false hg
      rw [e1] at q
      clear hg e1
      go_wp2_with fail
      ((with_reducible refine (q _).mono ?_); rintro e W_ ⟨rfl, rfl⟩)
      clear q
      have z0 := Blk.cell HZ1.out 0
      have z1 := Blk.cell HZ1.out 1
      have z2 := Blk.cell HZ1.out 2
      have z3 := Blk.cell HZ1.out 3
      simp only [List.getElem?_toArray, List.getElem?_cons_zero, List.getElem?_cons_succ] at z0 z1 z2 z3
      have f0 := Blk.frozen HZ1.out 0
      have f1 := Blk.frozen HZ1.out 1
      have f2 := Blk.frozen HZ1.out 2
      have f3 := Blk.frozen HZ1.out 3
      have hfin := rp_put13 HZ1.out (.int .i64 0) (.int .i64 0) (.string ⟨#[]⟩) (.slice none 0 0)
      have e0 := Blk.cell hfin 0
      have e1 := Blk.cell hfin 1
      have e2 := Blk.cell hfin 2
      have e3 := Blk.cell hfin 3
      simp only [List.getElem?_toArray, List.getElem?_cons_zero, List.getElem?_cons_succ] at e0 e1 e2 e3
      have HBF := Lib.hid (below_four13 (g := w.heap.size) HB1.out (Nat.le_refl _) (.int .i64 0) (.int .i64 0) (.string ⟨#[]⟩) (.slice none 0 0))
      clear hfin
      go_wp2_with fail
      refine bodyPost_ret (v := .tuple #[.agg #[(.int .i64 0), (.int .i64 0), (.string ⟨#[]⟩), (.slice none 0 0)], .int .i64 1]) (by simp [results, Try.results12, go_sem, e0, e1, e2, e3]) rfl (by rw [HE.out]; exact ⟨none, 0, 0, rfl, Nat.le_refl _, isSs_nil _ _, HBF.out⟩)
    have HTL := Lib.hid (HTELL.out ⟨HR.out, hg⟩)
    have e1 : goodCB c i = true := decide_eq_true hg
    rw [e1] at q
    clear hg e1 HTELL HBAD
    go_wp2_with fail
    ((with_reducible refine (q _).mono ?_); rintro e W_ ⟨rfl, rfl⟩)
    clear q
    have q := find_any A n cap l c W1 HT1.out HR.out.2.1 (by have := HR.out.2.2; have := HN.out; omega)
    go_wp2_with fail
    ((with_reducible refine q.mono ?_); rintro e W2 ⟨⟨p, th, hp, rfl⟩, b2⟩)
    clear q
    have HZ2 := Lib.hid (Blk.below HZ1.out b2)
    have HT2 := Lib.hid (HT1.out.below b2)
    have HB2 := Lib.hid (bch HB1.out b2); clear b2
    cases th with
    | false =>
      have hno := placeD_no HR.out.2.1 hp
      have HE : Hid (L = (zeroP13, 70)) := by show _ = _; rw [HTL.out, hno]; rfl
      clear hno hp
      have z0 := Blk.cell HZ2.out 0
      have z1 := Blk.cell HZ2.out 1
      have z2 := Blk.cell HZ2.out 2
      have z3 := Blk.cell HZ2.out 3
      simp only [List.getElem?_toArray, List.getElem?_cons_zero, List.getElem?_cons_succ] at z0 z1 z2 z3
      have f0 := Blk.frozen HZ2.out 0
      have f1 := Blk.frozen HZ2.out 1
      have f2 := Blk.frozen HZ2.out 2
      have f3 := Blk.frozen HZ2.out 3
      have hfin := rp_put13 HZ2.out (.int .i64 0) (.int .i64 0) (.string ⟨#[]⟩) (.slice none 0 0)
      have e0 := Blk.cell hfin 0
      have e1 := Blk.cell hfin 1
      have e2 := Blk.cell hfin 2
      have e3 := Blk.cell hfin 3
      simp only [List.getElem?_toArray, List.getElem?_cons_zero, List.getElem?_cons_succ] at e0 e1 e2 e3
      have HBF := Lib.hid (below_four13 (g := w.heap.size) HB2.out (Nat.le_refl _) (.int .i64 0) (.int .i64 0) (.string ⟨#[]⟩) (.slice none 0 0))
      clear hfin
      go_wp2_with fail
      refine bodyPost_ret (v := .tuple #[.agg #[(.int .i64 0), (.int .i64 0), (.string ⟨#[]⟩), (.slice none 0 0)], .int .i64 70]) (by simp [results, Try.results12, go_sem, e0, e1, e2, e3]) rfl (by rw [HE.out]; exact ⟨none, 0, 0, rfl, Nat.le_refl _, isSs_nil _ _, HBF.out⟩)
    | true =>
      obtain ⟨hpl, hlk⟩ := placeD_yes HR.out.2.1 hp
      have HE0 : Hid (L = tellD (some (atD l p)) i) := by show _ = _; rw [HTL.out, hlk]
      clear hp hlk HTL
      have hpn : p < n := by have := HN.out; omega
      have hp0 : (0 : Int) ≤ (p : Int) := by omega
      have hpi : (p : Int) < (n : Int) := by omega
      obtain ⟨b, off, hA, _⟩ := HT2.out.block (by omega)
      subst hA
      obtain ⟨E, m, cc, hx, _, hss⟩ := HT2.out.at hpl (Below.refl _ _)
      have HSS := Lib.hid hss; clear hss
      have HDW : Hid (DnW (atD l p)) := HT2.out.2.2.1 _ (atD_mem hpl)
      obtain ⟨x0, x1, x2, x3, x4, x5⟩ := hx
      clear hpl
      generalize atD l p = d at *
      by_cases hlt : d.id < i
      · have HE : Hid (L = (zeroP13, 70)) := by show _ = _; rw [HE0.out]; exact if_pos hlt
        clear HE0
        have z0 := Blk.cell HZ2.out 0
        have z1 := Blk.cell HZ2.out 1
        have z2 := Blk.cell HZ2.out 2
        have z3 := Blk.cell HZ2.out 3
        simp only [List.getElem?_toArray, List.getElem?_cons_zero, List.getElem?_cons_succ] at z0 z1 z2 z3
        have f0 := Blk.frozen HZ2.out 0
        have f1 := Blk.frozen HZ2.out 1
        have f2 := Blk.frozen HZ2.out 2
        have f3 := Blk.frozen HZ2.out 3
        have hfin := rp_put13 HZ2.out (.int .i64 0) (.int .i64 0) (.string ⟨#[]⟩) (.slice none 0 0)
        have e0 := Blk.cell hfin 0
        have e1 := Blk.cell hfin 1
        have e2 := Blk.cell hfin 2
        have e3 := Blk.cell hfin 3
        simp only [List.getElem?_toArray, List.getElem?_cons_zero, List.getElem?_cons_succ] at e0 e1 e2 e3
        have HBF := Lib.hid (below_four13 (g := w.heap.size) HB2.out (Nat.le_refl _) (.int .i64 0) (.int .i64 0) (.string ⟨#[]⟩) (.slice none 0 0))
        clear hfin
        go_wp2_with fail
        refine bodyPost_ret (v := .tuple #[.agg #[(.int .i64 0), (.int .i64 0), (.string ⟨#[]⟩), (.slice none 0 0)], .int .i64 70]) (by simp [results, Try.results12, go_sem, e0, e1, e2, e3]) rfl (by rw [HE.out]; exact ⟨none, 0, 0, rfl, Nat.le_refl _, isSs_nil _ _, HBF.out⟩)
      by_cases hgt : i < d.id
      · have HE : Hid (L = (zeroP13, 81)) := by show _ = _; rw [HE0.out]; unfold tellD; simp only; rw [if_neg hlt, if_pos hgt]
        clear HE0
        have z0 := Blk.cell HZ2.out 0
        have z1 := Blk.cell HZ2.out 1
        have z2 := Blk.cell HZ2.out 2
        have z3 := Blk.cell HZ2.out 3
        simp only [List.getElem?_toArray, List.getElem?_cons_zero, List.getElem?_cons_succ] at z0 z1 z2 z3
        have f0 := Blk.frozen HZ2.out 0
        have f1 := Blk.frozen HZ2.out 1
        have f2 := Blk.frozen HZ2.out 2
        have f3 := Blk.frozen HZ2.out 3
        have hfin := rp_put13 HZ2.out (.int .i64 0) (.int .i64 0) (.string ⟨#[]⟩) (.slice none 0 0)
        have e0 := Blk.cell hfin 0
        have e1 := Blk.cell hfin 1
        have e2 := Blk.cell hfin 2
        have e3 := Blk.cell hfin 3
        simp only [List.getElem?_toArray, List.getElem?_cons_zero, List.getElem?_cons_succ] at e0 e1 e2 e3
        have HBF := Lib.hid (below_four13 (g := w.heap.size) HB2.out (Nat.le_refl _) (.int .i64 0) (.int .i64 0) (.string ⟨#[]⟩) (.slice none 0 0))
        clear hfin
        go_wp2_with fail
        refine bodyPost_ret (v := .tuple #[.agg #[(.int .i64 0), (.int .i64 0), (.string ⟨#[]⟩), (.slice none 0 0)], .int .i64 81]) (by simp [results, Try.results12, go_sem, e0, e1, e2, e3]) rfl (by rw [HE.out]; exact ⟨none, 0, 0, rfl, Nat.le_refl _, isSs_nil _ _, HBF.out⟩)
      have HE : Hid (L = (d.rep, 0)) := by show _ = _; rw [HE0.out]; unfold tellD; simp only; rw [if_neg hlt, if_neg hgt]
      clear HE0
      have q := copiedR_any d.rep E m cc W2 HSS.out (by have h1 := HDW.out.2.2.2; have h2 := HSS.out.1; omega)
      unfold rpV at q
      go_wp2_with fail
      ((with_reducible refine q.mono ?_); rintro e W3 ⟨A1, m1, c1, rfl, hc1, hss1, hst1, b3⟩)
      unfold rpV
      clear q x0 x1 x2 x3 x4 x5
      have HZ3 := Lib.hid (Blk.below HZ2.out b3)
      have HB3 := Lib.hid (bch HB2.out b3); clear b3
      have HC1 := Lib.hid hc1; clear hc1
      have HK3 : Hid (KeyS W3 A1 m1 d.rep.keys) := ⟨hss1, hst1⟩
      clear hss1 hst1
      have hs1 := Blk.set HZ3.out 0 (.int .i64 d.rep.errno) #[.int .i64 d.rep.errno, .int .i64 0, .string ⟨#[]⟩, .slice none 0 0] rfl
      have hs2 := Blk.set hs1 1 (.int .i64 d.rep.rev) #[.int .i64 d.rep.errno, .int .i64 d.rep.rev, .string ⟨#[]⟩, .slice none 0 0] rfl
      have hs3 := Blk.set hs2 2 (.string d.rep.value) #[.int .i64 d.rep.errno, .int .i64 d.rep.rev, .string d.rep.value, .slice none 0 0] rfl
      have HKF := Lib.hid ((((HK3.out.far (j := 0) (u := .int .i64 d.rep.errno) HZ3.out (by decide)).far (j := 1) (u := .int .i64 d.rep.rev) hs1 (by decide)).far (j := 2) (u := .string d.rep.value) hs2 (by decide)).far (j := 3) (u := .slice A1 m1 c1) hs3 (by decide))
      clear hs1 hs2 hs3
      have z0 := Blk.cell HZ3.out 0
      have z1 := Blk.cell HZ3.out 1
      have z2 := Blk.cell HZ3.out 2
      have z3 := Blk.cell HZ3.out 3
      simp only [List.getElem?_toArray, List.getElem?_cons_zero, List.getElem?_cons_succ] at z0 z1 z2 z3
      have f0 := Blk.frozen HZ3.out 0
      have f1 := Blk.frozen HZ3.out 1
      have f2 := Blk.frozen HZ3.out 2
      have f3 := Blk.frozen HZ3.out 3
      have hfin := rp_put13 HZ3.out (.int .i64 d.rep.errno) (.int .i64 d.rep.rev) (.string d.rep.value) (.slice A1 m1 c1)
      have e0 := Blk.cell hfin 0
      have e1 := Blk.cell hfin 1
      have e2 := Blk.cell hfin 2
      have e3 := Blk.cell hfin 3
      simp only [List.getElem?_toArray, List.getElem?_cons_zero, List.getElem?_cons_succ] at e0 e1 e2 e3
      have HBF := Lib.hid (below_four13 (g := w.heap.size) HB3.out (Nat.le_refl _) (.int .i64 d.rep.errno) (.int .i64 d.rep.rev) (.string d.rep.value) (.slice A1 m1 c1))
      clear hfin
      go_wp2_with fail
      refine bodyPost_ret (v := .tuple #[.agg #[(.int .i64 d.rep.errno), (.int .i64 d.rep.rev), (.string d.rep.value), (.slice A1 m1 c1)], .int .i64 0]) (by simp [results, Try.results12, go_sem, e0, e1, e2, e3]) rfl (by rw [HE.out]; exact ⟨A1, m1, c1, rfl, HC1.out, HKF.out.1, HBF.out⟩)
theorem lookQ_any : LookQ := fun l c i A n cap w _ h _ _ _ => look13_any l c i A n cap w h
end Go.Proofs.Ytgckoihangccbaa
