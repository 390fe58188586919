import Derived.Test.YtndkmepdnekigaaCtOwn
import Derived.Test.YtndkmepdnekigaaCtWf
import Derived.Laws.OwnMore
/-
  The contract of the document's own New of controllers (stage 18).
-/
namespace Go.Proofs.Ytndkmepdnekigaa
open Go.RowKit
set_option linter.unusedVariables false
set_option linter.unusedSimpArgs false

set_option maxRecDepth 100000 in
set_option maxHeartbeats 8000000 in
theorem refnew9_any (n h b : Int) (w : World) (hn : (Lit.int .i64 n).wf = true) (hh : (Lit.int .i64 h).wf = true) (hb : (Lit.int .i64 b).wf = true) :
    Calls Try.prog 13 #[.int .i64 n, .int .i64 h, .int .i64 b] w (OwnPost w (newC n h b)) := by
  have HZ0 := Blk.below (Blk.below (Blk.new w (.cells #[.int .i64 0, .slice none 0 0, .slice none 0 0] 26)) (ba9 (w.alloc (.cells #[.int .i64 0, .slice none 0 0, .slice none 0 0] 26)) (.cells #[.int .i64 h, .int .i64 b] 45))) (ba9 ((w.alloc (.cells #[.int .i64 0, .slice none 0 0, .slice none 0 0] 26)).alloc (.cells #[.int .i64 h, .int .i64 b] 45)) (.cells #[.int .i64 1, .slice (some ⟨w.heap.size + 1, 0, none⟩) 1 1, .slice none 0 0] 26))
  have HRM0 : RowG s2 45 ((w.alloc (.cells #[.int .i64 0, .slice none 0 0, .slice none 0 0] 26)).alloc (.cells #[.int .i64 h, .int .i64 b] 45)) (w.heap.size + 1) (.slice (some ⟨w.heap.size + 1, 0, none⟩) 1 1) [(h, b)] := by
    have h9 := World.ownsRow_lit (base := w.heap.size + 1) (e := 45) (size := 2) (w.alloc (.cells #[.int .i64 0, .slice none 0 0, .slice none 0 0] 26)) #[.int .i64 h, .int .i64 b] 1 (by rw [World.size_alloc]; exact Nat.le_refl _) (by unfold maxLen; omega) rfl
    rw [World.size_alloc] at h9
    exact h9
  have HRM1 := HRM0.below (ba9 ((w.alloc (.cells #[.int .i64 0, .slice none 0 0, .slice none 0 0] 26)).alloc (.cells #[.int .i64 h, .int .i64 b] 45)) (.cells #[.int .i64 1, .slice (some ⟨w.heap.size + 1, 0, none⟩) 1 1, .slice none 0 0] 26))
  have HA0 := Blk.new ((w.alloc (.cells #[.int .i64 0, .slice none 0 0, .slice none 0 0] 26)).alloc (.cells #[.int .i64 h, .int .i64 b] 45)) (.cells #[.int .i64 1, .slice (some ⟨w.heap.size + 1, 0, none⟩) 1 1, .slice none 0 0] 26)
  rw [World.size_alloc, World.size_alloc] at HA0
  have HB0 := ((ba9 w (.cells #[.int .i64 0, .slice none 0 0, .slice none 0 0] 26)).alloc (ba9 w (.cells #[.int .i64 0, .slice none 0 0, .slice none 0 0] 26)).size (.cells #[.int .i64 h, .int .i64 b] 45)).alloc ((ba9 w (.cells #[.int .i64 0, .slice none 0 0, .slice none 0 0] 26)).alloc (ba9 w (.cells #[.int .i64 0, .slice none 0 0, .slice none 0 0] 26)).size (.cells #[.int .i64 h, .int .i64 b] 45)).size (.cells #[.int .i64 1, .slice (some ⟨w.heap.size + 1, 0, none⟩) 1 1, .slice none 0 0] 26)
  clear HRM0
  obtain ⟨W1, hW⟩ : ∃ W, ((w.alloc (.cells #[.int .i64 0, .slice none 0 0, .slice none 0 0] 26)).alloc (.cells #[.int .i64 h, .int .i64 b] 45)).alloc (.cells #[.int .i64 1, .slice (some ⟨w.heap.size + 1, 0, none⟩) 1 1, .slice none 0 0] 26) = W := ⟨_, rfl⟩
  rw [hW] at HZ0 HRM1 HA0 HB0
  have HW := Lib.hid hW; clear hW
  have HZ := Lib.hid HZ0; clear HZ0
  have HRM := Lib.hid HRM1; clear HRM1
  have HA := Lib.hid HA0; clear HA0
  have HB := Lib.hid HB0; clear HB0
  go_enter Try.func13, Try.ntmps13
  go_upto_region 2 with fail
  rw [HW.out]
  clear HW
  have HRZ : Hid (RowG s3 48 W1 (w.heap.size + 3) (.slice none 0 0) []) := rowG_nil _ _
  have HSZ : Hid (w.heap.size + 3 ≤ W1.heap.size) := Blk.lt HA.out
  go_wp2_with fail
  go_loopw [8] (fun i wr => ∃ k : Nat, k ≤ 9 ∧ (k : Int) ≤ max 0 n ∧ i = .int .i64 k ∧ ∃ Bp cp, Hid (Blk wr (w.heap.size + 2) (.cells #[.int .i64 1, .slice (some ⟨w.heap.size + 1, 0, none⟩) 1 1, .slice Bp k cp] 26)) ∧ Hid (RowG s3 48 wr (w.heap.size + 3) (.slice Bp k cp) (List.replicate k (h, 1, 0))) ∧ Hid (Blk wr w.heap.size (.cells #[.int .i64 0, .slice none 0 0, .slice none 0 0] 26)) ∧ Hid (RowG s2 45 wr (w.heap.size + 1) (.slice (some ⟨w.heap.size + 1, 0, none⟩) 1 1) [(h, b)]) ∧ Hid (Below w.heap.size w wr ∧ w.heap.size + 3 ≤ wr.heap.size)) (fun i _ => 9 - (intOf i).toNat)
  case atStart => exact ⟨0, by omega, by omega, rfl, none, 0, HA.out, HRZ.out, HZ.out, HRM.out, HB.out, HSZ.out⟩
  case round =>
    clear HA HRZ HZ HRM HB HSZ
    obtain ⟨k, hk, hkn, rfl, Bp, cp, HA, HRP, HZ, HRM, HB⟩ := hrel
    have hkn2 : k = 0 ∨ (k : Int) ≤ n := by omega
    by_cases hlt : (k : Int) < n
    · by_cases hl9 : k < 9
      · have z2 := Blk.cell HA.out 2
        simp only [List.getElem?_toArray, List.getElem?_cons_zero, List.getElem?_cons_succ] at z2
        have f2 := Blk.frozen HA.out 2
        have hl9i : (k : Int) < 9 := by omega
        obtain ⟨Ap_, cp_, hvp, hcp, hip⟩ := HRP.out.parts
        clear hvp hcp hip Ap_ cp_
        have hb2 := HB.out.1.alloc HB.out.1.size (.cells #[.int .i64 h, .int .i64 1, .int .i64 0] 48)
        have hbA := ba9 wr (.cells #[.int .i64 h, .int .i64 1, .int .i64 0] 48)
        have hr2 := HRP.out.below hbA
        have hlen : (List.replicate k ((h, 1, 0) : PlR)).length = k := List.length_replicate
        have HLT : Hid (w.heap.size + 3 ≤ (wr.alloc (.cells #[.int .i64 h, .int .i64 1, .int .i64 0] 48)).heap.size) := by show _ ≤ _; have := HB.out.2; rw [World.size_alloc]; omega
        have HA2 := Lib.hid (Blk.below HA.out hbA); have HZ2 := Lib.hid (Blk.below HZ.out hbA); have HRM2 := Lib.hid (HRM.out.below hbA); have HB2 := Lib.hid hb2
        have HONE : Hid (IsG s3 (wr.alloc (.cells #[.int .i64 h, .int .i64 1, .int .i64 0] 48)) (some ⟨wr.heap.size, 0, none⟩) 1 [((h, 1, 0) : PlR)]) := isG_one (S := s3) wr (h, 1, 0) _
        clear HA HZ HRM HB hb2 hbA
        go_wp2_with (at_builtin; refine wpList_append_g (S := s3) (T := 48) Try.underlying24 infoP9 rfl rfl _ _ rfl (w.heap.size + 3) _ (List.replicate k (h, 1, 0)) rfl hr2 _ 1 1 [(h, 1, 0)] rfl HONE.out (by unfold maxLen; rw [hlen]; omega) (by rw [hlen]; omega) HLT.out ?_)
        intro v2 W3 hr3 hg3 _
        rw [← List.replicate_succ' (n := k)] at hr3
        have hfar : ∀ g, g < w.heap.size + 3 → some g ≠ (Value.slice Bp k cp).ownBlock := fun g hg e => by have := (hr2.lt g e.symm).1; omega
        have HA3 := Lib.hid (Blk.kept HA2.out hg3 (hfar _ (by omega)))
        have HZ3 := Lib.hid (Blk.kept HZ2.out hg3 (hfar _ (by omega)))
        have HRM3 : Hid (RowG s2 45 W3 (w.heap.size + 1) (.slice (some ⟨w.heap.size + 1, 0, none⟩) 1 1) [(h, b)]) := World.ownsRow.kept HRM2.out hg3 (.inr (hfar (w.heap.size + 1) (by omega)))
        have HB3 := Lib.hid (HB2.out.grown hg3 (by have := HLT.out; omega) (fun g hg => by have := (hr2.lt g hg).1; omega))
        have HS3 : Hid (w.heap.size + 3 ≤ W3.heap.size) := Nat.le_trans HLT.out hg3.size
        obtain ⟨A3, cap3, hv3, hc3, _⟩ := hr3.parts
        rw [List.length_replicate] at hv3
        subst hv3
        have HR3 := Lib.hid hr3
        clear hr3 hr2 hg3 hfar HA2 HZ2 HRM2 HB2 HLT HONE z2 f2 hc3
        have z2 := Blk.cell HA3.out 2
        simp only [List.getElem?_toArray, List.getElem?_cons_zero, List.getElem?_cons_succ] at z2
        have f2 := Blk.frozen HA3.out 2
        go_wp2_with fail
        go_roundw
        case rel =>
          refine ⟨k + 1, by omega, by omega, by go_num, A3, cap3, ?_, ?_, ?_, ?_, ?_⟩
          · exact Blk.set HA3.out 2 (.slice A3 (k + 1) cap3) #[.int .i64 1, .slice (some ⟨w.heap.size + 1, 0, none⟩) 1 1, .slice A3 (k + 1) cap3] rfl
          · exact HR3.out.farB (by omega) _
          · exact Blk.far HZ3.out (by omega) 2 (.slice A3 (k + 1) cap3)
          · exact HRM3.out.far (fun e => by have h9 : w.heap.size + 1 = w.heap.size + 2 := Option.some.inj e; omega) _
          · exact ⟨HB3.out.setCell (p := ⟨w.heap.size + 2, 2, none⟩) (by show w.heap.size ≤ w.heap.size + 2; omega) _, by rw [World.size_setCell]; exact HS3.out⟩
        case measure => simp [intOf]; omega
      · have HK9 : Hid (k = min n.toNat 9) := by show k = _; omega
        have hl9i : (9 : Int) ≤ (k : Int) := by omega
        clear hkn2 hkn
        obtain ⟨_, _, hvp, hcp, hip⟩ := HRP.out.parts
        obtain ⟨rfl, hx1, rfl⟩ := slice_eqG hvp
        rw [List.length_replicate] at hip
        clear hvp hcp
        obtain ⟨_, _, hvm, hcm, him⟩ := HRM.out.parts
        obtain ⟨rfl, hx2, rfl⟩ := slice_eqG hvm
        clear hvm hcm hx1 hx2
        have hpl : List.replicate k ((h, 1, 0) : PlR) = (newRaw n h b).pl := by show _ = List.replicate _ _; rw [← HK9.out]
        have HPL := Lib.hid hpl
        rw [hpl] at hip
        have q : Calls Try.prog 17 #[.agg #[.int .i64 1, .slice (some ⟨w.heap.size + 1, 0, none⟩) 1 1, .slice Bp k cp]] wr (fun e w' => e = .returned (.bool (rightC (newRaw n h b))) ∧ Below wr.heap.size wr w') := refright9_any (newRaw n h b) (some ⟨w.heap.size + 1, 0, none⟩) Bp 1 1 k cp wr ⟨him, hip⟩
        have HR : Hid (rightC (newRaw n h b) = decide (RightC (newRaw n h b))) := rfl
        have HN : Hid (newC n h b = if RightC (newRaw n h b) then newRaw n h b else zeroC) := rfl
        clear him hip hpl
        have z0 := Blk.cell HA.out 0
        have z1 := Blk.cell HA.out 1
        have z2 := Blk.cell HA.out 2
        simp only [List.getElem?_toArray, List.getElem?_cons_zero, List.getElem?_cons_succ] at z0 z1 z2
        generalize rightC (newRaw n h b) = rb at *
        go_wp2_with fail
        ((with_reducible refine q.mono ?_); rintro e V5 ⟨rfl, b5⟩)
        have HB9 := Lib.hid (bch HB.out.1 b5)
        have HZ9 := Lib.hid (Blk.below HZ.out b5)
        have HA9 := Lib.hid (Blk.below HA.out b5)
        have HRM9 := Lib.hid (HRM.out.below b5)
        have HRP9 := Lib.hid (HRP.out.below b5)
        clear q z0 z1 z2 b5 HB HZ HA HRM HRP
        cases rb with
        | false =>
          have HE : Hid (newC n h b = zeroC) := by show _ = _; rw [HN.out, if_neg (by have := HR.out; simpa using this)]
          clear HR HN
          have x0 := Blk.cell HZ9.out 0
          have x1 := Blk.cell HZ9.out 1
          have x2 := Blk.cell HZ9.out 2
          simp only [List.getElem?_toArray, List.getElem?_cons_zero, List.getElem?_cons_succ] at x0 x1 x2
          have f0 := Blk.frozen HZ9.out 0
          have f1 := Blk.frozen HZ9.out 1
          have f2 := Blk.frozen HZ9.out 2
          have hz3 := Blk.set (Blk.set (Blk.set HZ9.out 0 (.int .i64 0) #[.int .i64 0, .slice none 0 0, .slice none 0 0] rfl) 1 (.slice none 0 0) #[.int .i64 0, .slice none 0 0, .slice none 0 0] rfl) 2 (.slice none 0 0) #[.int .i64 0, .slice none 0 0, .slice none 0 0] rfl
          have hb3 := ((HB9.out.setCell (p := ⟨w.heap.size, 0, none⟩) (Nat.le_refl _) (.int .i64 0)).setCell (p := ⟨w.heap.size, 1, none⟩) (Nat.le_refl _) (.slice none 0 0)).setCell (p := ⟨w.heap.size, 2, none⟩) (Nat.le_refl _) (.slice none 0 0)
          have hrm3 := rowG_nil (S := s2) (T := 45) w w.heap.size
          have hrp3 := rowG_nil (S := s3) (T := 48) w w.heap.size
          have HZ3 := Lib.hid hz3; clear hz3
          have HIM := Lib.hid hrm3; have HIP := Lib.hid hrp3; have HB3 := Lib.hid hb3
          clear hrm3 hrp3 hb3
          go_wp2_with fail
          have e0 := Blk.cell HZ3.out 0
          have e1 := Blk.cell HZ3.out 1
          have e2 := Blk.cell HZ3.out 2
          simp only [List.getElem?_toArray, List.getElem?_cons_zero, List.getElem?_cons_succ] at e0 e1 e2
          refine bodyPost_ret (v := .agg #[.int .i64 0, .slice none 0 0, .slice none 0 0]) (by simp [results, Try.results13, go_sem, e0, e1, e2]) rfl ?_
          rw [HE.out]
          exact ⟨none, 0, 0, none, 0, 0, rfl, rowG_nil _ _, rowG_nil _ _, fun h => absurd h (Nat.lt_irrefl _), HB3.out⟩
        | true =>
          have HE : Hid (newC n h b = newRaw n h b) := by show _ = _; rw [HN.out, if_pos (by have := HR.out; simpa using this)]
          clear HR HN
          have a0 := Blk.cell HA9.out 0
          have a1 := Blk.cell HA9.out 1
          have a2 := Blk.cell HA9.out 2
          simp only [List.getElem?_toArray, List.getElem?_cons_zero, List.getElem?_cons_succ] at a0 a1 a2
          have x0 := Blk.cell HZ9.out 0
          have x1 := Blk.cell HZ9.out 1
          have x2 := Blk.cell HZ9.out 2
          simp only [List.getElem?_toArray, List.getElem?_cons_zero, List.getElem?_cons_succ] at x0 x1 x2
          have f0 := Blk.frozen HZ9.out 0
          have f1 := Blk.frozen HZ9.out 1
          have f2 := Blk.frozen HZ9.out 2
          have hz3 := Blk.set (Blk.set (Blk.set HZ9.out 0 (.int .i64 1) #[.int .i64 1, .slice none 0 0, .slice none 0 0] rfl) 1 (.slice (some ⟨w.heap.size + 1, 0, none⟩) 1 1) #[.int .i64 1, .slice (some ⟨w.heap.size + 1, 0, none⟩) 1 1, .slice none 0 0] rfl) 2 (.slice Bp k cp) #[.int .i64 1, .slice (some ⟨w.heap.size + 1, 0, none⟩) 1 1, .slice Bp k cp] rfl
          have hb3 := ((HB9.out.setCell (p := ⟨w.heap.size, 0, none⟩) (Nat.le_refl _) (.int .i64 1)).setCell (p := ⟨w.heap.size, 1, none⟩) (Nat.le_refl _) (.slice (some ⟨w.heap.size + 1, 0, none⟩) 1 1)).setCell (p := ⟨w.heap.size, 2, none⟩) (Nat.le_refl _) (.slice Bp k cp)
          have hrm3 := (((HRM9.out.farB (g := w.heap.size) (j := 0) (by omega) (.int .i64 1)).farB (g := w.heap.size) (j := 1) (by omega) (.slice (some ⟨w.heap.size + 1, 0, none⟩) 1 1)).farB (g := w.heap.size) (j := 2) (by omega) (.slice Bp k cp)).mono (base2 := w.heap.size) (by omega)
          have hrp3 := (((HRP9.out.farB (g := w.heap.size) (j := 0) (by omega) (.int .i64 1)).farB (g := w.heap.size) (j := 1) (by omega) (.slice (some ⟨w.heap.size + 1, 0, none⟩) 1 1)).farB (g := w.heap.size) (j := 2) (by omega) (.slice Bp k cp)).mono (base2 := w.heap.size) (by omega)
          have HZ3 := Lib.hid hz3; clear hz3
          have HIM := Lib.hid hrm3; have HIP := Lib.hid hrp3; have HB3 := Lib.hid hb3
          clear hrm3 hrp3 hb3
          go_wp2_with fail
          have e0 := Blk.cell HZ3.out 0
          have e1 := Blk.cell HZ3.out 1
          have e2 := Blk.cell HZ3.out 2
          simp only [List.getElem?_toArray, List.getElem?_cons_zero, List.getElem?_cons_succ] at e0 e1 e2
          refine bodyPost_ret (v := .agg #[.int .i64 1, .slice (some ⟨w.heap.size + 1, 0, none⟩) 1 1, .slice Bp k cp]) (by simp [results, Try.results13, go_sem, e0, e1, e2]) rfl ?_
          rw [HE.out]
          exact ⟨some ⟨w.heap.size + 1, 0, none⟩, 1, 1, Bp, k, cp, rfl, HIM.out, by show RowG _ _ _ _ _ (newRaw n h b).pl; rw [← HPL.out]; exact HIP.out, fun _ _ e => by have h9 := HRP9.out.lt (w.heap.size + 1) (by rw [← e]; rfl); omega, HB3.out⟩
    · have HK9 : Hid (k = min n.toNat 9) := by show k = _; omega
      have hltn : n ≤ (k : Int) := by omega
      clear hkn2 hkn
      obtain ⟨_, _, hvp, hcp, hip⟩ := HRP.out.parts
      obtain ⟨rfl, hx1, rfl⟩ := slice_eqG hvp
      rw [List.length_replicate] at hip
      clear hvp hcp
      obtain ⟨_, _, hvm, hcm, him⟩ := HRM.out.parts
      obtain ⟨rfl, hx2, rfl⟩ := slice_eqG hvm
      clear hvm hcm hx1 hx2
      have hpl : List.replicate k ((h, 1, 0) : PlR) = (newRaw n h b).pl := by show _ = List.replicate _ _; rw [← HK9.out]
      have HPL := Lib.hid hpl
      rw [hpl] at hip
      have q : Calls Try.prog 17 #[.agg #[.int .i64 1, .slice (some ⟨w.heap.size + 1, 0, none⟩) 1 1, .slice Bp k cp]] wr (fun e w' => e = .returned (.bool (rightC (newRaw n h b))) ∧ Below wr.heap.size wr w') := refright9_any (newRaw n h b) (some ⟨w.heap.size + 1, 0, none⟩) Bp 1 1 k cp wr ⟨him, hip⟩
      have HR : Hid (rightC (newRaw n h b) = decide (RightC (newRaw n h b))) := rfl
      have HN : Hid (newC n h b = if RightC (newRaw n h b) then newRaw n h b else zeroC) := rfl
      clear him hip hpl
      have z0 := Blk.cell HA.out 0
      have z1 := Blk.cell HA.out 1
      have z2 := Blk.cell HA.out 2
      simp only [List.getElem?_toArray, List.getElem?_cons_zero, List.getElem?_cons_succ] at z0 z1 z2
      generalize rightC (newRaw n h b) = rb at *
      go_wp2_with fail
      ((with_reducible refine q.mono ?_); rintro e V5 ⟨rfl, b5⟩)
      have HB9 := Lib.hid (bch HB.out.1 b5)
      have HZ9 := Lib.hid (Blk.below HZ.out b5)
      have HA9 := Lib.hid (Blk.below HA.out b5)
      have HRM9 := Lib.hid (HRM.out.below b5)
      have HRP9 := Lib.hid (HRP.out.below b5)
      clear q z0 z1 z2 b5 HB HZ HA HRM HRP
      cases rb with
      | false =>
        have HE : Hid (newC n h b = zeroC) := by show _ = _; rw [HN.out, if_neg (by have := HR.out; simpa using this)]
        clear HR HN
        have x0 := Blk.cell HZ9.out 0
        have x1 := Blk.cell HZ9.out 1
        have x2 := Blk.cell HZ9.out 2
        simp only [List.getElem?_toArray, List.getElem?_cons_zero, List.getElem?_cons_succ] at x0 x1 x2
        have f0 := Blk.frozen HZ9.out 0
        have f1 := Blk.frozen HZ9.out 1
        have f2 := Blk.frozen HZ9.out 2
        have hz3 := Blk.set (Blk.set (Blk.set HZ9.out 0 (.int .i64 0) #[.int .i64 0, .slice none 0 0, .slice none 0 0] rfl) 1 (.slice none 0 0) #[.int .i64 0, .slice none 0 0, .slice none 0 0] rfl) 2 (.slice none 0 0) #[.int .i64 0, .slice none 0 0, .slice none 0 0] rfl
        have hb3 := ((HB9.out.setCell (p := ⟨w.heap.size, 0, none⟩) (Nat.le_refl _) (.int .i64 0)).setCell (p := ⟨w.heap.size, 1, none⟩) (Nat.le_refl _) (.slice none 0 0)).setCell (p := ⟨w.heap.size, 2, none⟩) (Nat.le_refl _) (.slice none 0 0)
        have hrm3 := rowG_nil (S := s2) (T := 45) w w.heap.size
        have hrp3 := rowG_nil (S := s3) (T := 48) w w.heap.size
        have HZ3 := Lib.hid hz3; clear hz3
        have HIM := Lib.hid hrm3; have HIP := Lib.hid hrp3; have HB3 := Lib.hid hb3
        clear hrm3 hrp3 hb3
        go_wp2_with fail
        have e0 := Blk.cell HZ3.out 0
        have e1 := Blk.cell HZ3.out 1
        have e2 := Blk.cell HZ3.out 2
        simp only [List.getElem?_toArray, List.getElem?_cons_zero, List.getElem?_cons_succ] at e0 e1 e2
        refine bodyPost_ret (v := .agg #[.int .i64 0, .slice none 0 0, .slice none 0 0]) (by simp [results, Try.results13, go_sem, e0, e1, e2]) rfl ?_
        rw [HE.out]
        exact ⟨none, 0, 0, none, 0, 0, rfl, rowG_nil _ _, rowG_nil _ _, fun h => absurd h (Nat.lt_irrefl _), HB3.out⟩
      | true =>
        have HE : Hid (newC n h b = newRaw n h b) := by show _ = _; rw [HN.out, if_pos (by have := HR.out; simpa using this)]
        clear HR HN
        have a0 := Blk.cell HA9.out 0
        have a1 := Blk.cell HA9.out 1
        have a2 := Blk.cell HA9.out 2
        simp only [List.getElem?_toArray, List.getElem?_cons_zero, List.getElem?_cons_succ] at a0 a1 a2
        have x0 := Blk.cell HZ9.out 0
        have x1 := Blk.cell HZ9.out 1
        have x2 := Blk.cell HZ9.out 2
        simp only [List.getElem?_toArray, List.getElem?_cons_zero, List.getElem?_cons_succ] at x0 x1 x2
        have f0 := Blk.frozen HZ9.out 0
        have f1 := Blk.frozen HZ9.out 1
        have f2 := Blk.frozen HZ9.out 2
        have hz3 := Blk.set (Blk.set (Blk.set HZ9.out 0 (.int .i64 1) #[.int .i64 1, .slice none 0 0, .slice none 0 0] rfl) 1 (.slice (some ⟨w.heap.size + 1, 0, none⟩) 1 1) #[.int .i64 1, .slice (some ⟨w.heap.size + 1, 0, none⟩) 1 1, .slice none 0 0] rfl) 2 (.slice Bp k cp) #[.int .i64 1, .slice (some ⟨w.heap.size + 1, 0, none⟩) 1 1, .slice Bp k cp] rfl
        have hb3 := ((HB9.out.setCell (p := ⟨w.heap.size, 0, none⟩) (Nat.le_refl _) (.int .i64 1)).setCell (p := ⟨w.heap.size, 1, none⟩) (Nat.le_refl _) (.slice (some ⟨w.heap.size + 1, 0, none⟩) 1 1)).setCell (p := ⟨w.heap.size, 2, none⟩) (Nat.le_refl _) (.slice Bp k cp)
        have hrm3 := (((HRM9.out.farB (g := w.heap.size) (j := 0) (by omega) (.int .i64 1)).farB (g := w.heap.size) (j := 1) (by omega) (.slice (some ⟨w.heap.size + 1, 0, none⟩) 1 1)).farB (g := w.heap.size) (j := 2) (by omega) (.slice Bp k cp)).mono (base2 := w.heap.size) (by omega)
        have hrp3 := (((HRP9.out.farB (g := w.heap.size) (j := 0) (by omega) (.int .i64 1)).farB (g := w.heap.size) (j := 1) (by omega) (.slice (some ⟨w.heap.size + 1, 0, none⟩) 1 1)).farB (g := w.heap.size) (j := 2) (by omega) (.slice Bp k cp)).mono (base2 := w.heap.size) (by omega)
        have HZ3 := Lib.hid hz3; clear hz3
        have HIM := Lib.hid hrm3; have HIP := Lib.hid hrp3; have HB3 := Lib.hid hb3
        clear hrm3 hrp3 hb3
        go_wp2_with fail
        have e0 := Blk.cell HZ3.out 0
        have e1 := Blk.cell HZ3.out 1
        have e2 := Blk.cell HZ3.out 2
        simp only [List.getElem?_toArray, List.getElem?_cons_zero, List.getElem?_cons_succ] at e0 e1 e2
        refine bodyPost_ret (v := .agg #[.int .i64 1, .slice (some ⟨w.heap.size + 1, 0, none⟩) 1 1, .slice Bp k cp]) (by simp [results, Try.results13, go_sem, e0, e1, e2]) rfl ?_
        rw [HE.out]
        exact ⟨some ⟨w.heap.size + 1, 0, none⟩, 1, 1, Bp, k, cp, rfl, HIM.out, by show RowG _ _ _ _ _ (newRaw n h b).pl; rw [← HPL.out]; exact HIP.out, fun _ _ e => by have h9 := HRP9.out.lt (w.heap.size + 1) (by rw [← e]; rfl); omega, HB3.out⟩
end Go.Proofs.Ytndkmepdnekigaa
