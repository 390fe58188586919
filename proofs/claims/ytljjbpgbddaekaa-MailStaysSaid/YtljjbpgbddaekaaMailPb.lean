import Derived.Test.YtljjbpgbddaekaaMailPa
import Derived.Test.YtljjbpgbddaekaaMailSteps
/-
  The contracts of the program's own Take and Lose (stage 11).
-/
namespace Go.Proofs.Ytljjbpgbddaekaa
open Go.RowKit
set_option linter.unusedVariables false
set_option linter.unusedSimpArgs false

set_option maxRecDepth 100000 in
set_option maxHeartbeats 8000000 in
theorem takeC : TakeM := fun l i A n cap w hi hcap h h32 => by
  obtain ⟨R, hR⟩ : ∃ R, takeL l i = R := ⟨_, rfl⟩
  rw [hR]
  unfold takeL at hR
  have HN : Hid (n = l.length) := h.1
  have hr0 := LtBlk.new w zeroL
  have hb0 : Below w.heap.size w (w.alloc (.cells #[.int .i64 0, .int .i64 0, .string ⟨#[]⟩] 25)) := (Below.refl _ _).alloc (Nat.le_refl _) _
  have hz0 : (w.alloc (.cells #[.int .i64 0, .int .i64 0, .string ⟨#[]⟩] 25)).heap.size = w.heap.size + 1 := by simp
  simp only [zeroL] at hr0
  cases ht : thereL l i with
  | false =>
    rw [if_neg (by rw [ht]; simp)] at hR
    have HR := Lib.hid hR.symm
    have q := has_any A n cap l i (w.alloc (.cells #[.int .i64 0, .int .i64 0, .string ⟨#[]⟩] 25)) h.1 (by omega)
    rw [ht] at q
    have HL := Lib.hid (h.below hb0)
    obtain ⟨z0, z1, z2⟩ := hr0.cells
    simp only at z0 z1 z2
    have HB := Lib.hid hb0
    clear hR ht h hb0 hz0 hr0
    go_enter Try.func19, Try.ntmps19
    go_wp2_with fail
    ((with_reducible refine q.mono ?_); rintro e W_ ⟨rfl, rfl⟩)
    go_wp2_with fail
    refine bodyPost_ret (v := .tuple #[ltV zeroL, .slice A n cap, .bool false]) (by simp [zeroL, results, Try.results19, go_sem, z0, z1, z2]) rfl ⟨A, n, cap, by first | rw [HR.out] | (rw [HR.out]; rfl), hcap, by rw [HR.out]; exact HL.out, .inr ⟨rfl, rfl⟩, HB.out⟩
  | true =>
    rw [if_pos ht] at hR
    have hti := thereL_iff.1 ht
    obtain ⟨j, rfl⟩ : ∃ j : Nat, i = (j : Int) := ⟨i.toNat, by omega⟩
    rw [show ((j : Int)).toNat = j from rfl] at hR
    have HJ : Hid (j < l.length) := by show j < l.length; omega
    have hjn : j < n := by have := HN.out; omega
    rw [rest_yes HJ.out] at hR
    have HR := Lib.hid hR.symm
    have q := has_any A n cap l (j : Int) (w.alloc (.cells #[.int .i64 0, .int .i64 0, .string ⟨#[]⟩] 25)) h.1 (by omega)
    rw [ht] at q
    obtain ⟨b, off, hA, hbb, hc⟩ := h.2.2.2 (by omega)
    subst hA
    obtain ⟨A2, hsl⟩ : ∃ A2, (if cap = j + 1 then some (⟨b, off, none⟩ : Addr) else some ⟨b, off + (j + 1) * 3, none⟩) = A2 := ⟨_, rfl⟩
    have hA2 : j + 1 < n → A2 = some ⟨b, off + (j + 1) * 3, none⟩ := fun hx => by rw [← hsl, if_neg (by omega)]
    have HW : Hid (LtWf (atL l j)) := h.2.2.1.at HJ.out
    have HL := Lib.hid h
    have HT := Lib.hid (HL.out.take (Nat.le_of_lt hjn))
    have HD := Lib.hid (HL.out.drop (k := j + 1) hjn hA2)
    have hbl : b < w.heap.size := hbb
    obtain ⟨m, hm⟩ : ∃ m, atL l j = m := ⟨_, rfl⟩
    rw [hm] at HR HW
    have HMM := Lib.hid hm
    have HB0 := Lib.hid hb0
    have HZ0 := Lib.hid hz0
    have HR0 := Lib.hid hr0
    clear hc ht hti hR hm h hb0 hz0 hr0 hA2 hbb
    have hj0 : (0 : Int) ≤ (j : Int) := by omega
    have hj1 : (j : Int) < (n : Int) := by omega
    have hj2 : (j : Int) ≤ (cap : Int) := by omega
    have hj3 : (j : Int) ≤ (n : Int) := by omega
    have hj4 : j ≤ cap := by omega
    have hj5 : (0 : Int) ≤ (j : Int) + 1 := by omega
    have hj6 : (j : Int) + 1 ≤ (n : Int) := by omega
    have hwr : IntKind.i64.wrap ((j : Int) + 1) = (j : Int) + 1 := IntWalk.i64_in _ (by omega)
    go_enter Try.func19, Try.ntmps19
    go_wp2_with fail
    ((with_reducible refine q.mono ?_); rintro e W_ ⟨rfl, rfl⟩)
    clear q
    go_upto_region 3 with fail
    obtain ⟨W0, hW0⟩ : ∃ W, w.alloc (.cells #[.int .i64 0, .int .i64 0, .string ⟨#[]⟩] 25) = W := ⟨_, rfl⟩
    rw [hW0] at HB0 HZ0 HR0 ⊢
    clear hW0
    have hle0 : w.heap.size ≤ W0.heap.size := by have := HZ0.out; omega
    have hlt0 : w.heap.size < W0.heap.size := by have := HZ0.out; omega
    refine wp_region_noPanic ?_
    refine wp_region_held_drew (S := (fun W => Below w.heap.size w W)) (by kernel_rfl) (HB0.out.drew) (fun hHeld => ?_)
    refine wpAnyH_take (i := 0) (v := ?_) rfl (by kernel_rfl) (by kernel_rfl) (by kernel_rfl) (fun _ _ _ h => h) (Or.inl ⟨by rfl, ?_⟩) (by assumption) ?_
    rotate_left
    · (intro w hSw; (try dsimp only at hSw); go_simp; (try with_reducible rfl))
    simp only [Act.put, List.getElem_toArray, List.getElem_cons_zero, List.setIfInBounds_toArray, List.set_cons_zero, List.set_cons_succ]
    refine wpAnyH_take (i := 1) (v := ?_) rfl (by kernel_rfl) (by kernel_rfl) (by kernel_rfl) (fun _ _ _ h => h) (Or.inl ⟨by rfl, ?_⟩) (by assumption) ?_
    rotate_left
    · (intro w hSw; (try dsimp only at hSw); go_simp; (try with_reducible rfl))
    simp only [Act.put, List.getElem_toArray, List.getElem_cons_zero, List.getElem_cons_succ, List.setIfInBounds_toArray, List.set_cons_zero, List.set_cons_succ]
    refine wpAnyH_take (i := 2) (v := ?_) rfl (by kernel_rfl) (by kernel_rfl) (by kernel_rfl) (fun _ _ _ h => h) (Or.inl ⟨by rfl, ?_⟩) (by assumption) ?_
    rotate_left
    · (intro w hSw; (try dsimp only at hSw); go_simp; (try with_reducible rfl))
    simp only [Act.put, List.getElem_toArray, List.getElem_cons_zero, List.getElem_cons_succ, List.setIfInBounds_toArray, List.set_cons_zero, List.set_cons_succ]
    refine wpAnyH_take (i := 3) (v := ?_) rfl (by kernel_rfl) (by kernel_rfl) (by kernel_rfl) (fun _ _ _ h => h) (Or.inl ⟨by rfl, ?_⟩) (by assumption) ?_
    rotate_left
    · (intro w hSw; (try dsimp only at hSw); obtain ⟨x0, x1, x2⟩ := (HL.out).cells HJ.out HMM.out hSw; go_simp; (try with_reducible rfl))
    simp only [Act.put, List.getElem_toArray, List.getElem_cons_zero, List.getElem_cons_succ, List.setIfInBounds_toArray, List.set_cons_zero, List.set_cons_succ]
    refine wpAnyH_take (i := 4) (v := ?_) rfl (by kernel_rfl) (by kernel_rfl) (by kernel_rfl) (fun _ _ _ h => h) (Or.inl ⟨by rfl, ?_⟩) (by assumption) ?_
    rotate_left
    · (intro w hSw; (try dsimp only at hSw); go_simp; (try with_reducible rfl))
    simp only [Act.put, List.getElem_toArray, List.getElem_cons_zero, List.getElem_cons_succ, List.setIfInBounds_toArray, List.set_cons_zero, List.set_cons_succ]
    refine wpAnyH_take (i := 5) (v := ?_) rfl (by kernel_rfl) (by kernel_rfl) (by kernel_rfl) (fun _ _ _ h => h) (Or.inl ⟨by rfl, ?_⟩) (by assumption) ?_
    rotate_left
    · (intro w hSw; (try dsimp only at hSw); go_simp; (try with_reducible rfl))
    simp only [Act.put, List.getElem_toArray, List.getElem_cons_zero, List.getElem_cons_succ, List.setIfInBounds_toArray, List.set_cons_zero, List.set_cons_succ]
    refine wpAnyH_take (i := 6) (v := ?_) rfl (by kernel_rfl) (by kernel_rfl) (by kernel_rfl) (fun _ _ _ h => h) (Or.inl ⟨by rfl, ?_⟩) (by assumption) ?_
    rotate_left
    · (intro w hSw; (try dsimp only at hSw); go_simp; (try with_reducible rfl))
    simp only [Act.put, List.getElem_toArray, List.getElem_cons_zero, List.getElem_cons_succ, List.setIfInBounds_toArray, List.set_cons_zero, List.set_cons_succ]
    refine wpAnyH_take (i := 7) (v := ?_) rfl (by kernel_rfl) (by kernel_rfl) (by kernel_rfl) (fun _ _ _ h => h) (Or.inl ⟨by rfl, ?_⟩) (by assumption) ?_
    rotate_left
    · (intro w hSw; (try dsimp only at hSw); go_simp; (try with_reducible rfl))
    simp only [Act.put, List.getElem_toArray, List.getElem_cons_zero, List.getElem_cons_succ, List.setIfInBounds_toArray, List.set_cons_zero, List.set_cons_succ]
    refine wpAnyH_take (i := 8) (v := ?_) rfl (by kernel_rfl) (by kernel_rfl) (by kernel_rfl) (fun _ _ _ h => h) (Or.inl ⟨by rfl, ?_⟩) (by assumption) ?_
    rotate_left
    · (intro w hSw; (try dsimp only at hSw); go_simp; (try with_reducible rfl))
    simp only [Act.put, List.getElem_toArray, List.getElem_cons_zero, List.getElem_cons_succ, List.setIfInBounds_toArray, List.set_cons_zero, List.set_cons_succ]
    refine wpAnyH_take (i := 9) (v := ?_) rfl (by kernel_rfl) (by kernel_rfl) (by kernel_rfl) (fun _ _ _ h => h) (Or.inl ⟨by rfl, ?_⟩) (by assumption) ?_
    rotate_left
    · (intro w hSw; (try dsimp only at hSw); go_simp; (try with_reducible rfl))
    simp only [Act.put, List.getElem_toArray, List.getElem_cons_zero, List.getElem_cons_succ, List.setIfInBounds_toArray, List.set_cons_zero, List.set_cons_succ]
    refine wpAnyH_take (i := 10) (v := ?_) rfl (by kernel_rfl) (by kernel_rfl) (by kernel_rfl) (fun _ _ _ h => h) (Or.inl ⟨by rfl, ?_⟩) (by assumption) ?_
    rotate_left
    · (intro w hSw; (try dsimp only at hSw); go_simp; (try with_reducible rfl))
    simp only [Act.put, List.getElem_toArray, List.getElem_cons_zero, List.getElem_cons_succ, List.setIfInBounds_toArray, List.set_cons_zero, List.set_cons_succ]
    refine wpAnyH_ready (rs := [11]) (by kernel_rfl) (by simp) ?_
    refine AllReadyH.cons rfl (fun K hK => ?_) AllReadyH.nil
    rw [if_pos (by rfl)]
    go_simp
    refine hK.out _ _ (hHeld.alloc hle0 _) (fun hHeld2 => ?_)
    clear hK K hHeld
    have hHeld := hHeld2; clear hHeld2
    have h11 : Blk (W0.alloc (.cells #[.slice (some ⟨b, off, none⟩) j cap, .slice A2 (n - (j + 1)) (cap - (j + 1))] 23)).drew W0.heap.size (.cells #[.slice (some ⟨b, off, none⟩) j cap, .slice A2 (n - (j + 1)) (cap - (j + 1))] 23 (0, 0)) := (Blk.new W0 _).drew
    have hr11 : LtBlk (W0.alloc (.cells #[.slice (some ⟨b, off, none⟩) j cap, .slice A2 (n - (j + 1)) (cap - (j + 1))] 23)).drew w.heap.size zeroL := (HR0.out.below ((Below.refl _ _).alloc (Nat.le_refl _) _)).drew
    have hs11 : (W0.alloc (.cells #[.slice (some ⟨b, off, none⟩) j cap, .slice A2 (n - (j + 1)) (cap - (j + 1))] 23)).drew.heap.size = W0.heap.size + 1 := by simp
    obtain ⟨V, hV⟩ : ∃ W, (W0.alloc (.cells #[.slice (some ⟨b, off, none⟩) j cap, .slice A2 (n - (j + 1)) (cap - (j + 1))] 23)).drew = W := ⟨_, rfl⟩
    rw [hV] at hHeld h11 hr11 hs11 ⊢
    clear hV
    have H11 := Lib.hid h11; clear h11
    have HR11 := Lib.hid hr11; clear hr11
    have HS11 := Lib.hid hs11; clear hs11
    refine wpAnyH_ready (rs := [12]) (by kernel_rfl) (by simp) ?_
    refine AllReadyH.cons rfl (fun K hK => ?_) AllReadyH.nil
    rw [if_pos (by rfl)]
    go_simp
    ((with_reducible refine (concatL_any W0.heap.size (some ⟨b, off, none⟩) A2 j (n - (j + 1)) cap (cap - (j + 1)) (l.take j) (l.drop (j + 1)) V H11.out (HT.out.below hHeld) (HD.out.below hHeld) (by omega)).mono ?_); rintro e w' ⟨A5, n5, cap5, rfl, hcap5, hls5, hnew5, b5⟩)
    have hl5 := hls5
    have HLS := Lib.hid hls5; clear hls5
    have HR12 := Lib.hid (HR11.out.below b5)
    have HNW := Lib.hid (hnew5.mono (show w.heap.size + 2 ≤ V.heap.size by have := HS11.out; omega)); clear hnew5
    have hz12 : w.heap.size + 2 ≤ w'.heap.size := by have := HS11.out; have := b5.size; omega
    refine hK.out _ _ (bch hHeld b5) (fun hHeld2 => ?_)
    clear hK K hHeld
    have hHeld := hHeld2; clear hHeld2
    clear b5
    obtain ⟨y0, y1, y2⟩ := HR12.out.cells
    simp only [zeroL] at y0 y1 y2
    have f0 := HR12.out.frozen 0
    have f1 := HR12.out.frozen 1
    have f2 := HR12.out.frozen 2
    refine wpAnyH_ready (rs := [13]) (by kernel_rfl) (by simp) ?_
    refine AllReadyH.cons rfl (fun K hK => ?_) AllReadyH.nil
    rw [if_pos (by rfl)]
    go_simp
    refine hK.out _ _ (below_cells3 hHeld (Nat.le_refl _) _ _ _) (fun hHeld2 => ?_)
    clear hK K hHeld
    have hHeld := hHeld2; clear hHeld2
    refine wpAnyH_take (i := 14) (v := ?_) rfl (by kernel_rfl) (by kernel_rfl) (by kernel_rfl) (fun _ _ _ h => h) (Or.inl ⟨by rfl, ?_⟩) (by assumption) ?_
    rotate_left
    · (intro w hSw; (try dsimp only at hSw); go_simp; (try with_reducible rfl))
    simp only [Act.put, List.getElem_toArray, List.getElem_cons_zero, List.getElem_cons_succ, List.setIfInBounds_toArray, List.set_cons_zero, List.set_cons_succ]
    refine wpAnyH_take (i := 15) (v := ?_) rfl (by kernel_rfl) (by kernel_rfl) (by kernel_rfl) (fun _ _ _ h => h) (Or.inl ⟨by rfl, ?_⟩) (by assumption) ?_
    rotate_left
    · (intro w hSw; (try dsimp only at hSw); go_simp; (try with_reducible rfl))
    simp only [Act.put, List.getElem_toArray, List.getElem_cons_zero, List.getElem_cons_succ, List.setIfInBounds_toArray, List.set_cons_zero, List.set_cons_succ]
    refine wpAnyH_done (by kernel_rfl) ?_ _
    refine NoPanic.normal ?_
    have hfin := HR12.out.put m
    obtain ⟨e0, e1, e2⟩ := hfin.cells
    have hap : ApartN w.heap.size A5 n5 := fun hn b off e => by have := HNW.out hn b off e; omega
    have HF := Lib.hid (((HLS.out.far (j := 0) (u := .int .i64 m.frm) hap).far (j := 1) (u := .int .i64 m.to) hap).far (j := 2) (u := .string m.bytes) hap)
    have HBF := Lib.hid hHeld
    clear y0 y1 y2 f0 f1 f2 hHeld hfin hap
    go_wp2_with fail
    refine bodyPost_ret (v := .tuple #[ltV m, .slice A5 n5 cap5, .bool true]) (by simp [results, Try.results19, go_sem, e0, e1, e2]) rfl ⟨A5, n5, cap5, by first | rw [HR.out] | (rw [HR.out]; rfl), hcap5, by rw [HR.out]; exact HF.out, .inl (HNW.out.mono (by omega)), HBF.out⟩

set_option maxRecDepth 100000 in
set_option maxHeartbeats 4000000 in
theorem loseC : LoseQ := fun l i A n cap w hi hcap h h32 => by
  obtain ⟨R, hR⟩ : ∃ R, loseL l i = R := ⟨_, rfl⟩
  rw [hR]
  unfold loseL at hR
  have q := takeC l i A n cap w hi hcap h h32
  unfold takeL at q
  have HL := Lib.hid h; clear h
  cases ht : thereL l i with
  | false =>
    rw [if_neg (by rw [ht]; simp)] at hR q
    have HR := Lib.hid hR.symm
    clear hR ht
    unfold ltV at q
    go_enter Try.func17, Try.ntmps17
    go_wp2_with fail
    ((with_reducible refine q.mono ?_); rintro e W1 ⟨A1, n1, cap1, rfl, hcap1, hls1, hnw1, b1⟩)
    have HL1 := Lib.hid (HL.out.below b1)
    have HB1 := Lib.hid b1
    have hb2 : Below W1.heap.size W1 (W1.alloc (.cells #[.int .i64 0, .int .i64 0, .string ⟨#[]⟩] 25)) := (Below.refl _ _).alloc (Nat.le_refl _) _
    have HL2 := Lib.hid (HL1.out.below hb2)
    have HB2 := Lib.hid (bch HB1.out hb2)
    clear hb2 b1 hls1 hnw1 q
    go_wp2_with fail
    go_ret2
    exact ⟨A, n, cap, by rw [HR.out]; rfl, hcap, by rw [HR.out]; exact HL2.out, .inr ⟨rfl, rfl⟩, HB2.out⟩
  | true =>
    rw [if_pos ht] at hR q
    have HR := Lib.hid hR.symm
    clear hR ht
    generalize atL l i.toNat = m at *
    unfold ltV at q
    go_enter Try.func17, Try.ntmps17
    go_wp2_with fail
    ((with_reducible refine q.mono ?_); rintro e W1 ⟨A1, n1, cap1, rfl, hcap1, hls1, hnw1, b1⟩)
    have hb2 : Below W1.heap.size W1 (W1.alloc (.cells #[.int .i64 m.frm, .int .i64 m.to, .string m.bytes] 25)) := (Below.refl _ _).alloc (Nat.le_refl _) _
    have HL2 := Lib.hid (hls1.below hb2)
    have HB2 := Lib.hid (bch b1 hb2)
    have HNW := Lib.hid hnw1
    clear hb2 b1 hls1 hnw1 q
    go_wp2_with fail
    go_ret2
    exact ⟨A1, n1, cap1, by rw [HR.out]; rfl, hcap1, by rw [HR.out]; exact HL2.out, HNW.out, HB2.out⟩
end Go.Proofs.Ytljjbpgbddaekaa
