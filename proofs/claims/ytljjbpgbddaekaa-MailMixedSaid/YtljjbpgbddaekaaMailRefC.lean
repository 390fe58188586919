import Derived.Test.YtljjbpgbddaekaaMailRefB
/-
  The contracts of the document's own Take and Lose of mail (stage 11).
-/
namespace Go.Proofs.Ytljjbpgbddaekaa
open Go.RowKit
set_option linter.unusedVariables false

set_option maxRecDepth 100000 in
set_option maxHeartbeats 8000000 in
theorem reftakeM_any (l : List Lt) (i : Int) (A : Option Addr) (n cap : Nat) (w : World) (hi : (Lit.int .i64 i).wf = true) (h : IsLs w A n l) (h32 : n * 32 ≤ 140737488351232) :
    Calls Try.prog 20 #[.slice A n cap, .int .i64 i] w (LsPost w (takeL l i).2.1 fun v => .tuple #[ltV (takeL l i).1, v, .bool (takeL l i).2.2]) := by
  have hnm := h.2.1
  unfold maxLen at hnm
  have hib := wf_bounds hi
  have qt := fun W => refthere_any A n cap l i W h.1 (by omega)
  have HN : Hid (n = l.length) := h.1
  have HWF := Lib.hid h.2.2.1
  have HL := Lib.hid h; clear h
  obtain ⟨R, hR⟩ : ∃ R, takeL l i = R := ⟨_, rfl⟩
  rw [hR]
  have HR : Hid (R = ((if thereL l i = true then atL l i.toNat else zeroL), restL l i, thereL l i)) := by
    show _ = _
    rw [← hR]
    unfold takeL
    cases ht : thereL l i with
    | true => simp
    | false => simp [rest_no ht]
  clear hR
  have hr0 : LtBlk ((w.alloc (.cells #[.int .i64 0, .int .i64 0, .string ⟨#[]⟩] 25)).alloc (.cells #[.int .i64 0, .int .i64 0, .string ⟨#[]⟩] 25)) w.heap.size zeroL := (LtBlk.new w zeroL).below ((Below.refl _ _).alloc (Nat.le_refl _) _)
  have hs0 : (w.alloc (.cells #[.int .i64 0, .int .i64 0, .string ⟨#[]⟩] 25)).heap.size = w.heap.size + 1 := by simp
  have hm0 : LtBlk ((w.alloc (.cells #[.int .i64 0, .int .i64 0, .string ⟨#[]⟩] 25)).alloc (.cells #[.int .i64 0, .int .i64 0, .string ⟨#[]⟩] 25)) (w.heap.size + 1) zeroL := by
    have h := LtBlk.new (w.alloc (.cells #[.int .i64 0, .int .i64 0, .string ⟨#[]⟩] 25)) zeroL
    rw [hs0] at h
    exact h
  have hb0 : Below w.heap.size w ((w.alloc (.cells #[.int .i64 0, .int .i64 0, .string ⟨#[]⟩] 25)).alloc (.cells #[.int .i64 0, .int .i64 0, .string ⟨#[]⟩] 25)) := ((Below.refl _ _).alloc (Nat.le_refl _) _).alloc (by simp) _
  have hs1 : ((w.alloc (.cells #[.int .i64 0, .int .i64 0, .string ⟨#[]⟩] 25)).alloc (.cells #[.int .i64 0, .int .i64 0, .string ⟨#[]⟩] 25)).heap.size = w.heap.size + 2 := by simp
  obtain ⟨W0, hW0⟩ : ∃ W, (w.alloc (.cells #[.int .i64 0, .int .i64 0, .string ⟨#[]⟩] 25)).alloc (.cells #[.int .i64 0, .int .i64 0, .string ⟨#[]⟩] 25) = W := ⟨_, rfl⟩
  rw [hW0] at hr0 hm0 hb0 hs1
  have HZ0 := Lib.hid hr0; clear hr0
  have HM0 := Lib.hid hm0; clear hm0
  have HB0 := Lib.hid hb0; clear hb0
  have HS1 := Lib.hid hs1; clear hs1 hs0
  go_enter Try.func20, Try.ntmps20
  go_wp2_with fail
  clear hW0
  obtain ⟨base, hbase⟩ : ∃ b, w.heap.size + 2 = b := ⟨_, rfl⟩
  have hg1 : w.heap.size + 1 < base := by omega
  have hs1 : base ≤ W0.heap.size := by have := HS1.out; omega
  clear HS1
  obtain ⟨g1, hg⟩ : ∃ g, w.heap.size + 1 = g := ⟨_, rfl⟩
  have hg0 : w.heap.size < g1 := by omega
  rw [hg] at HM0 hg1 ⊢
  clear hg hbase
  go_loopw [7, 9] (fun v i' wy => ∃ (k : Nat) (wr : World), wr = wy ∧ k ≤ n ∧ i' = .int .i64 k ∧ RowL wr base v (skipL l i k) ∧ LtBlk wr g1 (if 0 ≤ i ∧ i < (k : Int) then atL l i.toNat else zeroL) ∧ LtBlk wr w.heap.size zeroL ∧ base ≤ wr.heap.size ∧ Below w.heap.size w wr) (fun _ i _ => n - (intOf i).toNat)
  case atStart =>
    refine ⟨0, _, rfl, by omega, rfl, rowL_nil _ _, ?_, HZ0.out, hs1, HB0.out⟩
    rw [if_neg (by omega)]; exact HM0.out
  case round =>
    clear HM0 HZ0 HB0 hs1
    obtain ⟨k, wr, rfl, hk, rfl, hrow, hmk, hz, hsz, hb⟩ := hrel
    have hwfk : LtsWf (skipL l i k) := fun m hm => HWF.out m (skip_mem l i k (by have := HN.out; omega) m hm)
    obtain ⟨Av, cv, hv, hcv, hlv⟩ := hrow.isLs hwfk
    subst hv
    have hsl := skip_len l i k
    have HB := Lib.hid hb; clear hb
    have HZ := Lib.hid hz; clear hz
    by_cases hlt : k < n
    · obtain ⟨b, off, hA, hbb, hc⟩ := HL.out.2.2.2 (by omega)
      subst hA
      have HK : Hid (k < l.length) := by have := HN.out; show k < l.length; omega
      obtain ⟨x0, x1, x2⟩ := hc k HK.out
      have X0 := (HB.out.cell (p := ⟨b, off + k * 3, none⟩) hbb).trans x0
      have X1 := (HB.out.cell (p := ⟨b, off + k * 3 + 1, none⟩) hbb).trans x1
      have X2 := (HB.out.cell (p := ⟨b, off + k * 3 + 2, none⟩) hbb).trans x2
      clear hc x0 x1 x2
      have HS : Hid (skipL l i (k + 1) = skipL l i k ++ (if (k : Int) = i then [] else [atL l k])) := rfl
      have HWK := Lib.hid (HWF.out.at HK.out)
      by_cases hki : (k : Int) = i
      · have HS2 : Hid (skipL l i (k + 1) = skipL l i k) := by show _ = _; rw [HS.out, if_pos hki, List.append_nil]
        have HMN : Hid ((if 0 ≤ i ∧ i < ((k + 1 : Nat) : Int) then atL l i.toNat else zeroL) = atL l k) := by
          show _ = _
          rw [if_pos (by omega), show i.toNat = k by omega]
        have ek : ((k : Int) == i) = true := by simpa using hki
        generalize (if 0 ≤ i ∧ i < (k : Int) then atL l i.toNat else zeroL) = M0 at *
        generalize atL l k = M at *
        have HMK := Lib.hid hmk; clear hmk
        have HROW := Lib.hid hrow; clear hrow hlv
        obtain ⟨c0, c1, c2⟩ := HMK.out.cells
        have f0 := HMK.out.frozen 0
        have f1 := HMK.out.frozen 1
        have f2 := HMK.out.frozen 2
        clear hki HS
        go_wp2_with fail
        go_roundw
        case rel =>
          exact ⟨k + 1, _, rfl, by omega, by go_num, by rw [HS2.out]; exact HROW.out.set3 hg1 _ _ _, by rw [HMN.out]; exact HMK.out.put M, ((HZ.out.far (by omega) _ _).far (by omega) _ _).far (by omega) _ _, by simpa using hsz, below_cells3 HB.out (by omega) _ _ _⟩
        case measure => simp [intOf]; omega
      · have HS2 : Hid (skipL l i (k + 1) = skipL l i k ++ [atL l k]) := by show _ = _; rw [HS.out, if_neg hki]
        have HMN : Hid ((if 0 ≤ i ∧ i < ((k + 1 : Nat) : Int) then atL l i.toNat else zeroL) = (if 0 ≤ i ∧ i < (k : Int) then atL l i.toNat else zeroL)) := by
          show _ = _
          by_cases e : 0 ≤ i ∧ i < (k : Int)
          · rw [if_pos e, if_pos (by omega)]
          · rw [if_neg e, if_neg (by omega)]
        have ek : ((k : Int) == i) = false := by simpa using hki
        have hone := isLs_one wr (atL l k) HWK.out
        have hb3a : Below wr.heap.size wr (wr.alloc (.cells #[.int .i64 (atL l k).frm, .int .i64 (atL l k).to, .string (atL l k).bytes] 25)) := (Below.refl _ _).alloc (Nat.le_refl _) _
        have hrowa := hrow.below hb3a
        have HBa := Lib.hid (bch HB.out hb3a)
        have HMa := Lib.hid (hmk.below hb3a)
        have HZa := Lib.hid (HZ.out.below hb3a)
        have hsa : base ≤ (wr.alloc (.cells #[.int .i64 (atL l k).frm, .int .i64 (atL l k).to, .string (atL l k).bytes] 25)).heap.size := by simp; omega
        have HSL := Lib.hid hsl
        generalize (if 0 ≤ i ∧ i < (k : Int) then atL l i.toNat else zeroL) = M0 at *
        generalize atL l k = M at *
        clear hki HS hrow hb3a hlv hsl hmk HZ HB
        go_wp2_with (at_builtin; refine wpList_append_lets rfl _ _ rfl base _ (skipL l i k) rfl hrowa (some ⟨wr.heap.size, 0, none⟩) 1 1 [M] rfl hone (by have := HSL.out; omega) hsa ?_)
        intro v4 W4 hrow4 hgrow4
        have hlt4 := hrowa.lt
        have hne4 : ∀ g, g < base → some g ≠ (Value.slice Av (skipL l i k).length cv).ownBlock := fun g hg he => by have := (hlt4 g he.symm).1; omega
        have hb4 : Below w.heap.size w W4 := HBa.out.grown hgrow4 HBa.out.size (fun g hg => by have := (hlt4 g hg).1; omega)
        rw [← HS2.out] at hrow4
        have HR4 := Lib.hid hrow4
        have HB4 := Lib.hid hb4
        have HM4 := Lib.hid (HMa.out.kept hgrow4 (hne4 _ (by omega)))
        have HZ4 := Lib.hid (HZa.out.kept hgrow4 (hne4 _ (by omega)))
        have hs4 : base ≤ W4.heap.size := Nat.le_trans hsa hgrow4.size
        clear hrow4 hgrow4 hlt4 hne4 hrowa hone hb4 HMa HZa HBa
        go_wp2_with fail
        go_roundw
        case rel => exact ⟨k + 1, _, rfl, by omega, by go_num, HR4.out, by rw [HMN.out]; exact HM4.out, HZ4.out, hs4, HB4.out⟩
        case measure => simp [intOf]; omega
    · have hke : k = n := by omega
      have HRS : Hid (skipL l i k = restL l i) := by show _ = _; rw [hke, HN.out]; rfl
      have HMM : Hid ((if 0 ≤ i ∧ i < (k : Int) then atL l i.toNat else zeroL) = (if thereL l i = true then atL l i.toNat else zeroL)) := by
        show _ = _
        cases ht : thereL l i with
        | true => have := thereL_iff.1 ht; rw [if_pos (by have := HN.out; omega)]; simp
        | false =>
          rw [if_neg (fun e => by have h2 : thereL l i = true := thereL_iff.2 ⟨e.1, by have := HN.out; omega⟩; rw [h2] at ht; cases ht)]
          simp
      rw [HMM.out] at hmk
      rw [HRS.out] at hrow hcv hlv ⊢
      generalize thereL l i = tb at *
      generalize (if tb = true then atL l i.toNat else zeroL) = M at *
      have hwr := HRS.out ▸ hwfk
      have HWR : Hid (LtsWf (restL l i)) := hwr
      generalize restL l i = L at *
      have HMK := Lib.hid hmk; clear hmk
      have HROW := Lib.hid hrow; clear hrow hlv hwr hwfk hsl hke HRS HMM
      obtain ⟨lv, hlv⟩ : ∃ x, L.length = x := ⟨_, rfl⟩
      rw [hlv] at HROW hcv ⊢
      go_upto_region 9 with fail
      refine wp_region_noPanic ?_
      refine wp_region_held_drew (S := (fun W => LtBlk W g1 M ∧ Below w.heap.size w W)) (by kernel_rfl) (⟨HMK.out.drew, HB.out.drew⟩) (fun hHeld => ?_)
      obtain ⟨Vr, hVr⟩ : ∃ W, wr.drew = W := ⟨_, rfl⟩
      have hrs : LtBlk Vr w.heap.size zeroL := by rw [← hVr]; exact HZ.out.drew
      have hro : RowL Vr base (.slice Av lv cv) L := by rw [← hVr]; exact HROW.out
      rw [hVr] at hHeld ⊢
      clear hVr
      refine wpAnyH_take (i := 0) (v := ?_) rfl (by kernel_rfl) (by kernel_rfl) (by kernel_rfl) (fun _ _ _ h => h) (Or.inl ⟨by rfl, ?_⟩) (by assumption) ?_
      rotate_left
      · (intro w hSw; (try dsimp only at hSw); obtain ⟨x0, x1, x2⟩ := hSw.1.cells; go_simp; (try with_reducible rfl))
      simp only [Act.put, List.getElem_toArray, List.getElem_cons_zero, List.setIfInBounds_toArray, List.set_cons_zero, List.set_cons_succ]
      refine wpAnyH_take (i := 1) (v := ?_) rfl (by kernel_rfl) (by kernel_rfl) (by kernel_rfl) (fun _ _ _ h => h) (Or.inl ⟨by rfl, ?_⟩) (by assumption) ?_
      rotate_left
      · (intro w hSw; (try dsimp only at hSw); go_simp; (try with_reducible rfl))
      simp only [Act.put, List.getElem_toArray, List.getElem_cons_zero, List.getElem_cons_succ, List.setIfInBounds_toArray, List.set_cons_zero, List.set_cons_succ]
      refine wpAnyH_take (i := 2) (v := ?_) rfl (by kernel_rfl) (by kernel_rfl) (by kernel_rfl) (fun _ _ _ h => h) (Or.inl ⟨by rfl, ?_⟩) (by assumption) ?_
      rotate_left
      · (intro w hSw; (try dsimp only at hSw); go_simp; (try with_reducible rfl))
      simp only [Act.put, List.getElem_toArray, List.getElem_cons_zero, List.getElem_cons_succ, List.setIfInBounds_toArray, List.set_cons_zero, List.set_cons_succ]
      refine wpAnyH_take (i := 3) (v := ?_) rfl (by kernel_rfl) (by kernel_rfl) (by kernel_rfl) (fun _ _ _ h => h) (Or.inl ⟨by rfl, ?_⟩) (by assumption) ?_
      rotate_left
      · (intro w hSw; (try dsimp only at hSw); go_simp; (try with_reducible rfl))
      simp only [Act.put, List.getElem_toArray, List.getElem_cons_zero, List.getElem_cons_succ, List.setIfInBounds_toArray, List.set_cons_zero, List.set_cons_succ]
      refine wpAnyH_ready (rs := [4]) (by kernel_rfl) (by simp) ?_
      refine AllReadyH.cons rfl (fun K hK => ?_) AllReadyH.nil
      rw [if_pos (by rfl)]
      go_simp
      ((with_reducible refine (qt _).mono ?_); rintro e w' ⟨rfl, rfl⟩)
      refine hK.out _ _ (hHeld) (fun hHeld2 => ?_)
      clear hK K hHeld
      have hHeld := hHeld2; clear hHeld2
      obtain ⟨z0, z1, z2⟩ := hrs.cells
      simp only [zeroL] at z0 z1 z2
      have f0 := hrs.frozen 0
      have f1 := hrs.frozen 1
      have f2 := hrs.frozen 2
      have HRS5 := Lib.hid hrs; clear hrs
      refine wpAnyH_ready (rs := [5]) (by kernel_rfl) (by simp) ?_
      refine AllReadyH.cons rfl (fun K hK => ?_) AllReadyH.nil
      rw [if_pos (by rfl)]
      go_simp
      refine hK.out _ _ (⟨((hHeld.1.far (g := w.heap.size) (by omega) _ _).far (by omega) _ _).far (by omega) _ _, below_cells3 hHeld.2 (Nat.le_refl _) _ _ _⟩) (fun hHeld2 => ?_)
      clear hK K hHeld
      have hHeld := hHeld2; clear hHeld2
      refine wpAnyH_take (i := 6) (v := ?_) rfl (by kernel_rfl) (by kernel_rfl) (by kernel_rfl) (fun _ _ _ h => h) (Or.inl ⟨by rfl, ?_⟩) (by assumption) ?_
      rotate_left
      · (intro w hSw; (try dsimp only at hSw); go_simp; (try with_reducible rfl))
      simp only [Act.put, List.getElem_toArray, List.getElem_cons_zero, List.getElem_cons_succ, List.setIfInBounds_toArray, List.set_cons_zero, List.set_cons_succ]
      refine wpAnyH_take (i := 7) (v := ?_) rfl (by kernel_rfl) (by kernel_rfl) (by kernel_rfl) (fun _ _ _ h => h) (Or.inl ⟨by rfl, ?_⟩) (by assumption) ?_
      rotate_left
      · (intro w hSw; (try dsimp only at hSw); go_simp; (try with_reducible rfl))
      simp only [Act.put, List.getElem_toArray, List.getElem_cons_zero, List.getElem_cons_succ, List.setIfInBounds_toArray, List.set_cons_zero, List.set_cons_succ]
      refine wpAnyH_done (by kernel_rfl) ?_ _
      refine NoPanic.normal ?_
      have hfin := HRS5.out.put M
      obtain ⟨e0, e1, e2⟩ := hfin.cells
      have hbf := hHeld.2
      have hrf := hro.set3 (g := w.heap.size) (by omega) (.int .i64 M.frm) (.int .i64 M.to) (.string M.bytes)
      obtain ⟨A5, cap5, hv5, hcap5, hls5⟩ := hrf.isLs HWR.out
      subst hlv
      obtain ⟨rfl, rfl⟩ := slice_eqL hv5
      clear z0 z1 z2 hHeld
      have HLS5 := Lib.hid hls5; clear hls5
      have HNW5 := Lib.hid (hrf.new.mono (C := w.heap.size) (by omega))
      clear hrf hro
      go_wp2_with fail
      refine bodyPost_ret (v := .tuple #[.agg #[.int .i64 M.frm, .int .i64 M.to, .string M.bytes], .slice Av L.length cv, .bool tb]) (by simp [results, Try.results20, go_sem, e0, e1, e2]) rfl ⟨_, _, _, by rw [HR.out], hcv, by rw [HR.out]; exact HLS5.out, HNW5.out, hbf⟩

set_option maxRecDepth 100000 in
set_option maxHeartbeats 4000000 in
theorem reflose_any (l : List Lt) (i : Int) (A : Option Addr) (n cap : Nat) (w : World) (hi : (Lit.int .i64 i).wf = true) (h : IsLs w A n l) (h32 : n * 32 ≤ 140737488351232) :
    Calls Try.prog 18 #[.slice A n cap, .int .i64 i] w (LsPost w (loseL l i).1 fun v => .tuple #[v, .int .i64 (loseL l i).2]) := by
  have q := reftakeM_any l i A n cap w hi h h32
  have hls : (takeL l i).2.1 = (loseL l i).1 := by unfold takeL loseL; split <;> rfl
  have hle : (loseL l i).2 = if (takeL l i).2.2 = true then 0 else 1 := by unfold takeL loseL; split <;> rfl
  obtain ⟨R, hR⟩ : ∃ R, loseL l i = R := ⟨_, rfl⟩
  rw [hR] at hls hle ⊢
  generalize takeL l i = T at *
  obtain ⟨tm, tl, tb⟩ := T
  simp only at hls hle q
  subst hls
  clear hR
  obtain ⟨rl, re⟩ := R
  simp only at hle q ⊢
  have HE := Lib.hid hle; clear hle h hi
  go_enter Try.func18, Try.ntmps18
  go_wp2_with fail
  ((with_reducible refine q.mono ?_); rintro e W1 ⟨A1, n1, cap1, rfl, hcap1, hls1, hnw1, b1⟩)
  go_upto_region 2 with fail
  have hal := (Below.refl W1.heap.size W1).alloc (Nat.le_refl _) (.cells #[.int .i64 tm.frm, .int .i64 tm.to, .string tm.bytes] 25)
  obtain ⟨W2, hW2⟩ : ∃ W, W1.alloc (.cells #[.int .i64 tm.frm, .int .i64 tm.to, .string tm.bytes] 25) = W := ⟨_, rfl⟩
  rw [hW2] at hal ⊢
  clear hW2 q
  have HLS := Lib.hid (hls1.below hal)
  have HB := Lib.hid (bch b1 hal)
  clear hls1 hal b1
  cases tb with
  | true =>
    go_wp2_with fail
    go_ret2
    exact ⟨A1, n1, cap1, by rw [HE.out]; rfl, hcap1, HLS.out, hnw1, HB.out⟩
  | false =>
    go_wp2_with fail
    go_ret2
    exact ⟨A1, n1, cap1, by rw [HE.out]; rfl, hcap1, HLS.out, hnw1, HB.out⟩
end Go.Proofs.Ytljjbpgbddaekaa
