import Derived.Test.YtndkmepdnekigaaCtAwake
import Derived.Test.YtndkmepdnekigaaCtIn
import Derived.Test.YtndkmepdnekigaaCtSame
/-
  Before it is final, who told 2, and tells the old binary again, is as before: nothing else is changed. (The law 'ControlBack' over what is asked of the program.)
-/
namespace Go.Proofs.Ytndkmepdnekigaa
open Go.RowKit
set_option linter.unusedVariables false
set_option linter.unusedSimpArgs false

set_option maxRecDepth 100000 in
set_option maxHeartbeats 40000000 in
theorem controlBack_core (kR : RightC9) (kN : NewC9) (kJ : JoinC9) (kP : ReportC9) (kF : FinalC9) (kL : PlanC9) (kM : CommitC9) (kC : CancelC9) (kB : BalC9) (x y : Int) (A : Option Addr) (n cap : Nat) (f : Nat → Nat → Int) (z : Int) (w : World) (wx : (Lit.int .i64 x).wf = true) (wy : (Lit.int .i64 y).wf = true) (wr0 : IsRaw w A n 3 f) (wz : (Lit.int .i64 z).wf = true) :
    Calls Try.prog 8 #[.int .i64 x, .int .i64 y, .slice A n cap, .int .i64 z] w fun e w' => e = .returned (.bool true) ∧ Below w.heap.size w w' := by
  have qa := awake18_any kR kN kJ kP kF kL kM kC kB w
  go_enter Try.func8, Try.ntmps8
  go_wp2_with fail
  ((with_reducible refine qa.mono ?_); rintro e V0 ⟨rfl, b⟩)
  have HB := Lib.hid b
  have qc := control_any x y A n cap f V0 wx wy (wr0.below b)
  have HOK : Hid (CtOk (ctlC x y f n)) := ctlC_ok x y f n
  have HEP : Hid (∀ p ∈ (ctlC x y f n).pl, p.2.1 ≤ 31) := ctlC_ep x y f n
  generalize ctlC x y f n = c at *
  clear b qa wr0
  go_wp2_with fail
  ((with_reducible refine qc.mono ?_); rintro e V1 ⟨A1, n1, c1, B1, m1, d1, rfl, hr1, hp1, hne1, b⟩)
  clear qc
  obtain ⟨_, _, hv1, hk1, hi1⟩ := hr1.parts
  obtain ⟨rfl, hl1, rfl⟩ := slice_eqG hv1
  obtain ⟨_, _, hv2, hk2, hi2⟩ := hp1.parts
  obtain ⟨rfl, hl2, rfl⟩ := slice_eqG hv2
  rewrite [← hl1] at hi1
  rewrite [← hl2] at hi2
  have I1 : Hid (IsCt V1 c A1 n1 B1 m1) := ⟨hi1, hi2⟩
  have S1 : Hid (n1 ≤ c1 ∧ m1 ≤ d1) := ⟨by omega, by omega⟩
  have HN1 : Hid (n1 = c.mem.length) := hl1
  have HM1 : Hid (m1 = c.pl.length) := hl2
  have hn18 : 1 ≤ n1 ∧ n1 ≤ 8 := by have := HOK.out.1.2.1; omega
  have hm18 : 1 ≤ m1 ∧ m1 ≤ 8 := by have := HOK.out.1.2.2.1; omega
  have HR1 := Lib.hid hr1; have HP1 := Lib.hid hp1; have HNE1 := Lib.hid hne1
  clear hv1 hv2 hk1 hk2 hi1 hi2 hl1 hl2 hr1 hp1 hne1
  have HBx := Lib.hid (bch HB.out b); clear HB
  have HB := HBx; clear HBx b
  go_upto_region 3 with fail
  have hba := ba9 V1 (ctB c A1 n1 c1 B1 m1 d1)
  have X1 := Lib.hid (Blk.new V1 (ctB c A1 n1 c1 B1 m1 d1))
  have I1_ := Lib.hid (I1.out.below hba); clear I1
  have I1 := I1_; clear I1_
  have HR1_ := Lib.hid (HR1.out.below hba); clear HR1
  have HR1 := HR1_; clear HR1_
  have HP1_ := Lib.hid (HP1.out.below hba); clear HP1
  have HP1 := HP1_; clear HP1_
  have HB_ := Lib.hid (bch HB.out hba); clear HB
  have HB := HB_; clear HB_
  obtain ⟨W1, hW⟩ : ∃ X, V1.alloc (ctB c A1 n1 c1 B1 m1 d1) = X := ⟨_, rfl⟩
  rewrite [hW] at X1 HB I1 HR1 HP1
  rewrite [hW]
  clear hW hba
  generalize hg1 : V1.heap.size = g1 at *
  clear hg1
  have qp : Hid (∀ W, Calls Try.prog 14 #[.int .i64 z, .int .i64 (n1 : Int)] W fun e w' => e = .returned (.int .i64 (pickN z (n1 : Int))) ∧ W = w') := fun W => pick_nat z (n1 : Int) (by omega) (by omega) wz W
  have hkx := pickN_lt z (n1 : Int) (by omega)
  generalize pickN z (n1 : Int) = k at *
  have hkk : k < n1 := by omega
  have HKk : Hid (k < c.mem.length) := by show _ < _; have := HN1.out; omega
  clear hkx
  obtain ⟨b, off, hA, hbb, y0, y1⟩ := is2_at I1.out.1 (atM9_get HKk.out)
  subst hA
  have HBB := Lib.hid hbb; clear hbb
  have hpm : c.mem.getD k (0, 0) = atM9 c.mem k := rfl
  generalize atM9 c.mem k = pm at *
  obtain ⟨nm, nb⟩ := pm
  simp only at y0 y1
  have HPM := Lib.hid hpm; clear hpm
  have HL : Hid (Blk (W1.alloc (.cells #[.int .i64 nm, .int .i64 nb] 45)) W1.heap.size (.cells #[.int .i64 nm, .int .i64 nb] 45) ∧ Below W1.heap.size W1 (W1.alloc (.cells #[.int .i64 nm, .int .i64 nb] 45))) := ⟨Blk.new _ _, ba9 _ _⟩
  go_cut [11] (fun s wx => s = .pointer (some ⟨W1.heap.size, 0, none⟩) ∧ Blk wx W1.heap.size (.cells #[.int .i64 nm, .int .i64 nb] 45) ∧ Below W1.heap.size W1 wx)
  case first =>
    refine wp_region_noPanic ?_
    refine wp_region_held_drew (S := (fun W_ => Blk W_ g1 (ctB c (some ⟨b, off, none⟩) n1 c1 B1 m1 d1) ∧ Below W1.heap.size W1 W_)) (by kernel_rfl) (⟨X1.out.drew, (Below.refl _ _).drew⟩) (fun hHeld => ?_)
    refine wpAnyH_take (i := 0) (v := ?_) rfl (by kernel_rfl) (by kernel_rfl) (by kernel_rfl) (fun _ _ _ h => h) (Or.inl ⟨by rfl, ?_⟩) (by assumption) ?_
    rotate_left
    · (intro w hSw; (try dsimp only at hSw); go_simp; (try with_reducible rfl))
    simp only [Act.put, List.getElem_toArray, List.getElem_cons_zero, List.setIfInBounds_toArray, List.set_cons_zero, List.set_cons_succ]
    refine wpAnyH_take (i := 1) (v := ?_) rfl (by kernel_rfl) (by kernel_rfl) (by kernel_rfl) (fun _ _ _ h => h) (Or.inl ⟨by rfl, ?_⟩) (by assumption) ?_
    rotate_left
    · (intro w hSw; (try dsimp only at hSw); (have v0 := Blk.cell hSw.1 1); simp only [List.getElem?_toArray, List.getElem?_cons_zero, List.getElem?_cons_succ] at v0; go_simp; (try with_reducible rfl))
    simp only [Act.put, List.getElem_toArray, List.getElem_cons_zero, List.getElem_cons_succ, List.setIfInBounds_toArray, List.set_cons_zero, List.set_cons_succ]
    refine wpAnyH_take (i := 2) (v := ?_) rfl (by kernel_rfl) (by kernel_rfl) (by kernel_rfl) (fun _ _ _ h => h) (Or.inl ⟨by rfl, ?_⟩) (by assumption) ?_
    rotate_left
    · (intro w hSw; (try dsimp only at hSw); go_simp; (try with_reducible rfl))
    simp only [Act.put, List.getElem_toArray, List.getElem_cons_zero, List.getElem_cons_succ, List.setIfInBounds_toArray, List.set_cons_zero, List.set_cons_succ]
    refine wpAnyH_take (i := 3) (v := ?_) rfl (by kernel_rfl) (by kernel_rfl) (by kernel_rfl) (fun _ _ _ h => h) (Or.inl ⟨by rfl, ?_⟩) (by assumption) ?_
    rotate_left
    · (intro w hSw; (try dsimp only at hSw); go_simp; (try with_reducible rfl))
    simp only [Act.put, List.getElem_toArray, List.getElem_cons_zero, List.getElem_cons_succ, List.setIfInBounds_toArray, List.set_cons_zero, List.set_cons_succ]
    refine wpAnyH_take (i := 4) (v := ?_) rfl (by kernel_rfl) (by kernel_rfl) (by kernel_rfl) (fun _ _ _ h => h) (Or.inl ⟨by rfl, ?_⟩) (by assumption) ?_
    rotate_left
    · (intro w hSw; (try dsimp only at hSw); (have v0 := Blk.cell hSw.1 1); simp only [List.getElem?_toArray, List.getElem?_cons_zero, List.getElem?_cons_succ] at v0; go_simp; (try with_reducible rfl))
    simp only [Act.put, List.getElem_toArray, List.getElem_cons_zero, List.getElem_cons_succ, List.setIfInBounds_toArray, List.set_cons_zero, List.set_cons_succ]
    refine wpAnyH_take (i := 5) (v := ?_) rfl (by kernel_rfl) (by kernel_rfl) (by kernel_rfl) (fun _ _ _ h => h) (Or.inl ⟨by rfl, ?_⟩) (by assumption) ?_
    rotate_left
    · (intro w hSw; (try dsimp only at hSw); go_simp; (try with_reducible rfl))
    simp only [Act.put, List.getElem_toArray, List.getElem_cons_zero, List.getElem_cons_succ, List.setIfInBounds_toArray, List.set_cons_zero, List.set_cons_succ]
    refine wpAnyH_ready (rs := [6, 9]) (by kernel_rfl) (by simp) ?_
    refine AllReadyH.cons rfl (fun K hK => ?_) ?_
    · rw [if_pos (by rfl)]
      go_simp
      ((with_reducible refine (qp.out _).mono ?_); rintro e Wp ⟨rfl, rfl⟩)
      refine hK.out _ _ (hHeld) (fun hHeld2 => ?_)
      clear hK K hHeld
      have hHeld := hHeld2; clear hHeld2
      refine wpAnyH_take (i := 7) (v := ?_) rfl (by kernel_rfl) (by kernel_rfl) (by kernel_rfl) (fun _ _ _ h => h) (Or.inl ⟨by rfl, ?_⟩) (by assumption) ?_
      rotate_left
      · (intro w hSw; (try dsimp only at hSw); go_simp; (try with_reducible rfl))
      simp only [Act.put, List.getElem_toArray, List.getElem_cons_zero, List.getElem_cons_succ, List.setIfInBounds_toArray, List.set_cons_zero, List.set_cons_succ]
      refine wpAnyH_take (i := 8) (v := ?_) rfl (by kernel_rfl) (by kernel_rfl) (by kernel_rfl) (fun _ _ _ h => h) (Or.inl ⟨by rfl, ?_⟩) (by assumption) ?_
      rotate_left
      · (intro w hSw; (try dsimp only at hSw); (have v0 := (hSw.2.cell (p := ⟨b, off + k * 2, none⟩) HBB.out).trans y0); (have v1 := (hSw.2.cell (p := ⟨b, off + k * 2 + 1, none⟩) HBB.out).trans y1); go_simp; (try with_reducible rfl))
      simp only [Act.put, List.getElem_toArray, List.getElem_cons_zero, List.getElem_cons_succ, List.setIfInBounds_toArray, List.set_cons_zero, List.set_cons_succ]
      refine wpAnyH_ready (rs := [9]) (by kernel_rfl) (by simp) ?_
      refine AllReadyH.cons rfl (fun K hK => ?_) AllReadyH.nil
      rw [if_pos (by rfl)]
      go_simp
      refine hK.out _ _ (⟨Blk.below hHeld.1 (ba9 _ _), hHeld.2.alloc hHeld.2.size _⟩) (fun hHeld2 => ?_)
      clear hK K hHeld
      have hHeld := hHeld2; clear hHeld2
      refine wpAnyH_ready (rs := [10]) (by kernel_rfl) (by simp) ?_
      refine AllReadyH.cons rfl (fun K hK => ?_) AllReadyH.nil
      rw [if_pos (by rfl)]
      go_simp
      refine hK.out _ _ (⟨(Blk.below X1.out HL.out.2).drew, HL.out.2.drew⟩) (fun hHeld2 => ?_)
      clear hK K hHeld
      have hHeld := hHeld2; clear hHeld2
      refine wpAnyH_done (by kernel_rfl) ?_ _
      refine NoPanic.normal ?_
      go_wp2_with fail
      go_meet
      exact ⟨rfl, HL.out.1.drew, HL.out.2.drew⟩
    refine AllReadyH.cons rfl (fun K hK => ?_) ?_
    · rw [if_pos (by rfl)]
      go_simp
      refine hK.out _ _ (⟨Blk.below hHeld.1 (ba9 _ _), hHeld.2.alloc hHeld.2.size _⟩) (fun hHeld2 => ?_)
      clear hK K hHeld
      have hHeld := hHeld2; clear hHeld2
      refine wpAnyH_ready (rs := [6]) (by kernel_rfl) (by simp) ?_
      refine AllReadyH.cons rfl (fun K hK => ?_) AllReadyH.nil
      rw [if_pos (by rfl)]
      go_simp
      ((with_reducible refine (qp.out _).mono ?_); rintro e Wp ⟨rfl, rfl⟩)
      refine hK.out _ _ (hHeld) (fun hHeld2 => ?_)
      clear hK K hHeld
      have hHeld := hHeld2; clear hHeld2
      refine wpAnyH_take (i := 7) (v := ?_) rfl (by kernel_rfl) (by kernel_rfl) (by kernel_rfl) (fun _ _ _ h => h) (Or.inl ⟨by rfl, ?_⟩) (by assumption) ?_
      rotate_left
      · (intro w hSw; (try dsimp only at hSw); go_simp; (try with_reducible rfl))
      simp only [Act.put, List.getElem_toArray, List.getElem_cons_zero, List.getElem_cons_succ, List.setIfInBounds_toArray, List.set_cons_zero, List.set_cons_succ]
      refine wpAnyH_take (i := 8) (v := ?_) rfl (by kernel_rfl) (by kernel_rfl) (by kernel_rfl) (fun _ _ _ h => h) (Or.inl ⟨by rfl, ?_⟩) (by assumption) ?_
      rotate_left
      · (intro w hSw; (try dsimp only at hSw); (have v0 := (hSw.2.cell (p := ⟨b, off + k * 2, none⟩) HBB.out).trans y0); (have v1 := (hSw.2.cell (p := ⟨b, off + k * 2 + 1, none⟩) HBB.out).trans y1); go_simp; (try with_reducible rfl))
      simp only [Act.put, List.getElem_toArray, List.getElem_cons_zero, List.getElem_cons_succ, List.setIfInBounds_toArray, List.set_cons_zero, List.set_cons_succ]
      refine wpAnyH_ready (rs := [10]) (by kernel_rfl) (by simp) ?_
      refine AllReadyH.cons rfl (fun K hK => ?_) AllReadyH.nil
      rw [if_pos (by rfl)]
      go_simp
      refine hK.out _ _ (⟨(Blk.below X1.out HL.out.2).drew, HL.out.2.drew⟩) (fun hHeld2 => ?_)
      clear hK K hHeld
      have hHeld := hHeld2; clear hHeld2
      refine wpAnyH_done (by kernel_rfl) ?_ _
      refine NoPanic.normal ?_
      go_wp2_with fail
      go_meet
      exact ⟨rfl, HL.out.1.drew, HL.out.2.drew⟩
    exact AllReadyH.nil
  case rest =>
    obtain ⟨rfl, hM, b_⟩ := hcut
    have XM := Lib.hid hM; clear hM
    have I1_ := Lib.hid (I1.out.below b_); clear I1
    have I1 := I1_; clear I1_
    have HR1_ := Lib.hid (HR1.out.below b_); clear HR1
    have HR1 := HR1_; clear HR1_
    have HP1_ := Lib.hid (HP1.out.below b_); clear HP1
    have HP1 := HP1_; clear HP1_
    have X1_ := Lib.hid (Blk.below X1.out b_); clear X1
    have X1 := X1_; clear X1_
    have HB_ := Lib.hid (bch HB.out b_); clear HB
    have HB := HB_; clear HB_
    clear b_ HL y0 y1 qp
    obtain ⟨W2, hW⟩ : ∃ X, X = wc := ⟨_, rfl⟩
    rewrite [← hW] at XM HB I1 HR1 HP1 X1
    rewrite [← hW]
    clear hW
    generalize hgm : W1.heap.size = gm at *
    clear hgm
    have HRC := Lib.hid HOK.out.1
    have HCW := Lib.hid HOK.out.2.1
    have HSM : Hid (c.mem.length ≤ 20 ∧ c.pl.length ≤ 20) := by have h := HOK.out.1.small; exact ⟨by omega, by omega⟩
    have hwm : (Lit.int .i64 nm).wf = true := by have h := HOK.out.2.1.2.1 _ (getD_mem HKk.out); rewrite [HPM.out] at h; exact h.1
    by_cases hl : c.level = 1
    · have HBM := Lib.hid (back_math HRC.out hl HKk.out HPM.out)
      have el : (c.level == 2) = false := by rw [hl]; rfl
      clear hl
      obtain ⟨ca, hca⟩ : ∃ ca : CtR, ca = ⟨c.level, c.mem.set k (nm, 3 - nb), c.pl⟩ := ⟨_, rfl⟩
      have HLV : Hid (ca.level = c.level) := by show _ = _; rw [hca]
      have hbm := HBM.out
      rewrite [← hca] at hbm
      obtain ⟨e1, hr1, e2, hne, hnb⟩ := hbm
      have HCA : Hid (CtW ca ∧ ca.mem.length ≤ 20 ∧ ca.pl.length ≤ 20) := by
        refine ⟨by have h := CtW.report HCW.out hwm (wf_i (t := 3 - nb) (by omega) (by omega)); rewrite [e1] at h; exact h, ?_⟩
        have h := hr1.small
        omega
      have HE1 := Lib.hid e1; have HE2 := Lib.hid e2; have HNE := Lib.hid hne
      clear e1 e2 hne hr1 hca HBM
      rcases hnb with rfl | rfl
      · have a0 := Blk.cell X1.out 0
        have a1 := Blk.cell X1.out 1
        have a2 := Blk.cell X1.out 2
        simp only [List.getElem?_toArray, List.getElem?_cons_zero, List.getElem?_cons_succ] at a0 a1 a2
        have b0 := Blk.cell XM.out 0
        have b1 := Blk.cell XM.out 1
        have b2 := Blk.cell XM.out 2
        simp only [List.getElem?_toArray, List.getElem?_cons_zero, List.getElem?_cons_succ] at b0 b1 b2
        go_wp2_with fail
        have q := (kP c (some ⟨b, off, none⟩) B1 n1 c1 m1 d1 nm 2 W2 (ctArg I1.out HCW.out HSM.out S1.out.1 S1.out.2) hwm (wf_i (t := 2) (by decide) (by decide))).mono (fun e w' h => h.at (by have h := HE1.out; exact h) (lv := (ca).level) rfl)
        ((with_reducible refine q.mono ?_); rintro e V3 ⟨A2, n2, c2, B2, m2, d2, rfl, h1, h2, ct, b⟩)
        clear q a0 a1 a2 b0 b1 b2
        have I1_ := Lib.hid (I1.out.below b); clear I1
        have I1 := I1_; clear I1_
        have HR1_ := Lib.hid (HR1.out.below b); clear HR1
        have HR1 := HR1_; clear HR1_
        have HP1_ := Lib.hid (HP1.out.below b); clear HP1
        have HP1 := HP1_; clear HP1_
        have X1_ := Lib.hid (Blk.below X1.out b); clear X1
        have X1 := X1_; clear X1_
        have XM_ := Lib.hid (Blk.below XM.out b); clear XM
        have XM := XM_; clear XM_
        have HB_ := Lib.hid (bch HB.out b); clear HB
        have HB := HB_; clear HB_
        clear b
        have I2 := Lib.hid ct
        have S2 : Hid (n2 ≤ c2 ∧ m2 ≤ d2) := ⟨h1, h2⟩
        clear h1 h2 ct
        go_upto_region 5 with fail
        have hba := ba9 V3 (ctB (ca) A2 n2 c2 B2 m2 d2)
        have X2 := Lib.hid (Blk.new V3 (ctB (ca) A2 n2 c2 B2 m2 d2))
        have I1_ := Lib.hid (I1.out.below hba); clear I1
        have I1 := I1_; clear I1_
        have HR1_ := Lib.hid (HR1.out.below hba); clear HR1
        have HR1 := HR1_; clear HR1_
        have HP1_ := Lib.hid (HP1.out.below hba); clear HP1
        have HP1 := HP1_; clear HP1_
        have X1_ := Lib.hid (Blk.below X1.out hba); clear X1
        have X1 := X1_; clear X1_
        have XM_ := Lib.hid (Blk.below XM.out hba); clear XM
        have XM := XM_; clear XM_
        have I2_ := Lib.hid (I2.out.below hba); clear I2
        have I2 := I2_; clear I2_
        have HB_ := Lib.hid (bch HB.out hba); clear HB
        have HB := HB_; clear HB_
        obtain ⟨W3, hW⟩ : ∃ X, V3.alloc (ctB (ca) A2 n2 c2 B2 m2 d2) = X := ⟨_, rfl⟩
        rewrite [hW] at X2 HB I1 HR1 HP1 X1 XM I2
        rewrite [hW]
        clear hW hba
        generalize hg2 : V3.heap.size = g2 at *
        clear hg2
        have p0 := Blk.cell X1.out 0
        simp only [List.getElem?_toArray, List.getElem?_cons_zero, List.getElem?_cons_succ] at p0
        have a0 := Blk.cell X2.out 0
        have a1 := Blk.cell X2.out 1
        have a2 := Blk.cell X2.out 2
        simp only [List.getElem?_toArray, List.getElem?_cons_zero, List.getElem?_cons_succ] at a0 a1 a2
        have b0 := Blk.cell XM.out 0
        have b1 := Blk.cell XM.out 1
        have b2 := Blk.cell XM.out 2
        simp only [List.getElem?_toArray, List.getElem?_cons_zero, List.getElem?_cons_succ] at b0 b1 b2
        go_wp2_with fail
        have q := (kP ca A2 B2 n2 c2 m2 d2 nm 1 W3 (ctArg I2.out HCA.out.1 HCA.out.2 S2.out.1 S2.out.2) hwm (wf_i (t := 1) (by decide) (by decide))).mono (fun e w' h => h.at (by have h := HE2.out; exact h) (lv := c.level) rfl)
        ((with_reducible refine q.mono ?_); rintro e V4 ⟨A3, n3, c3, B3, m3, d3, rfl, h1, h2, ct, b⟩)
        clear q a0 a1 a2 b0 b1 b2
        have I1_ := Lib.hid (I1.out.below b); clear I1
        have I1 := I1_; clear I1_
        have HR1_ := Lib.hid (HR1.out.below b); clear HR1
        have HR1 := HR1_; clear HR1_
        have HP1_ := Lib.hid (HP1.out.below b); clear HP1
        have HP1 := HP1_; clear HP1_
        have X1_ := Lib.hid (Blk.below X1.out b); clear X1
        have X1 := X1_; clear X1_
        have XM_ := Lib.hid (Blk.below XM.out b); clear XM
        have XM := XM_; clear XM_
        have I2_ := Lib.hid (I2.out.below b); clear I2
        have I2 := I2_; clear I2_
        have X2_ := Lib.hid (Blk.below X2.out b); clear X2
        have X2 := X2_; clear X2_
        have HB_ := Lib.hid (bch HB.out b); clear HB
        have HB := HB_; clear HB_
        clear b
        have I3 := Lib.hid ct
        have S3 : Hid (n3 ≤ c3 ∧ m3 ≤ d3) := ⟨h1, h2⟩
        clear h1 h2 ct p0
        go_upto_region 8 with fail
        have hba := ba9 V4 (ctB c A3 n3 c3 B3 m3 d3)
        have X3 := Lib.hid (Blk.new V4 (ctB c A3 n3 c3 B3 m3 d3))
        have I1_ := Lib.hid (I1.out.below hba); clear I1
        have I1 := I1_; clear I1_
        have HR1_ := Lib.hid (HR1.out.below hba); clear HR1
        have HR1 := HR1_; clear HR1_
        have HP1_ := Lib.hid (HP1.out.below hba); clear HP1
        have HP1 := HP1_; clear HP1_
        have X1_ := Lib.hid (Blk.below X1.out hba); clear X1
        have X1 := X1_; clear X1_
        have XM_ := Lib.hid (Blk.below XM.out hba); clear XM
        have XM := XM_; clear XM_
        have I2_ := Lib.hid (I2.out.below hba); clear I2
        have I2 := I2_; clear I2_
        have X2_ := Lib.hid (Blk.below X2.out hba); clear X2
        have X2 := X2_; clear X2_
        have I3_ := Lib.hid (I3.out.below hba); clear I3
        have I3 := I3_; clear I3_
        have HB_ := Lib.hid (bch HB.out hba); clear HB
        have HB := HB_; clear HB_
        obtain ⟨W4, hW⟩ : ∃ X, V4.alloc (ctB c A3 n3 c3 B3 m3 d3) = X := ⟨_, rfl⟩
        rewrite [hW] at X3 HB I1 HR1 HP1 X1 XM I2 X2 I3
        rewrite [hW]
        clear hW hba
        generalize hg3 : V4.heap.size = g3 at *
        clear hg3
        have a0 := Blk.cell X3.out 0
        have a1 := Blk.cell X3.out 1
        have a2 := Blk.cell X3.out 2
        simp only [List.getElem?_toArray, List.getElem?_cons_zero, List.getElem?_cons_succ] at a0 a1 a2
        have b0 := Blk.cell X1.out 0
        have b1 := Blk.cell X1.out 1
        have b2 := Blk.cell X1.out 2
        simp only [List.getElem?_toArray, List.getElem?_cons_zero, List.getElem?_cons_succ] at b0 b1 b2
        go_wp2_with fail
        have q := by
          have q := refsamec_any c c A3 B3 (some ⟨b, off, none⟩) B1 n3 c3 m3 d3 n1 c1 m1 d1 W4 I3.out I1.out
          rewrite [show decide (c = c) = true from decide_eq_true rfl] at q
          exact q
        ((with_reducible refine q.mono ?_); rintro e V5 ⟨rfl, b⟩)
        clear q a0 a1 a2 b0 b1 b2
        have I1_ := Lib.hid (I1.out.below b); clear I1
        have I1 := I1_; clear I1_
        have HR1_ := Lib.hid (HR1.out.below b); clear HR1
        have HR1 := HR1_; clear HR1_
        have HP1_ := Lib.hid (HP1.out.below b); clear HP1
        have HP1 := HP1_; clear HP1_
        have X1_ := Lib.hid (Blk.below X1.out b); clear X1
        have X1 := X1_; clear X1_
        have XM_ := Lib.hid (Blk.below XM.out b); clear XM
        have XM := XM_; clear XM_
        have I2_ := Lib.hid (I2.out.below b); clear I2
        have I2 := I2_; clear I2_
        have X2_ := Lib.hid (Blk.below X2.out b); clear X2
        have X2 := X2_; clear X2_
        have I3_ := Lib.hid (I3.out.below b); clear I3
        have I3 := I3_; clear I3_
        have X3_ := Lib.hid (Blk.below X3.out b); clear X3
        have X3 := X3_; clear X3_
        have HB_ := Lib.hid (bch HB.out b); clear HB
        have HB := HB_; clear HB_
        clear b
        have a0 := Blk.cell X2.out 0
        have a1 := Blk.cell X2.out 1
        have a2 := Blk.cell X2.out 2
        simp only [List.getElem?_toArray, List.getElem?_cons_zero, List.getElem?_cons_succ] at a0 a1 a2
        have b0 := Blk.cell X1.out 0
        have b1 := Blk.cell X1.out 1
        have b2 := Blk.cell X1.out 2
        simp only [List.getElem?_toArray, List.getElem?_cons_zero, List.getElem?_cons_succ] at b0 b1 b2
        go_wp2_with fail
        have q := by
          have q := refsamec_any ca c A2 B2 (some ⟨b, off, none⟩) B1 n2 c2 m2 d2 n1 c1 m1 d1 V5 I2.out I1.out
          rewrite [show decide (ca = c) = false from decide_eq_false HNE.out] at q
          exact q
        ((with_reducible refine q.mono ?_); rintro e V6 ⟨rfl, b⟩)
        clear q a0 a1 a2 b0 b1 b2
        have I1_ := Lib.hid (I1.out.below b); clear I1
        have I1 := I1_; clear I1_
        have HR1_ := Lib.hid (HR1.out.below b); clear HR1
        have HR1 := HR1_; clear HR1_
        have HP1_ := Lib.hid (HP1.out.below b); clear HP1
        have HP1 := HP1_; clear HP1_
        have X1_ := Lib.hid (Blk.below X1.out b); clear X1
        have X1 := X1_; clear X1_
        have XM_ := Lib.hid (Blk.below XM.out b); clear XM
        have XM := XM_; clear XM_
        have I2_ := Lib.hid (I2.out.below b); clear I2
        have I2 := I2_; clear I2_
        have X2_ := Lib.hid (Blk.below X2.out b); clear X2
        have X2 := X2_; clear X2_
        have I3_ := Lib.hid (I3.out.below b); clear I3
        have I3 := I3_; clear I3_
        have X3_ := Lib.hid (Blk.below X3.out b); clear X3
        have X3 := X3_; clear X3_
        have HB_ := Lib.hid (bch HB.out b); clear HB
        have HB := HB_; clear HB_
        clear b
        go_wp2_with fail
        go_ret
        exact ⟨rfl, HB.out⟩
      · have a0 := Blk.cell X1.out 0
        have a1 := Blk.cell X1.out 1
        have a2 := Blk.cell X1.out 2
        simp only [List.getElem?_toArray, List.getElem?_cons_zero, List.getElem?_cons_succ] at a0 a1 a2
        have b0 := Blk.cell XM.out 0
        have b1 := Blk.cell XM.out 1
        have b2 := Blk.cell XM.out 2
        simp only [List.getElem?_toArray, List.getElem?_cons_zero, List.getElem?_cons_succ] at b0 b1 b2
        go_wp2_with fail
        have q := (kP c (some ⟨b, off, none⟩) B1 n1 c1 m1 d1 nm 1 W2 (ctArg I1.out HCW.out HSM.out S1.out.1 S1.out.2) hwm (wf_i (t := 1) (by decide) (by decide))).mono (fun e w' h => h.at (by have h := HE1.out; exact h) (lv := (ca).level) rfl)
        ((with_reducible refine q.mono ?_); rintro e V3 ⟨A2, n2, c2, B2, m2, d2, rfl, h1, h2, ct, b⟩)
        clear q a0 a1 a2 b0 b1 b2
        have I1_ := Lib.hid (I1.out.below b); clear I1
        have I1 := I1_; clear I1_
        have HR1_ := Lib.hid (HR1.out.below b); clear HR1
        have HR1 := HR1_; clear HR1_
        have HP1_ := Lib.hid (HP1.out.below b); clear HP1
        have HP1 := HP1_; clear HP1_
        have X1_ := Lib.hid (Blk.below X1.out b); clear X1
        have X1 := X1_; clear X1_
        have XM_ := Lib.hid (Blk.below XM.out b); clear XM
        have XM := XM_; clear XM_
        have HB_ := Lib.hid (bch HB.out b); clear HB
        have HB := HB_; clear HB_
        clear b
        have I2 := Lib.hid ct
        have S2 : Hid (n2 ≤ c2 ∧ m2 ≤ d2) := ⟨h1, h2⟩
        clear h1 h2 ct
        go_upto_region 5 with fail
        have hba := ba9 V3 (ctB (ca) A2 n2 c2 B2 m2 d2)
        have X2 := Lib.hid (Blk.new V3 (ctB (ca) A2 n2 c2 B2 m2 d2))
        have I1_ := Lib.hid (I1.out.below hba); clear I1
        have I1 := I1_; clear I1_
        have HR1_ := Lib.hid (HR1.out.below hba); clear HR1
        have HR1 := HR1_; clear HR1_
        have HP1_ := Lib.hid (HP1.out.below hba); clear HP1
        have HP1 := HP1_; clear HP1_
        have X1_ := Lib.hid (Blk.below X1.out hba); clear X1
        have X1 := X1_; clear X1_
        have XM_ := Lib.hid (Blk.below XM.out hba); clear XM
        have XM := XM_; clear XM_
        have I2_ := Lib.hid (I2.out.below hba); clear I2
        have I2 := I2_; clear I2_
        have HB_ := Lib.hid (bch HB.out hba); clear HB
        have HB := HB_; clear HB_
        obtain ⟨W3, hW⟩ : ∃ X, V3.alloc (ctB (ca) A2 n2 c2 B2 m2 d2) = X := ⟨_, rfl⟩
        rewrite [hW] at X2 HB I1 HR1 HP1 X1 XM I2
        rewrite [hW]
        clear hW hba
        generalize hg2 : V3.heap.size = g2 at *
        clear hg2
        have p0 := Blk.cell X1.out 0
        simp only [List.getElem?_toArray, List.getElem?_cons_zero, List.getElem?_cons_succ] at p0
        have a0 := Blk.cell X2.out 0
        have a1 := Blk.cell X2.out 1
        have a2 := Blk.cell X2.out 2
        simp only [List.getElem?_toArray, List.getElem?_cons_zero, List.getElem?_cons_succ] at a0 a1 a2
        have b0 := Blk.cell XM.out 0
        have b1 := Blk.cell XM.out 1
        have b2 := Blk.cell XM.out 2
        simp only [List.getElem?_toArray, List.getElem?_cons_zero, List.getElem?_cons_succ] at b0 b1 b2
        go_wp2_with fail
        have q := (kP ca A2 B2 n2 c2 m2 d2 nm 2 W3 (ctArg I2.out HCA.out.1 HCA.out.2 S2.out.1 S2.out.2) hwm (wf_i (t := 2) (by decide) (by decide))).mono (fun e w' h => h.at (by have h := HE2.out; exact h) (lv := c.level) rfl)
        ((with_reducible refine q.mono ?_); rintro e V4 ⟨A3, n3, c3, B3, m3, d3, rfl, h1, h2, ct, b⟩)
        clear q a0 a1 a2 b0 b1 b2
        have I1_ := Lib.hid (I1.out.below b); clear I1
        have I1 := I1_; clear I1_
        have HR1_ := Lib.hid (HR1.out.below b); clear HR1
        have HR1 := HR1_; clear HR1_
        have HP1_ := Lib.hid (HP1.out.below b); clear HP1
        have HP1 := HP1_; clear HP1_
        have X1_ := Lib.hid (Blk.below X1.out b); clear X1
        have X1 := X1_; clear X1_
        have XM_ := Lib.hid (Blk.below XM.out b); clear XM
        have XM := XM_; clear XM_
        have I2_ := Lib.hid (I2.out.below b); clear I2
        have I2 := I2_; clear I2_
        have X2_ := Lib.hid (Blk.below X2.out b); clear X2
        have X2 := X2_; clear X2_
        have HB_ := Lib.hid (bch HB.out b); clear HB
        have HB := HB_; clear HB_
        clear b
        have I3 := Lib.hid ct
        have S3 : Hid (n3 ≤ c3 ∧ m3 ≤ d3) := ⟨h1, h2⟩
        clear h1 h2 ct p0
        go_upto_region 8 with fail
        have hba := ba9 V4 (ctB c A3 n3 c3 B3 m3 d3)
        have X3 := Lib.hid (Blk.new V4 (ctB c A3 n3 c3 B3 m3 d3))
        have I1_ := Lib.hid (I1.out.below hba); clear I1
        have I1 := I1_; clear I1_
        have HR1_ := Lib.hid (HR1.out.below hba); clear HR1
        have HR1 := HR1_; clear HR1_
        have HP1_ := Lib.hid (HP1.out.below hba); clear HP1
        have HP1 := HP1_; clear HP1_
        have X1_ := Lib.hid (Blk.below X1.out hba); clear X1
        have X1 := X1_; clear X1_
        have XM_ := Lib.hid (Blk.below XM.out hba); clear XM
        have XM := XM_; clear XM_
        have I2_ := Lib.hid (I2.out.below hba); clear I2
        have I2 := I2_; clear I2_
        have X2_ := Lib.hid (Blk.below X2.out hba); clear X2
        have X2 := X2_; clear X2_
        have I3_ := Lib.hid (I3.out.below hba); clear I3
        have I3 := I3_; clear I3_
        have HB_ := Lib.hid (bch HB.out hba); clear HB
        have HB := HB_; clear HB_
        obtain ⟨W4, hW⟩ : ∃ X, V4.alloc (ctB c A3 n3 c3 B3 m3 d3) = X := ⟨_, rfl⟩
        rewrite [hW] at X3 HB I1 HR1 HP1 X1 XM I2 X2 I3
        rewrite [hW]
        clear hW hba
        generalize hg3 : V4.heap.size = g3 at *
        clear hg3
        have a0 := Blk.cell X3.out 0
        have a1 := Blk.cell X3.out 1
        have a2 := Blk.cell X3.out 2
        simp only [List.getElem?_toArray, List.getElem?_cons_zero, List.getElem?_cons_succ] at a0 a1 a2
        have b0 := Blk.cell X1.out 0
        have b1 := Blk.cell X1.out 1
        have b2 := Blk.cell X1.out 2
        simp only [List.getElem?_toArray, List.getElem?_cons_zero, List.getElem?_cons_succ] at b0 b1 b2
        go_wp2_with fail
        have q := by
          have q := refsamec_any c c A3 B3 (some ⟨b, off, none⟩) B1 n3 c3 m3 d3 n1 c1 m1 d1 W4 I3.out I1.out
          rewrite [show decide (c = c) = true from decide_eq_true rfl] at q
          exact q
        ((with_reducible refine q.mono ?_); rintro e V5 ⟨rfl, b⟩)
        clear q a0 a1 a2 b0 b1 b2
        have I1_ := Lib.hid (I1.out.below b); clear I1
        have I1 := I1_; clear I1_
        have HR1_ := Lib.hid (HR1.out.below b); clear HR1
        have HR1 := HR1_; clear HR1_
        have HP1_ := Lib.hid (HP1.out.below b); clear HP1
        have HP1 := HP1_; clear HP1_
        have X1_ := Lib.hid (Blk.below X1.out b); clear X1
        have X1 := X1_; clear X1_
        have XM_ := Lib.hid (Blk.below XM.out b); clear XM
        have XM := XM_; clear XM_
        have I2_ := Lib.hid (I2.out.below b); clear I2
        have I2 := I2_; clear I2_
        have X2_ := Lib.hid (Blk.below X2.out b); clear X2
        have X2 := X2_; clear X2_
        have I3_ := Lib.hid (I3.out.below b); clear I3
        have I3 := I3_; clear I3_
        have X3_ := Lib.hid (Blk.below X3.out b); clear X3
        have X3 := X3_; clear X3_
        have HB_ := Lib.hid (bch HB.out b); clear HB
        have HB := HB_; clear HB_
        clear b
        have a0 := Blk.cell X2.out 0
        have a1 := Blk.cell X2.out 1
        have a2 := Blk.cell X2.out 2
        simp only [List.getElem?_toArray, List.getElem?_cons_zero, List.getElem?_cons_succ] at a0 a1 a2
        have b0 := Blk.cell X1.out 0
        have b1 := Blk.cell X1.out 1
        have b2 := Blk.cell X1.out 2
        simp only [List.getElem?_toArray, List.getElem?_cons_zero, List.getElem?_cons_succ] at b0 b1 b2
        go_wp2_with fail
        have q := by
          have q := refsamec_any ca c A2 B2 (some ⟨b, off, none⟩) B1 n2 c2 m2 d2 n1 c1 m1 d1 V5 I2.out I1.out
          rewrite [show decide (ca = c) = false from decide_eq_false HNE.out] at q
          exact q
        ((with_reducible refine q.mono ?_); rintro e V6 ⟨rfl, b⟩)
        clear q a0 a1 a2 b0 b1 b2
        have I1_ := Lib.hid (I1.out.below b); clear I1
        have I1 := I1_; clear I1_
        have HR1_ := Lib.hid (HR1.out.below b); clear HR1
        have HR1 := HR1_; clear HR1_
        have HP1_ := Lib.hid (HP1.out.below b); clear HP1
        have HP1 := HP1_; clear HP1_
        have X1_ := Lib.hid (Blk.below X1.out b); clear X1
        have X1 := X1_; clear X1_
        have XM_ := Lib.hid (Blk.below XM.out b); clear XM
        have XM := XM_; clear XM_
        have I2_ := Lib.hid (I2.out.below b); clear I2
        have I2 := I2_; clear I2_
        have X2_ := Lib.hid (Blk.below X2.out b); clear X2
        have X2 := X2_; clear X2_
        have I3_ := Lib.hid (I3.out.below b); clear I3
        have I3 := I3_; clear I3_
        have X3_ := Lib.hid (Blk.below X3.out b); clear X3
        have X3 := X3_; clear X3_
        have HB_ := Lib.hid (bch HB.out b); clear HB
        have HB := HB_; clear HB_
        clear b
        go_wp2_with fail
        go_ret
        exact ⟨rfl, HB.out⟩
    · have hbf := back_final HRC.out hl HKk.out HPM.out
      obtain ⟨e1, hl2, rfl⟩ := hbf
      have el : (c.level == 2) = true := by rw [hl2]; rfl
      have HE1 := Lib.hid e1
      clear e1 hl hl2
      have a0 := Blk.cell X1.out 0
      have a1 := Blk.cell X1.out 1
      have a2 := Blk.cell X1.out 2
      simp only [List.getElem?_toArray, List.getElem?_cons_zero, List.getElem?_cons_succ] at a0 a1 a2
      have b0 := Blk.cell XM.out 0
      have b1 := Blk.cell XM.out 1
      have b2 := Blk.cell XM.out 2
      simp only [List.getElem?_toArray, List.getElem?_cons_zero, List.getElem?_cons_succ] at b0 b1 b2
      go_wp2_with fail
      have q := (kP c (some ⟨b, off, none⟩) B1 n1 c1 m1 d1 nm 1 W2 (ctArg I1.out HCW.out HSM.out S1.out.1 S1.out.2) hwm (wf_i (t := 1) (by decide) (by decide))).mono (fun e w' h => h.at (by have h := HE1.out; exact h) (lv := (c).level) rfl)
      ((with_reducible refine q.mono ?_); rintro e V3 ⟨A2, n2, c2, B2, m2, d2, rfl, h1, h2, ct, b⟩)
      clear q a0 a1 a2 b0 b1 b2
      have I1_ := Lib.hid (I1.out.below b); clear I1
      have I1 := I1_; clear I1_
      have HR1_ := Lib.hid (HR1.out.below b); clear HR1
      have HR1 := HR1_; clear HR1_
      have HP1_ := Lib.hid (HP1.out.below b); clear HP1
      have HP1 := HP1_; clear HP1_
      have X1_ := Lib.hid (Blk.below X1.out b); clear X1
      have X1 := X1_; clear X1_
      have XM_ := Lib.hid (Blk.below XM.out b); clear XM
      have XM := XM_; clear XM_
      have HB_ := Lib.hid (bch HB.out b); clear HB
      have HB := HB_; clear HB_
      clear b
      have I2 := Lib.hid ct
      have S2 : Hid (n2 ≤ c2 ∧ m2 ≤ d2) := ⟨h1, h2⟩
      clear h1 h2 ct
      go_upto_region 5 with fail
      have hba := ba9 V3 (ctB (c) A2 n2 c2 B2 m2 d2)
      have X2 := Lib.hid (Blk.new V3 (ctB (c) A2 n2 c2 B2 m2 d2))
      have I1_ := Lib.hid (I1.out.below hba); clear I1
      have I1 := I1_; clear I1_
      have HR1_ := Lib.hid (HR1.out.below hba); clear HR1
      have HR1 := HR1_; clear HR1_
      have HP1_ := Lib.hid (HP1.out.below hba); clear HP1
      have HP1 := HP1_; clear HP1_
      have X1_ := Lib.hid (Blk.below X1.out hba); clear X1
      have X1 := X1_; clear X1_
      have XM_ := Lib.hid (Blk.below XM.out hba); clear XM
      have XM := XM_; clear XM_
      have I2_ := Lib.hid (I2.out.below hba); clear I2
      have I2 := I2_; clear I2_
      have HB_ := Lib.hid (bch HB.out hba); clear HB
      have HB := HB_; clear HB_
      obtain ⟨W3, hW⟩ : ∃ X, V3.alloc (ctB (c) A2 n2 c2 B2 m2 d2) = X := ⟨_, rfl⟩
      rewrite [hW] at X2 HB I1 HR1 HP1 X1 XM I2
      rewrite [hW]
      clear hW hba
      generalize hg2 : V3.heap.size = g2 at *
      clear hg2
      have p0 := Blk.cell X1.out 0
      simp only [List.getElem?_toArray, List.getElem?_cons_zero, List.getElem?_cons_succ] at p0
      have a0 := Blk.cell X2.out 0
      have a1 := Blk.cell X2.out 1
      have a2 := Blk.cell X2.out 2
      simp only [List.getElem?_toArray, List.getElem?_cons_zero, List.getElem?_cons_succ] at a0 a1 a2
      have b0 := Blk.cell X1.out 0
      have b1 := Blk.cell X1.out 1
      have b2 := Blk.cell X1.out 2
      simp only [List.getElem?_toArray, List.getElem?_cons_zero, List.getElem?_cons_succ] at b0 b1 b2
      go_wp2_with fail
      have q := by
        have q := refsamec_any c c A2 B2 (some ⟨b, off, none⟩) B1 n2 c2 m2 d2 n1 c1 m1 d1 W3 I2.out I1.out
        rewrite [show decide (c = c) = true from decide_eq_true rfl] at q
        exact q
      ((with_reducible refine q.mono ?_); rintro e V5 ⟨rfl, b⟩)
      clear q a0 a1 a2 b0 b1 b2
      have I1_ := Lib.hid (I1.out.below b); clear I1
      have I1 := I1_; clear I1_
      have HR1_ := Lib.hid (HR1.out.below b); clear HR1
      have HR1 := HR1_; clear HR1_
      have HP1_ := Lib.hid (HP1.out.below b); clear HP1
      have HP1 := HP1_; clear HP1_
      have X1_ := Lib.hid (Blk.below X1.out b); clear X1
      have X1 := X1_; clear X1_
      have XM_ := Lib.hid (Blk.below XM.out b); clear XM
      have XM := XM_; clear XM_
      have I2_ := Lib.hid (I2.out.below b); clear I2
      have I2 := I2_; clear I2_
      have X2_ := Lib.hid (Blk.below X2.out b); clear X2
      have X2 := X2_; clear X2_
      have HB_ := Lib.hid (bch HB.out b); clear HB
      have HB := HB_; clear HB_
      clear b
      go_wp2_with fail
      go_ret
      exact ⟨rfl, HB.out⟩
end Go.Proofs.Ytndkmepdnekigaa
