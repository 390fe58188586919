import Derived.Test.YtndkmepdnekigaaCtAwake
import Derived.Test.YtndkmepdnekigaaCtIn
import Derived.Test.YtndkmepdnekigaaCtSame
import Derived.Test.YtndkmepdnekigaaCtMovM
import Derived.BigQuiet
import Derived.Deep.QuietTactic
/-
  Epochs only rise, by one for each commit; a move that is cancelled changes nothing; what comes out is right. (The law 'ControlMoves' over what is asked of the program.)
-/
namespace Go.Proofs.Ytndkmepdnekigaa
open Go.RowKit
set_option linter.unusedVariables false
set_option linter.unusedSimpArgs false

set_option maxRecDepth 100000 in
set_option maxHeartbeats 40000000 in
theorem controlMoves_core (kR : RightC9) (kN : NewC9) (kJ : JoinC9) (kP : ReportC9) (kF : FinalC9) (kL : PlanC9) (kM : CommitC9) (kC : CancelC9) (kB : BalC9) (x y : Int) (A : Option Addr) (n cap : Nat) (f : Nat → Nat → Int) (zp : Int) (zt : Int) (w : World) (wx : (Lit.int .i64 x).wf = true) (wy : (Lit.int .i64 y).wf = true) (wr0 : IsRaw w A n 3 f) (wzp : (Lit.int .i64 zp).wf = true) (wzt : (Lit.int .i64 zt).wf = true) :
    Calls Try.prog 5 #[.int .i64 x, .int .i64 y, .slice A n cap, .int .i64 zp, .int .i64 zt] w fun e w' => e = .returned (.bool true) ∧ Below w.heap.size w w' := by
  have qa := awake18_any kR kN kJ kP kF kL kM kC kB w
  go_enter Try.func5, Try.ntmps5
  go_wp2_with fail
  ((with_reducible refine qa.mono ?_); rintro e V0 ⟨rfl, b⟩)
  have HB := Lib.hid b
  have qc := control_any x y A n cap f V0 wx wy (wr0.below b)
  have HOK : Hid (CtOk (ctlC x y f n)) := ctlC_ok x y f n
  have HEP : Hid (∀ p ∈ (ctlC x y f n).pl, p.2.1 ≤ 31) := ctlC_ep x y f n
  generalize ctlC x y f n = c at *
  clear b qa wr0
  go_wp2_with fail
  ((with_reducible refine qc.mono ?_); rintro e V1 ⟨A1, n1, c1, B1, m1, d1, rfl, hr1, hp1, hne1, b⟩)
  clear qc
  obtain ⟨_, _, hv1, hk1, hi1⟩ := hr1.parts
  obtain ⟨rfl, hl1, rfl⟩ := slice_eqG hv1
  obtain ⟨_, _, hv2, hk2, hi2⟩ := hp1.parts
  obtain ⟨rfl, hl2, rfl⟩ := slice_eqG hv2
  rewrite [← hl1] at hi1
  rewrite [← hl2] at hi2
  have I1 : Hid (IsCt V1 c A1 n1 B1 m1) := ⟨hi1, hi2⟩
  have S1 : Hid (n1 ≤ c1 ∧ m1 ≤ d1) := ⟨by omega, by omega⟩
  have HN1 : Hid (n1 = c.mem.length) := hl1
  have HM1 : Hid (m1 = c.pl.length) := hl2
  have hn18 : 1 ≤ n1 ∧ n1 ≤ 8 := by have := HOK.out.1.2.1; omega
  have hm18 : 1 ≤ m1 ∧ m1 ≤ 8 := by have := HOK.out.1.2.2.1; omega
  have HR1 := Lib.hid hr1; have HP1 := Lib.hid hp1; have HNE1 := Lib.hid hne1
  clear hv1 hv2 hk1 hk2 hi1 hi2 hl1 hl2 hr1 hp1 hne1
  have HBx := Lib.hid (bch HB.out b); clear HB
  have HB := HBx; clear HBx b
  go_upto_region 3 with fail
  have hba := ba9 V1 (ctB c A1 n1 c1 B1 m1 d1)
  have X1 := Lib.hid (Blk.new V1 (ctB c A1 n1 c1 B1 m1 d1))
  have I1_ := Lib.hid (I1.out.below hba); clear I1
  have I1 := I1_; clear I1_
  have HR1_ := Lib.hid (HR1.out.below hba); clear HR1
  have HR1 := HR1_; clear HR1_
  have HP1_ := Lib.hid (HP1.out.below hba); clear HP1
  have HP1 := HP1_; clear HP1_
  have HB_ := Lib.hid (bch HB.out hba); clear HB
  have HB := HB_; clear HB_
  obtain ⟨W1, hW⟩ : ∃ X, V1.alloc (ctB c A1 n1 c1 B1 m1 d1) = X := ⟨_, rfl⟩
  rewrite [hW] at X1 HB I1 HR1 HP1
  rewrite [hW]
  clear hW hba
  generalize hg1 : V1.heap.size = g1 at *
  clear hg1
  have HRC := Lib.hid HOK.out.1
  have HCW := Lib.hid HOK.out.2.1
  have HSM : Hid (c.mem.length ≤ 20 ∧ c.pl.length ≤ 20) := by have h := HOK.out.1.small; exact ⟨by omega, by omega⟩
  clear HNE1 HR1 HP1
  have qs := pick_nat zp (m1 : Int) (by omega) (by omega) wzp
  have him0 := pickN_lt zp (m1 : Int) (by omega)
  generalize pickN zp (m1 : Int) = i at *
  have him : i < m1 := by omega
  have HIL : Hid (i < c.pl.length) := by show _ < _; have := HM1.out; omega
  have hwi : (Lit.int .i64 (i : Int)).wf = true := wf_i (by omega) (by omega)
  clear him0
  have p2 := Blk.cell X1.out 2
  simp only [List.getElem?_toArray, List.getElem?_cons_zero, List.getElem?_cons_succ] at p2
  go_wp2_with fail
  ((with_reducible refine (qs _).mono ?_); rintro e V2 ⟨rfl, rfl⟩)
  clear p2 qs
  have qp : Hid (∀ W, Calls Try.prog 14 #[.int .i64 zt, .int .i64 (n1 : Int)] W fun e w' => e = .returned (.int .i64 (pickN zt (n1 : Int))) ∧ W = w') := fun W => pick_nat zt (n1 : Int) (by omega) (by omega) wzt W
  have hkx := pickN_lt zt (n1 : Int) (by omega)
  generalize pickN zt (n1 : Int) = k at *
  have hkk : k < n1 := by omega
  have HKk : Hid (k < c.mem.length) := by show _ < _; have := HN1.out; omega
  clear hkx
  obtain ⟨b, off, hA, hbb, y0, y1⟩ := is2_at I1.out.1 (atM9_get HKk.out)
  subst hA
  have HBB := Lib.hid hbb; clear hbb
  have hpm : c.mem.getD k (0, 0) = atM9 c.mem k := rfl
  generalize atM9 c.mem k = pm at *
  obtain ⟨nm, nb⟩ := pm
  simp only at y0 y1
  have HPM := Lib.hid hpm; clear hpm
  go_upto_region 4 with fail
  refine wp_region_noPanic ?_
  refine wp_region_held_drew (S := (fun W_ => Blk W_ g1 (ctB c (some ⟨b, off, none⟩) n1 c1 B1 m1 d1) ∧ Below W1.heap.size W1 W_)) (by kernel_rfl) (⟨X1.out.drew, (Below.refl _ _).drew⟩) (fun hHeld => ?_)
  refine wpAnyH_take (i := 0) (v := ?_) rfl (by kernel_rfl) (by kernel_rfl) (by kernel_rfl) (fun _ _ _ h => h) (Or.inl ⟨by rfl, ?_⟩) (by assumption) ?_
  rotate_left
  · (intro w hSw; (try dsimp only at hSw); go_simp; (try with_reducible rfl))
  simp only [Act.put, List.getElem_toArray, List.getElem_cons_zero, List.setIfInBounds_toArray, List.set_cons_zero, List.set_cons_succ]
  refine wpAnyH_take (i := 1) (v := ?_) rfl (by kernel_rfl) (by kernel_rfl) (by kernel_rfl) (fun _ _ _ h => h) (Or.inl ⟨by rfl, ?_⟩) (by assumption) ?_
  rotate_left
  · (intro w hSw; (try dsimp only at hSw); (have v0 := Blk.cell hSw.1 1); simp only [List.getElem?_toArray, List.getElem?_cons_zero, List.getElem?_cons_succ] at v0; go_simp; (try with_reducible rfl))
  simp only [Act.put, List.getElem_toArray, List.getElem_cons_zero, List.getElem_cons_succ, List.setIfInBounds_toArray, List.set_cons_zero, List.set_cons_succ]
  refine wpAnyH_take (i := 2) (v := ?_) rfl (by kernel_rfl) (by kernel_rfl) (by kernel_rfl) (fun _ _ _ h => h) (Or.inl ⟨by rfl, ?_⟩) (by assumption) ?_
  rotate_left
  · (intro w hSw; (try dsimp only at hSw); go_simp; (try with_reducible rfl))
  simp only [Act.put, List.getElem_toArray, List.getElem_cons_zero, List.getElem_cons_succ, List.setIfInBounds_toArray, List.set_cons_zero, List.set_cons_succ]
  refine wpAnyH_take (i := 3) (v := ?_) rfl (by kernel_rfl) (by kernel_rfl) (by kernel_rfl) (fun _ _ _ h => h) (Or.inl ⟨by rfl, ?_⟩) (by assumption) ?_
  rotate_left
  · (intro w hSw; (try dsimp only at hSw); go_simp; (try with_reducible rfl))
  simp only [Act.put, List.getElem_toArray, List.getElem_cons_zero, List.getElem_cons_succ, List.setIfInBounds_toArray, List.set_cons_zero, List.set_cons_succ]
  refine wpAnyH_take (i := 4) (v := ?_) rfl (by kernel_rfl) (by kernel_rfl) (by kernel_rfl) (fun _ _ _ h => h) (Or.inl ⟨by rfl, ?_⟩) (by assumption) ?_
  rotate_left
  · (intro w hSw; (try dsimp only at hSw); (have v0 := Blk.cell hSw.1 1); simp only [List.getElem?_toArray, List.getElem?_cons_zero, List.getElem?_cons_succ] at v0; go_simp; (try with_reducible rfl))
  simp only [Act.put, List.getElem_toArray, List.getElem_cons_zero, List.getElem_cons_succ, List.setIfInBounds_toArray, List.set_cons_zero, List.set_cons_succ]
  refine wpAnyH_take (i := 5) (v := ?_) rfl (by kernel_rfl) (by kernel_rfl) (by kernel_rfl) (fun _ _ _ h => h) (Or.inl ⟨by rfl, ?_⟩) (by assumption) ?_
  rotate_left
  · (intro w hSw; (try dsimp only at hSw); go_simp; (try with_reducible rfl))
  simp only [Act.put, List.getElem_toArray, List.getElem_cons_zero, List.getElem_cons_succ, List.setIfInBounds_toArray, List.set_cons_zero, List.set_cons_succ]
  refine wpAnyH_ready (rs := [6]) (by kernel_rfl) (by simp) ?_
  refine AllReadyH.cons rfl (fun K hK => ?_) AllReadyH.nil
  rw [if_pos (by rfl)]
  go_simp
  ((with_reducible refine (qp.out _).mono ?_); rintro e Wp ⟨rfl, rfl⟩)
  refine hK.out _ _ (hHeld) (fun hHeld2 => ?_)
  clear hK K hHeld
  have hHeld := hHeld2; clear hHeld2
  refine wpAnyH_take (i := 7) (v := ?_) rfl (by kernel_rfl) (by kernel_rfl) (by kernel_rfl) (fun _ _ _ h => h) (Or.inl ⟨by rfl, ?_⟩) (by assumption) ?_
  rotate_left
  · (intro w hSw; (try dsimp only at hSw); go_simp; (try with_reducible rfl))
  simp only [Act.put, List.getElem_toArray, List.getElem_cons_zero, List.getElem_cons_succ, List.setIfInBounds_toArray, List.set_cons_zero, List.set_cons_succ]
  refine wpAnyH_take (i := 8) (v := ?_) rfl (by kernel_rfl) (by kernel_rfl) (by kernel_rfl) (fun _ _ _ h => h) (Or.inl ⟨by rfl, ?_⟩) (by assumption) ?_
  rotate_left
  · (intro w hSw; (try dsimp only at hSw); go_simp; (try with_reducible rfl))
  simp only [Act.put, List.getElem_toArray, List.getElem_cons_zero, List.getElem_cons_succ, List.setIfInBounds_toArray, List.set_cons_zero, List.set_cons_succ]
  refine wpAnyH_take (i := 9) (v := ?_) rfl (by kernel_rfl) (by kernel_rfl) (by kernel_rfl) (fun _ _ _ h => h) (Or.inl ⟨by rfl, ?_⟩) (by assumption) ?_
  rotate_left
  · (intro w hSw; (try dsimp only at hSw); (have v0 := (hSw.2.cell (p := ⟨b, off + k * 2, none⟩) HBB.out).trans y0); go_simp; (try with_reducible rfl))
  simp only [Act.put, List.getElem_toArray, List.getElem_cons_zero, List.getElem_cons_succ, List.setIfInBounds_toArray, List.set_cons_zero, List.set_cons_succ]
  refine wpAnyH_take (i := 10) (v := ?_) rfl (by kernel_rfl) (by kernel_rfl) (by kernel_rfl) (fun _ _ _ h => h) (Or.inl ⟨by rfl, ?_⟩) (by assumption) ?_
  rotate_left
  · (intro w hSw; (try dsimp only at hSw); go_simp; (try with_reducible rfl))
  simp only [Act.put, List.getElem_toArray, List.getElem_cons_zero, List.getElem_cons_succ, List.setIfInBounds_toArray, List.set_cons_zero, List.set_cons_succ]
  refine wpAnyH_done (by kernel_rfl) ?_ _
  refine NoPanic.normal ?_
  have hd9 := (Below.refl W1.heap.size W1).drew
  have I1_ := Lib.hid (I1.out.below hd9); clear I1
  have I1 := I1_; clear I1_
  have X1_ := Lib.hid (Blk.below X1.out hd9); clear X1
  have X1 := X1_; clear X1_
  have HB_ := Lib.hid (bch HB.out hd9); clear HB
  have HB := HB_; clear HB_
  clear hd9 y0 y1 qp
  obtain ⟨W3, hW⟩ : ∃ X, X = W1.drew := ⟨_, rfl⟩
  rewrite [← hW] at HB I1 X1
  rewrite [← hW]
  clear hW
  obtain ⟨bp, offp, hB, hbp, _, _, _⟩ := is3_at I1.out.2 (atP9_get HIL.out)
  subst hB
  obtain ⟨ow, ep, tz, hpl⟩ : ∃ ow ep tz, atP9 c.pl i = (ow, ep, tz) := ⟨_, _, _, rfl⟩
  have HPL := Lib.hid hpl; clear hpl hbp
  have HPLC : Hid (∀ V, IsG s3 V (some ⟨bp, offp, none⟩) m1 c.pl → V.cell? ⟨bp, offp + i * 3, none⟩ = some (.int .i64 ow) ∧ V.cell? ⟨bp, offp + i * 3 + 1, none⟩ = some (.int .i64 ep) ∧ V.cell? ⟨bp, offp + i * 3 + 2, none⟩ = some (.int .i64 tz)) := fun V h => by
    obtain ⟨b_, off_, hA_, _, y0, y1, y2⟩ := is3_at h (atP9_get HIL.out)
    cases hA_
    rewrite [HPL.out] at y0 y1 y2
    exact ⟨y0, y1, y2⟩
  have hwm : (Lit.int .i64 nm).wf = true := by have h := HCW.out.2.1 _ (getD_mem HKk.out); rewrite [HPM.out] at h; exact h.1
  have HMT : Hid (isMem c.mem nm) := by have h := isMem_at HKk.out; rewrite [HPM.out] at h; exact h
  have himi : (i : Int) < (m1 : Int) := by omega
  by_cases hz : tz = 0
  · subst hz
    by_cases ho : ow = nm
    · obtain rfl : nm = ow := ho.symm
      have HE1 := Lib.hid (plan_owner HRC.out HIL.out HPL.out HMT.out)
      have a0 := Blk.cell X1.out 0
      have a1 := Blk.cell X1.out 1
      have a2 := Blk.cell X1.out 2
      simp only [List.getElem?_toArray, List.getElem?_cons_zero, List.getElem?_cons_succ] at a0 a1 a2
      go_wp2_with fail
      have q := (kL c (some ⟨b, off, none⟩) (some ⟨bp, offp, none⟩) n1 c1 m1 d1 (i : Int) nm W3 (ctArg I1.out HCW.out HSM.out S1.out.1 S1.out.2) hwi hwm).mono (fun e w' h => h.at HE1.out (lv := (c).level) rfl)
      ((with_reducible refine q.mono ?_); rintro e V4 ⟨A2, n2, c2, B2, m2, d2, rfl, h1, h2, ct, b⟩)
      clear q a0 a1 a2
      have I1_ := Lib.hid (I1.out.below b); clear I1
      have I1 := I1_; clear I1_
      have X1_ := Lib.hid (Blk.below X1.out b); clear X1
      have X1 := X1_; clear X1_
      have HB_ := Lib.hid (bch HB.out b); clear HB
      have HB := HB_; clear HB_
      clear b
      have I2 := Lib.hid ct
      have S2 : Hid (n2 ≤ c2 ∧ m2 ≤ d2) := ⟨h1, h2⟩
      clear h1 h2 ct
      go_upto_region 6 with fail
      have hba := ba9 V4 (ctB (c) A2 n2 c2 B2 m2 d2)
      have X2 := Lib.hid (Blk.new V4 (ctB (c) A2 n2 c2 B2 m2 d2))
      have I1_ := Lib.hid (I1.out.below hba); clear I1
      have I1 := I1_; clear I1_
      have X1_ := Lib.hid (Blk.below X1.out hba); clear X1
      have X1 := X1_; clear X1_
      have I2_ := Lib.hid (I2.out.below hba); clear I2
      have I2 := I2_; clear I2_
      have HB_ := Lib.hid (bch HB.out hba); clear HB
      have HB := HB_; clear HB_
      obtain ⟨W4, hW⟩ : ∃ X, V4.alloc (ctB (c) A2 n2 c2 B2 m2 d2) = X := ⟨_, rfl⟩
      rewrite [hW] at X2 HB I1 X1 I2
      rewrite [hW]
      clear hW hba
      generalize hg2 : V4.heap.size = g2 at *
      clear hg2
      have p0 := Blk.cell X1.out 0
      have p1 := Blk.cell X1.out 1
      have p2 := Blk.cell X1.out 2
      simp only [List.getElem?_toArray, List.getElem?_cons_zero, List.getElem?_cons_succ] at p0 p1 p2
      obtain ⟨y0, y1, y2⟩ := HPLC.out _ I1.out.2
      go_upto_region 7 with fail
      clear y0 y1 y2 p0 p1 p2
      have a0 := Blk.cell X2.out 0
      have a1 := Blk.cell X2.out 1
      have a2 := Blk.cell X2.out 2
      simp only [List.getElem?_toArray, List.getElem?_cons_zero, List.getElem?_cons_succ] at a0 a1 a2
      have b0 := Blk.cell X1.out 0
      have b1 := Blk.cell X1.out 1
      have b2 := Blk.cell X1.out 2
      simp only [List.getElem?_toArray, List.getElem?_cons_zero, List.getElem?_cons_succ] at b0 b1 b2
      go_wp2_with fail
      have q := by
        have q := refsamec_any c c A2 B2 (some ⟨b, off, none⟩) (some ⟨bp, offp, none⟩) n2 c2 m2 d2 n1 c1 m1 d1 W4 I2.out I1.out
        rewrite [show decide (c = c) = true from decide_eq_true rfl] at q
        exact q
      ((with_reducible refine q.mono ?_); rintro e V5 ⟨rfl, b⟩)
      clear q a0 a1 a2 b0 b1 b2
      have I1_ := Lib.hid (I1.out.below b); clear I1
      have I1 := I1_; clear I1_
      have X1_ := Lib.hid (Blk.below X1.out b); clear X1
      have X1 := X1_; clear X1_
      have I2_ := Lib.hid (I2.out.below b); clear I2
      have I2 := I2_; clear I2_
      have X2_ := Lib.hid (Blk.below X2.out b); clear X2
      have X2 := X2_; clear X2_
      have HB_ := Lib.hid (bch HB.out b); clear HB
      have HB := HB_; clear HB_
      clear b
      go_wp2_with fail
      go_ret
      exact ⟨rfl, HB.out⟩
    · have eo : (ow == nm) = false := by simpa using ho
      obtain ⟨e1, hr1, e2, hr2, e3, hep1, hep2⟩ := moves_math HRC.out HEP.out HIL.out HPL.out HMT.out ho
      obtain ⟨ca, hca⟩ : ∃ ca : CtR, ca = setPl c (i : Int) (ow, ep, nm) := ⟨_, rfl⟩
      obtain ⟨cd, hcd⟩ : ∃ cd : CtR, cd = setPl c (i : Int) (nm, ep + 1, 0) := ⟨_, rfl⟩
      rewrite [← hca] at e1 hr1 e2 e3
      rewrite [← hcd] at e2 hr2
      have HDP : Hid (cd.pl = c.pl.set i (nm, ep + 1, 0)) := by show _ = _; rw [hcd]; exact setPl_pl c i _
      have HCA : Hid (CtW ca ∧ RightC ca) := by
        have h := CtW.plan (s := (i : Int)) (t := nm) HCW.out hwm
        rewrite [e1] at h
        exact ⟨h, hr1⟩
      have HCS : Hid (ca.mem.length ≤ 20 ∧ ca.pl.length ≤ 20) := by have h := HCA.out.2.small; exact ⟨by omega, by omega⟩
      have HCD : Hid (CtW cd ∧ RightC cd) := by
        have h := CtW.commit (s := (i : Int)) HCA.out.1
        rewrite [e2] at h
        exact ⟨h, hr2⟩
      have HDS : Hid (cd.mem.length ≤ 20 ∧ cd.pl.length ≤ 20) := by have h := HCD.out.2.small; exact ⟨by omega, by omega⟩
      have HE1 := Lib.hid e1; have HE2 := Lib.hid e2; have HE3 := Lib.hid e3
      have HEE : Hid (1 ≤ ep ∧ ep ≤ 31) := ⟨hep1, hep2⟩
      clear ho e1 hr1 e2 hr2 e3 hca hcd hep1 hep2
      have a0 := Blk.cell X1.out 0
      have a1 := Blk.cell X1.out 1
      have a2 := Blk.cell X1.out 2
      simp only [List.getElem?_toArray, List.getElem?_cons_zero, List.getElem?_cons_succ] at a0 a1 a2
      go_wp2_with fail
      have q := (kL c (some ⟨b, off, none⟩) (some ⟨bp, offp, none⟩) n1 c1 m1 d1 (i : Int) nm W3 (ctArg I1.out HCW.out HSM.out S1.out.1 S1.out.2) hwi hwm).mono (fun e w' h => h.at HE1.out (lv := (ca).level) rfl)
      ((with_reducible refine q.mono ?_); rintro e V4 ⟨A2, n2, c2, B2, m2, d2, rfl, h1, h2, ct, b⟩)
      clear q a0 a1 a2
      have I1_ := Lib.hid (I1.out.below b); clear I1
      have I1 := I1_; clear I1_
      have X1_ := Lib.hid (Blk.below X1.out b); clear X1
      have X1 := X1_; clear X1_
      have HB_ := Lib.hid (bch HB.out b); clear HB
      have HB := HB_; clear HB_
      clear b
      have I2 := Lib.hid ct
      have S2 : Hid (n2 ≤ c2 ∧ m2 ≤ d2) := ⟨h1, h2⟩
      clear h1 h2 ct
      go_upto_region 6 with fail
      have hba := ba9 V4 (ctB (ca) A2 n2 c2 B2 m2 d2)
      have X2 := Lib.hid (Blk.new V4 (ctB (ca) A2 n2 c2 B2 m2 d2))
      have I1_ := Lib.hid (I1.out.below hba); clear I1
      have I1 := I1_; clear I1_
      have X1_ := Lib.hid (Blk.below X1.out hba); clear X1
      have X1 := X1_; clear X1_
      have I2_ := Lib.hid (I2.out.below hba); clear I2
      have I2 := I2_; clear I2_
      have HB_ := Lib.hid (bch HB.out hba); clear HB
      have HB := HB_; clear HB_
      obtain ⟨W4, hW⟩ : ∃ X, V4.alloc (ctB (ca) A2 n2 c2 B2 m2 d2) = X := ⟨_, rfl⟩
      rewrite [hW] at X2 HB I1 X1 I2
      rewrite [hW]
      clear hW hba
      generalize hg2 : V4.heap.size = g2 at *
      clear hg2
      have p0 := Blk.cell X1.out 0
      have p1 := Blk.cell X1.out 1
      have p2 := Blk.cell X1.out 2
      simp only [List.getElem?_toArray, List.getElem?_cons_zero, List.getElem?_cons_succ] at p0 p1 p2
      obtain ⟨y0, y1, y2⟩ := HPLC.out _ I1.out.2
      go_upto_region 8 with fail
      clear y0 y1 y2 p0 p1 p2
      have a0 := Blk.cell X2.out 0
      have a1 := Blk.cell X2.out 1
      have a2 := Blk.cell X2.out 2
      simp only [List.getElem?_toArray, List.getElem?_cons_zero, List.getElem?_cons_succ] at a0 a1 a2
      go_wp2_with fail
      have q := (kM ca A2 B2 n2 c2 m2 d2 (i : Int) W4 (ctArg I2.out HCA.out.1 HCS.out S2.out.1 S2.out.2) hwi).mono (fun e w' h => h.at HE2.out (lv := (cd).level) rfl)
      ((with_reducible refine q.mono ?_); rintro e V5 ⟨A3, n3, c3, B3, m3, d3, rfl, h1, h2, ct, b⟩)
      clear q a0 a1 a2
      have I1_ := Lib.hid (I1.out.below b); clear I1
      have I1 := I1_; clear I1_
      have X1_ := Lib.hid (Blk.below X1.out b); clear X1
      have X1 := X1_; clear X1_
      have I2_ := Lib.hid (I2.out.below b); clear I2
      have I2 := I2_; clear I2_
      have X2_ := Lib.hid (Blk.below X2.out b); clear X2
      have X2 := X2_; clear X2_
      have HB_ := Lib.hid (bch HB.out b); clear HB
      have HB := HB_; clear HB_
      clear b
      have I3 := Lib.hid ct
      have S3 : Hid (n3 ≤ c3 ∧ m3 ≤ d3) := ⟨h1, h2⟩
      clear h1 h2 ct
      go_upto_region 9 with fail
      have hba := ba9 V5 (ctB (cd) A3 n3 c3 B3 m3 d3)
      have X3 := Lib.hid (Blk.new V5 (ctB (cd) A3 n3 c3 B3 m3 d3))
      have I1_ := Lib.hid (I1.out.below hba); clear I1
      have I1 := I1_; clear I1_
      have X1_ := Lib.hid (Blk.below X1.out hba); clear X1
      have X1 := X1_; clear X1_
      have I2_ := Lib.hid (I2.out.below hba); clear I2
      have I2 := I2_; clear I2_
      have X2_ := Lib.hid (Blk.below X2.out hba); clear X2
      have X2 := X2_; clear X2_
      have I3_ := Lib.hid (I3.out.below hba); clear I3
      have I3 := I3_; clear I3_
      have HB_ := Lib.hid (bch HB.out hba); clear HB
      have HB := HB_; clear HB_
      obtain ⟨W5, hW⟩ : ∃ X, V5.alloc (ctB (cd) A3 n3 c3 B3 m3 d3) = X := ⟨_, rfl⟩
      rewrite [hW] at X3 HB I1 X1 I2 X2 I3
      rewrite [hW]
      clear hW hba
      generalize hg3 : V5.heap.size = g3 at *
      clear hg3
      have a0 := Blk.cell X2.out 0
      have a1 := Blk.cell X2.out 1
      have a2 := Blk.cell X2.out 2
      simp only [List.getElem?_toArray, List.getElem?_cons_zero, List.getElem?_cons_succ] at a0 a1 a2
      go_wp2_with fail
      have q := (kC ca A2 B2 n2 c2 m2 d2 (i : Int) W5 (ctArg I2.out HCA.out.1 HCS.out S2.out.1 S2.out.2) hwi).mono (fun e w' h => h.at HE3.out (lv := (c).level) rfl)
      ((with_reducible refine q.mono ?_); rintro e V6 ⟨A4, n4, c4, B4, m4, d4, rfl, h1, h2, ct, b⟩)
      clear q a0 a1 a2
      have I1_ := Lib.hid (I1.out.below b); clear I1
      have I1 := I1_; clear I1_
      have X1_ := Lib.hid (Blk.below X1.out b); clear X1
      have X1 := X1_; clear X1_
      have I2_ := Lib.hid (I2.out.below b); clear I2
      have I2 := I2_; clear I2_
      have X2_ := Lib.hid (Blk.below X2.out b); clear X2
      have X2 := X2_; clear X2_
      have I3_ := Lib.hid (I3.out.below b); clear I3
      have I3 := I3_; clear I3_
      have X3_ := Lib.hid (Blk.below X3.out b); clear X3
      have X3 := X3_; clear X3_
      have HB_ := Lib.hid (bch HB.out b); clear HB
      have HB := HB_; clear HB_
      clear b
      have I4 := Lib.hid ct
      have S4 : Hid (n4 ≤ c4 ∧ m4 ≤ d4) := ⟨h1, h2⟩
      clear h1 h2 ct
      go_upto_region 10 with fail
      have hba := ba9 V6 (ctB (c) A4 n4 c4 B4 m4 d4)
      have X4 := Lib.hid (Blk.new V6 (ctB (c) A4 n4 c4 B4 m4 d4))
      have I1_ := Lib.hid (I1.out.below hba); clear I1
      have I1 := I1_; clear I1_
      have X1_ := Lib.hid (Blk.below X1.out hba); clear X1
      have X1 := X1_; clear X1_
      have I2_ := Lib.hid (I2.out.below hba); clear I2
      have I2 := I2_; clear I2_
      have X2_ := Lib.hid (Blk.below X2.out hba); clear X2
      have X2 := X2_; clear X2_
      have I3_ := Lib.hid (I3.out.below hba); clear I3
      have I3 := I3_; clear I3_
      have X3_ := Lib.hid (Blk.below X3.out hba); clear X3
      have X3 := X3_; clear X3_
      have I4_ := Lib.hid (I4.out.below hba); clear I4
      have I4 := I4_; clear I4_
      have HB_ := Lib.hid (bch HB.out hba); clear HB
      have HB := HB_; clear HB_
      obtain ⟨W6, hW⟩ : ∃ X, V6.alloc (ctB (c) A4 n4 c4 B4 m4 d4) = X := ⟨_, rfl⟩
      rewrite [hW] at X4 HB I1 X1 I2 X2 I3 X3 I4
      rewrite [hW]
      clear hW hba
      generalize hg4 : V6.heap.size = g4 at *
      clear hg4
      have a0 := Blk.cell X2.out 0
      have a1 := Blk.cell X2.out 1
      have a2 := Blk.cell X2.out 2
      simp only [List.getElem?_toArray, List.getElem?_cons_zero, List.getElem?_cons_succ] at a0 a1 a2
      go_wp2_with fail
      have q := (by
        have q := kR ca A2 B2 n2 c2 m2 d2 W6 (ctArg I2.out HCA.out.1 HCS.out S2.out.1 S2.out.2)
        rewrite [show rightC ca = true from decide_eq_true HCA.out.2] at q
        exact q)
      ((with_reducible refine q.mono ?_); rintro e V7 ⟨rfl, b⟩)
      clear q a0 a1 a2
      have I1_ := Lib.hid (I1.out.below b); clear I1
      have I1 := I1_; clear I1_
      have X1_ := Lib.hid (Blk.below X1.out b); clear X1
      have X1 := X1_; clear X1_
      have I2_ := Lib.hid (I2.out.below b); clear I2
      have I2 := I2_; clear I2_
      have X2_ := Lib.hid (Blk.below X2.out b); clear X2
      have X2 := X2_; clear X2_
      have I3_ := Lib.hid (I3.out.below b); clear I3
      have I3 := I3_; clear I3_
      have X3_ := Lib.hid (Blk.below X3.out b); clear X3
      have X3 := X3_; clear X3_
      have I4_ := Lib.hid (I4.out.below b); clear I4
      have I4 := I4_; clear I4_
      have X4_ := Lib.hid (Blk.below X4.out b); clear X4
      have X4 := X4_; clear X4_
      have HB_ := Lib.hid (bch HB.out b); clear HB
      have HB := HB_; clear HB_
      clear b
      have a0 := Blk.cell X3.out 0
      have a1 := Blk.cell X3.out 1
      have a2 := Blk.cell X3.out 2
      simp only [List.getElem?_toArray, List.getElem?_cons_zero, List.getElem?_cons_succ] at a0 a1 a2
      go_wp2_with fail
      have q := (by
        have q := kR cd A3 B3 n3 c3 m3 d3 V7 (ctArg I3.out HCD.out.1 HDS.out S3.out.1 S3.out.2)
        rewrite [show rightC cd = true from decide_eq_true HCD.out.2] at q
        exact q)
      ((with_reducible refine q.mono ?_); rintro e V8 ⟨rfl, b⟩)
      clear q a0 a1 a2
      have I1_ := Lib.hid (I1.out.below b); clear I1
      have I1 := I1_; clear I1_
      have X1_ := Lib.hid (Blk.below X1.out b); clear X1
      have X1 := X1_; clear X1_
      have I2_ := Lib.hid (I2.out.below b); clear I2
      have I2 := I2_; clear I2_
      have X2_ := Lib.hid (Blk.below X2.out b); clear X2
      have X2 := X2_; clear X2_
      have I3_ := Lib.hid (I3.out.below b); clear I3
      have I3 := I3_; clear I3_
      have X3_ := Lib.hid (Blk.below X3.out b); clear X3
      have X3 := X3_; clear X3_
      have I4_ := Lib.hid (I4.out.below b); clear I4
      have I4 := I4_; clear I4_
      have X4_ := Lib.hid (Blk.below X4.out b); clear X4
      have X4 := X4_; clear X4_
      have HB_ := Lib.hid (bch HB.out b); clear HB
      have HB := HB_; clear HB_
      clear b
      have a0 := Blk.cell X4.out 0
      have a1 := Blk.cell X4.out 1
      have a2 := Blk.cell X4.out 2
      simp only [List.getElem?_toArray, List.getElem?_cons_zero, List.getElem?_cons_succ] at a0 a1 a2
      have b0 := Blk.cell X1.out 0
      have b1 := Blk.cell X1.out 1
      have b2 := Blk.cell X1.out 2
      simp only [List.getElem?_toArray, List.getElem?_cons_zero, List.getElem?_cons_succ] at b0 b1 b2
      go_wp2_with fail
      have q := by
        have q := refsamec_any c c A4 B4 (some ⟨b, off, none⟩) (some ⟨bp, offp, none⟩) n4 c4 m4 d4 n1 c1 m1 d1 V8 I4.out I1.out
        rewrite [show decide (c = c) = true from decide_eq_true rfl] at q
        exact q
      ((with_reducible refine q.mono ?_); rintro e V9 ⟨rfl, b⟩)
      clear q a0 a1 a2 b0 b1 b2
      have I1_ := Lib.hid (I1.out.below b); clear I1
      have I1 := I1_; clear I1_
      have X1_ := Lib.hid (Blk.below X1.out b); clear X1
      have X1 := X1_; clear X1_
      have I2_ := Lib.hid (I2.out.below b); clear I2
      have I2 := I2_; clear I2_
      have X2_ := Lib.hid (Blk.below X2.out b); clear X2
      have X2 := X2_; clear X2_
      have I3_ := Lib.hid (I3.out.below b); clear I3
      have I3 := I3_; clear I3_
      have X3_ := Lib.hid (Blk.below X3.out b); clear X3
      have X3 := X3_; clear X3_
      have I4_ := Lib.hid (I4.out.below b); clear I4
      have I4 := I4_; clear I4_
      have X4_ := Lib.hid (Blk.below X4.out b); clear X4
      have X4 := X4_; clear X4_
      have HB_ := Lib.hid (bch HB.out b); clear HB
      have HB := HB_; clear HB_
      clear b
      have hm3 : m3 = m1 := by have h1 := I3.out.2.1; have h2 := HM1.out; rewrite [HDP.out, List.length_set] at h1; omega
      have HM3 := Lib.hid hm3; clear hm3
      clear X2 X4 I2 I4 S2 S4
      go_wp2_with fail
      go_loopw [21] (fun q wr => ∃ j : Nat, j ≤ m1 ∧ q = .int .i64 j ∧ Hid (Below V9.heap.size V9 wr)) (fun q _ => m1 - (intOf q).toNat)
      case atStart => exact ⟨0, Nat.zero_le _, rfl, Below.refl _ _⟩
      case round =>
        obtain ⟨j, hj, rfl, hbw⟩ := hrel
        have z2 := Blk.cell (Blk.below X1.out hbw.out) 2
        simp only [List.getElem?_toArray, List.getElem?_cons_zero, List.getElem?_cons_succ] at z2
        by_cases hlt : j < m1
        · have HJ : Hid (j < c.pl.length) := by show j < _; have := HM1.out; omega
          have HJD : Hid (j < cd.pl.length) := by show j < _; rw [HDP.out, List.length_set]; exact HJ.out
          have hji : (j : Int) < (m1 : Int) := by omega
          have hji3 : (j : Int) < (m3 : Int) := by have := HM3.out; omega
          have i1 := I1.out.below hbw.out
          have i3 := I3.out.below hbw.out
          obtain ⟨b_, off_, hA_, hb1, u0, u1, u2⟩ := is3_at i1.2 (atP9_get HJ.out)
          cases hA_
          obtain ⟨bd, offd, hB3, hb3, v0, v1, v2⟩ := is3_at i3.2 (atP9_get HJD.out)
          subst hB3
          obtain ⟨yo, ye, yt⟩ := HPLC.out _ i1.2
          have HD1 : Hid (j = i → atP9 cd.pl j = (nm, ep + 1, 0)) := fun e => by rw [e, HDP.out, atP9_set HIL.out]
          have HD2 : Hid (j ≠ i → atP9 cd.pl j = atP9 c.pl j) := fun e => by rw [HDP.out, atP9_other (fun h => e h.symm)]
          generalize atP9 c.pl j = pc at *
          generalize atP9 cd.pl j = pd at *
          obtain ⟨po, pe, pt⟩ := pc
          simp only at u0 u1 u2
          go_upto_region 16 with fail
          have hba := ba9 wr (.cells #[.int .i64 po, .int .i64 pe, .int .i64 pt] 48)
          have hMw := Blk.new wr (.cells #[.int .i64 po, .int .i64 pe, .int .i64 pt] 48)
          have hx1 := Blk.below (Blk.below X1.out hbw.out) hba
          have hx3 := Blk.below (Blk.below X3.out hbw.out) hba
          have hg := bch hbw.out hba
          have HC0 : Hid ((wr.alloc (.cells #[.int .i64 po, .int .i64 pe, .int .i64 pt] 48)).cell? ⟨bp, offp + i * 3 + 1, none⟩ = some (.int .i64 ep)) := by show _ = _; rw [← ye]; exact hba.cell (p := ⟨bp, offp + i * 3 + 1, none⟩) hb1
          have HV : Hid (∀ V, Below wr.heap.size wr V → V.cell? ⟨bd, offd + j * 3, none⟩ = some (.int .i64 pd.1) ∧ V.cell? ⟨bd, offd + j * 3 + 1, none⟩ = some (.int .i64 pd.2.1) ∧ V.cell? ⟨bd, offd + j * 3 + 2, none⟩ = some (.int .i64 pd.2.2)) := fun V hb_ => ⟨(hb_.cell (p := ⟨bd, offd + j * 3, none⟩) hb3).trans v0, (hb_.cell (p := ⟨bd, offd + j * 3 + 1, none⟩) hb3).trans v1, (hb_.cell (p := ⟨bd, offd + j * 3 + 2, none⟩) hb3).trans v2⟩
          have hgw : V9.heap.size ≤ wr.heap.size := hbw.out.size
          have hx1l := Blk.lt (Blk.below X1.out hbw.out)
          have hx3l := Blk.lt (Blk.below X3.out hbw.out)
          have hbaw := hba
          obtain ⟨Wj, hW⟩ : ∃ X, wr.alloc (.cells #[.int .i64 po, .int .i64 pe, .int .i64 pt] 48) = X := ⟨_, rfl⟩
          rewrite [hW] at hMw hx1 hx3 hg HC0 hbaw
          rewrite [hW]
          clear hW hba u0 u1 u2 v0 v1 v2 yo ye yt z2 i1 i3 hb1 hb3
          by_cases hij : j = i
          · have HPD := Lib.hid (HD1.out hij)
            have eij : ((j : Int) == (i : Int)) = true := by simp; omega
            have eijn : (j == i) = true := by simpa using hij
            clear HD1 HD2 hij
            have m0 := Blk.cell hMw 0
            have m1_ := Blk.cell hMw 1
            have m2_ := Blk.cell hMw 2
            have z2 := Blk.cell hx1 2
            simp only [List.getElem?_toArray, List.getElem?_cons_zero, List.getElem?_cons_succ] at m0 m1_ m2_ z2
            have f0 := Blk.frozen hMw 0
            have f1 := Blk.frozen hMw 1
            have f2 := Blk.frozen hMw 2
            have ye := HC0.out
            have hwp : IntKind.i64.wrap (ep + 1) = ep + 1 := IntWalk.i64_in _ (by have := HEE.out; omega)
            go_upto_region 18 with fail
            have hMs := Blk.set (Blk.set (Blk.set hMw 0 (.int .i64 nm) #[.int .i64 nm, .int .i64 pe, .int .i64 pt] rfl) 1 (.int .i64 (ep + 1)) #[.int .i64 nm, .int .i64 (ep + 1), .int .i64 pt] rfl) 2 (.int .i64 0) #[.int .i64 nm, .int .i64 (ep + 1), .int .i64 0] rfl
            have hx3s := Blk.far (Blk.far (Blk.far hx3 (Nat.ne_of_lt hx3l) 0 (.int .i64 nm)) (Nat.ne_of_lt hx3l) 1 (.int .i64 (ep + 1))) (Nat.ne_of_lt hx3l) 2 (.int .i64 0)
            have hgs := ((hg.setCell (p := ⟨wr.heap.size, 0, none⟩) hgw (.int .i64 nm)).setCell (p := ⟨wr.heap.size, 1, none⟩) hgw (.int .i64 (ep + 1))).setCell (p := ⟨wr.heap.size, 2, none⟩) hgw (.int .i64 0)
            have hbs := ((hbaw.setCell (p := ⟨wr.heap.size, 0, none⟩) (Nat.le_refl _) (.int .i64 nm)).setCell (p := ⟨wr.heap.size, 1, none⟩) (Nat.le_refl _) (.int .i64 (ep + 1))).setCell (p := ⟨wr.heap.size, 2, none⟩) (Nat.le_refl _) (.int .i64 0)
            obtain ⟨v0, v1, v2⟩ := HV.out _ hbs
            obtain ⟨Wk, hW⟩ : ∃ X, ((Wj.setCell ⟨wr.heap.size, 0, none⟩ (.int .i64 nm)).setCell ⟨wr.heap.size, 1, none⟩ (.int .i64 (ep + 1))).setCell ⟨wr.heap.size, 2, none⟩ (.int .i64 0) = X := ⟨_, rfl⟩
            rewrite [hW] at hMs hx3s hgs v0 v1 v2
            rewrite [hW]
            clear hW hbs hMw hx1 hx3 hg m0 m1_ m2_ z2 f0 f1 f2 ye hbaw
            rewrite [HPD.out] at v0 v1 v2
            simp only at v0 v1 v2
            have m0 := Blk.cell hMs 0
            have m1_ := Blk.cell hMs 1
            have m2_ := Blk.cell hMs 2
            have z2 := Blk.cell hx3s 2
            simp only [List.getElem?_toArray, List.getElem?_cons_zero, List.getElem?_cons_succ] at m0 m1_ m2_ z2
            have eW : ∀ w_, (Op.equalIn 10000 48 (.agg #[.int .i64 nm, .int .i64 (ep + 1), .int .i64 0]) (.agg #[.int .i64 nm, .int .i64 (ep + 1), .int .i64 0])).run Try.prog w_ = .ok true w_ := fun w_ => by have h := eqPl (nm, ep + 1, 0) (nm, ep + 1, 0) w_; simpa using h
            have gW := guardPl
            have HGS := Lib.hid hgs
            clear hMs hx3s hgs
            go_quiet (fail)
            go_wp2_with fail
            go_roundw
            case rel => exact ⟨j + 1, by omega, by go_num, bdn HGS.out _⟩
            case measure => simp [intOf]; omega
          · have HPD := Lib.hid (HD2.out hij)
            have eij : ((j : Int) == (i : Int)) = false := by simp; omega
            have eijn : (j == i) = false := by simpa using hij
            clear HD1 HD2 hij
            obtain ⟨v0, v1, v2⟩ := HV.out _ hbaw
            rewrite [HPD.out] at v0 v1 v2
            simp only at v0 v1 v2
            go_upto_region 18 with fail
            have m0 := Blk.cell hMw 0
            have m1_ := Blk.cell hMw 1
            have m2_ := Blk.cell hMw 2
            have z2 := Blk.cell hx3 2
            simp only [List.getElem?_toArray, List.getElem?_cons_zero, List.getElem?_cons_succ] at m0 m1_ m2_ z2
            have eW : ∀ w_, (Op.equalIn 10000 48 (.agg #[.int .i64 po, .int .i64 pe, .int .i64 pt]) (.agg #[.int .i64 po, .int .i64 pe, .int .i64 pt])).run Try.prog w_ = .ok true w_ := fun w_ => by have h := eqPl (po, pe, pt) (po, pe, pt) w_; simpa using h
            have gW := guardPl
            have HGS := Lib.hid hg
            clear hMw hx1 hx3 hg hbaw
            go_quiet (fail)
            go_wp2_with fail
            go_roundw
            case rel => exact ⟨j + 1, by omega, by go_num, bdn HGS.out _⟩
            case measure => simp [intOf]; omega
        · have hje : j = m1 := by omega
          have hji : (m1 : Int) ≤ (j : Int) := by omega
          have HBF := Lib.hid (bch HB.out hbw.out)
          clear hje hj
          go_wp2_with fail
          go_ret
          exact ⟨rfl, HBF.out⟩
  · have ez : (tz != 0) = true := by simpa using hz
    have HE1 := Lib.hid (plan_busy HRC.out HIL.out HPL.out HMT.out hz)
    clear hz
    have a0 := Blk.cell X1.out 0
    have a1 := Blk.cell X1.out 1
    have a2 := Blk.cell X1.out 2
    simp only [List.getElem?_toArray, List.getElem?_cons_zero, List.getElem?_cons_succ] at a0 a1 a2
    go_wp2_with fail
    have q := (kL c (some ⟨b, off, none⟩) (some ⟨bp, offp, none⟩) n1 c1 m1 d1 (i : Int) nm W3 (ctArg I1.out HCW.out HSM.out S1.out.1 S1.out.2) hwi hwm).mono (fun e w' h => h.at HE1.out (lv := (c).level) rfl)
    ((with_reducible refine q.mono ?_); rintro e V4 ⟨A2, n2, c2, B2, m2, d2, rfl, h1, h2, ct, b⟩)
    clear q a0 a1 a2
    have I1_ := Lib.hid (I1.out.below b); clear I1
    have I1 := I1_; clear I1_
    have X1_ := Lib.hid (Blk.below X1.out b); clear X1
    have X1 := X1_; clear X1_
    have HB_ := Lib.hid (bch HB.out b); clear HB
    have HB := HB_; clear HB_
    clear b
    have I2 := Lib.hid ct
    have S2 : Hid (n2 ≤ c2 ∧ m2 ≤ d2) := ⟨h1, h2⟩
    clear h1 h2 ct
    go_upto_region 6 with fail
    have hba := ba9 V4 (ctB (c) A2 n2 c2 B2 m2 d2)
    have X2 := Lib.hid (Blk.new V4 (ctB (c) A2 n2 c2 B2 m2 d2))
    have I1_ := Lib.hid (I1.out.below hba); clear I1
    have I1 := I1_; clear I1_
    have X1_ := Lib.hid (Blk.below X1.out hba); clear X1
    have X1 := X1_; clear X1_
    have I2_ := Lib.hid (I2.out.below hba); clear I2
    have I2 := I2_; clear I2_
    have HB_ := Lib.hid (bch HB.out hba); clear HB
    have HB := HB_; clear HB_
    obtain ⟨W4, hW⟩ : ∃ X, V4.alloc (ctB (c) A2 n2 c2 B2 m2 d2) = X := ⟨_, rfl⟩
    rewrite [hW] at X2 HB I1 X1 I2
    rewrite [hW]
    clear hW hba
    generalize hg2 : V4.heap.size = g2 at *
    clear hg2
    have p0 := Blk.cell X1.out 0
    have p1 := Blk.cell X1.out 1
    have p2 := Blk.cell X1.out 2
    simp only [List.getElem?_toArray, List.getElem?_cons_zero, List.getElem?_cons_succ] at p0 p1 p2
    obtain ⟨y0, y1, y2⟩ := HPLC.out _ I1.out.2
    go_upto_region 7 with fail
    clear y0 y1 y2 p0 p1 p2
    have a0 := Blk.cell X2.out 0
    have a1 := Blk.cell X2.out 1
    have a2 := Blk.cell X2.out 2
    simp only [List.getElem?_toArray, List.getElem?_cons_zero, List.getElem?_cons_succ] at a0 a1 a2
    have b0 := Blk.cell X1.out 0
    have b1 := Blk.cell X1.out 1
    have b2 := Blk.cell X1.out 2
    simp only [List.getElem?_toArray, List.getElem?_cons_zero, List.getElem?_cons_succ] at b0 b1 b2
    go_wp2_with fail
    have q := by
      have q := refsamec_any c c A2 B2 (some ⟨b, off, none⟩) (some ⟨bp, offp, none⟩) n2 c2 m2 d2 n1 c1 m1 d1 W4 I2.out I1.out
      rewrite [show decide (c = c) = true from decide_eq_true rfl] at q
      exact q
    ((with_reducible refine q.mono ?_); rintro e V5 ⟨rfl, b⟩)
    clear q a0 a1 a2 b0 b1 b2
    have I1_ := Lib.hid (I1.out.below b); clear I1
    have I1 := I1_; clear I1_
    have X1_ := Lib.hid (Blk.below X1.out b); clear X1
    have X1 := X1_; clear X1_
    have I2_ := Lib.hid (I2.out.below b); clear I2
    have I2 := I2_; clear I2_
    have X2_ := Lib.hid (Blk.below X2.out b); clear X2
    have X2 := X2_; clear X2_
    have HB_ := Lib.hid (bch HB.out b); clear HB
    have HB := HB_; clear HB_
    clear b
    go_wp2_with fail
    go_ret
    exact ⟨rfl, HB.out⟩
end Go.Proofs.Ytndkmepdnekigaa
