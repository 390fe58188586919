import Derived.Test.YtndkmepdnekigaaCtAwake
import Derived.Test.YtndkmepdnekigaaCtIn
import Derived.Test.YtndkmepdnekigaaCtSame
import Derived.Test.YtndkmepdnekigaaCtBalM
import Derived.Test.YtndkmepdnekigaaCtLoadL
/-
  Balance tells a place of a member that has two more than another one, at least, and to that one; a plan of it brings the loads nearer. (The law 'ControlEven' over what is asked of the program.)
-/
namespace Go.Proofs.Ytndkmepdnekigaa
open Go.RowKit
set_option linter.unusedVariables false
set_option linter.unusedSimpArgs false

set_option maxRecDepth 100000 in
set_option maxHeartbeats 40000000 in
theorem controlEven_core (kR : RightC9) (kN : NewC9) (kJ : JoinC9) (kP : ReportC9) (kF : FinalC9) (kL : PlanC9) (kM : CommitC9) (kC : CancelC9) (kB : BalC9) (x y : Int) (A : Option Addr) (n cap : Nat) (f : Nat → Nat → Int) (w : World) (wx : (Lit.int .i64 x).wf = true) (wy : (Lit.int .i64 y).wf = true) (wr0 : IsRaw w A n 3 f) :
    Calls Try.prog 9 #[.int .i64 x, .int .i64 y, .slice A n cap] w fun e w' => e = .returned (.bool true) ∧ Below w.heap.size w w' := by
  have qa := awake18_any kR kN kJ kP kF kL kM kC kB w
  go_enter Try.func9, Try.ntmps9
  go_wp2_with fail
  ((with_reducible refine qa.mono ?_); rintro e V0 ⟨rfl, b⟩)
  have HB := Lib.hid b
  have qc := control_any x y A n cap f V0 wx wy (wr0.below b)
  have HOK : Hid (CtOk (ctlC x y f n)) := ctlC_ok x y f n
  have HEP : Hid (∀ p ∈ (ctlC x y f n).pl, p.2.1 ≤ 31) := ctlC_ep x y f n
  generalize ctlC x y f n = c at *
  clear b qa wr0
  go_wp2_with fail
  ((with_reducible refine qc.mono ?_); rintro e V1 ⟨A1, n1, c1, B1, m1, d1, rfl, hr1, hp1, hne1, b⟩)
  clear qc
  obtain ⟨_, _, hv1, hk1, hi1⟩ := hr1.parts
  obtain ⟨rfl, hl1, rfl⟩ := slice_eqG hv1
  obtain ⟨_, _, hv2, hk2, hi2⟩ := hp1.parts
  obtain ⟨rfl, hl2, rfl⟩ := slice_eqG hv2
  rewrite [← hl1] at hi1
  rewrite [← hl2] at hi2
  have I1 : Hid (IsCt V1 c A1 n1 B1 m1) := ⟨hi1, hi2⟩
  have S1 : Hid (n1 ≤ c1 ∧ m1 ≤ d1) := ⟨by omega, by omega⟩
  have HN1 : Hid (n1 = c.mem.length) := hl1
  have HM1 : Hid (m1 = c.pl.length) := hl2
  have hn18 : 1 ≤ n1 ∧ n1 ≤ 8 := by have := HOK.out.1.2.1; omega
  have hm18 : 1 ≤ m1 ∧ m1 ≤ 8 := by have := HOK.out.1.2.2.1; omega
  have HR1 := Lib.hid hr1; have HP1 := Lib.hid hp1; have HNE1 := Lib.hid hne1
  clear hv1 hv2 hk1 hk2 hi1 hi2 hl1 hl2 hr1 hp1 hne1
  have HBx := Lib.hid (bch HB.out b); clear HB
  have HB := HBx; clear HBx b
  go_upto_region 3 with fail
  have hba := ba9 V1 (ctB c A1 n1 c1 B1 m1 d1)
  have X1 := Lib.hid (Blk.new V1 (ctB c A1 n1 c1 B1 m1 d1))
  have I1_ := Lib.hid (I1.out.below hba); clear I1
  have I1 := I1_; clear I1_
  have HR1_ := Lib.hid (HR1.out.below hba); clear HR1
  have HR1 := HR1_; clear HR1_
  have HP1_ := Lib.hid (HP1.out.below hba); clear HP1
  have HP1 := HP1_; clear HP1_
  have HB_ := Lib.hid (bch HB.out hba); clear HB
  have HB := HB_; clear HB_
  obtain ⟨W1, hW⟩ : ∃ X, V1.alloc (ctB c A1 n1 c1 B1 m1 d1) = X := ⟨_, rfl⟩
  rewrite [hW] at X1 HB I1 HR1 HP1
  rewrite [hW]
  clear hW hba
  generalize hg1 : V1.heap.size = g1 at *
  clear hg1
  have HRC := Lib.hid HOK.out.1
  have HCW := Lib.hid HOK.out.2.1
  have HSM : Hid (c.mem.length ≤ 20 ∧ c.pl.length ≤ 20) := by have h := HOK.out.1.small; exact ⟨by omega, by omega⟩
  clear HNE1 HR1 HP1
  have hev := even_math HRC.out HEP.out
  obtain ⟨s, tt, is, hbal⟩ : ∃ s tt is, balC c = (s, tt, is) := ⟨_, _, _, rfl⟩
  rewrite [hbal] at hev
  have HBL := Lib.hid hbal; clear hbal
  have a0 := Blk.cell X1.out 0
  have a1 := Blk.cell X1.out 1
  have a2 := Blk.cell X1.out 2
  simp only [List.getElem?_toArray, List.getElem?_cons_zero, List.getElem?_cons_succ] at a0 a1 a2
  go_wp2_with fail
  have q := (by
    have q := kB c A1 B1 n1 c1 m1 d1 W1 (ctArg I1.out HCW.out HSM.out S1.out.1 S1.out.2)
    rewrite [HBL.out] at q
    exact q)
  ((with_reducible refine q.mono ?_); rintro e V2 ⟨rfl, b⟩)
  clear q a0 a1 a2
  have I1_ := Lib.hid (I1.out.below b); clear I1
  have I1 := I1_; clear I1_
  have X1_ := Lib.hid (Blk.below X1.out b); clear X1
  have X1 := X1_; clear X1_
  have HB_ := Lib.hid (bch HB.out b); clear HB
  have HB := HB_; clear HB_
  clear b
  cases is with
  | false =>
    obtain ⟨rfl, rfl⟩ := hev.1 rfl
    clear hev
    go_wp2_with fail
    go_ret
    exact ⟨rfl, HB.out⟩
  | true =>
    obtain ⟨i, ow, ep, rfl, hil, hpl, hne, hld, hmt, e1, e2, hl1, hl2⟩ := hev.2 rfl
    clear hev
    obtain ⟨ca, hca⟩ : ∃ ca : CtR, ca = setPl c (i : Int) (ow, ep, tt) := ⟨_, rfl⟩
    rewrite [← hca] at e1 e2 hl1
    have HL2 : Hid (loadC ca.pl tt = loadC c.pl tt + 1) := by have h := hl2; rewrite [← hca] at h; exact h
    have HL1 := Lib.hid hl1
    have HE1 := Lib.hid e1; have HEC := Lib.hid e2; have HIL := Lib.hid hil; have HPL := Lib.hid hpl; have HLD := Lib.hid hld
    have hwt : (Lit.int .i64 tt).wf = true := by obtain ⟨m, hm, e⟩ := hmt; have h := HCW.out.2.1 m hm; rewrite [e] at h; exact h.1
    have hwo : (Lit.int .i64 ow).wf = true := by have h := HCW.out.at HIL.out; rewrite [HPL.out] at h; exact h.1
    have HCA : Hid (CtW ca ∧ RightC ca) := by
      have h := CtW.plan (s := (i : Int)) (t := tt) HCW.out hwt
      have h2 := plan_right (s := (i : Int)) (t := tt) HRC.out
      rewrite [e1] at h h2
      exact ⟨h, h2⟩
    have HCS : Hid (ca.mem.length ≤ 20 ∧ ca.pl.length ≤ 20) := by have h := HCA.out.2.small; exact ⟨by omega, by omega⟩
    have him : i < m1 := by have := HM1.out; have := HIL.out; omega
    have hwi : (Lit.int .i64 (i : Int)).wf = true := wf_i (by omega) (by omega)
    have hpk : pickN (i : Int) (m1 : Int) = i := by rw [pickN_of (by omega) (by omega)]; rfl
    have HPK := Lib.hid hpk
    have hne2 : (ow != tt) = true := by simpa using hne
    clear e1 e2 hl1 hl2 hca hil hpl hld hmt hne hpk
    obtain ⟨tz, htz⟩ : ∃ tz : Int, tz = 0 := ⟨_, rfl⟩
    have HTZ := Lib.hid htz
    have hpl9 : atP9 c.pl i = (ow, ep, tz) := by rw [htz]; exact HPL.out
    clear HPL htz
    have HPL := Lib.hid hpl9; clear hpl9
    go_upto_region 6 with fail
    have qp : Hid (∀ W, Calls Try.prog 14 #[.int .i64 (i : Int), .int .i64 (m1 : Int)] W fun e w' => e = .returned (.int .i64 (i : Nat)) ∧ W = w') := fun W => by
      have q := pick_nat (i : Int) (m1 : Int) (by omega) (by omega) hwi W
      rewrite [HPK.out] at q
      exact q
    obtain ⟨b, off, hA, hbb, y0, y1, y2⟩ := is3_at I1.out.2 (atP9_get HIL.out)
    rewrite [HPL.out] at y0 y1 y2
    subst hA
    have HBB := Lib.hid hbb; clear hbb
    simp only at y0 y1 y2
    have HL : Hid (Blk (V2.alloc (.cells #[.int .i64 ow, .int .i64 ep, .int .i64 tz] 48)) V2.heap.size (.cells #[.int .i64 ow, .int .i64 ep, .int .i64 tz] 48) ∧ Below V2.heap.size V2 (V2.alloc (.cells #[.int .i64 ow, .int .i64 ep, .int .i64 tz] 48))) := ⟨Blk.new _ _, ba9 _ _⟩
    go_cut [12] (fun s wx => s = .pointer (some ⟨V2.heap.size, 0, none⟩) ∧ Blk wx V2.heap.size (.cells #[.int .i64 ow, .int .i64 ep, .int .i64 tz] 48) ∧ Below V2.heap.size V2 wx)
    case first =>
      refine wp_region_noPanic ?_
      refine wp_region_held_drew (S := (fun W_ => Blk W_ g1 (ctB c A1 n1 c1 (some ⟨b, off, none⟩) m1 d1) ∧ Below V2.heap.size V2 W_)) (by kernel_rfl) (⟨X1.out.drew, (Below.refl _ _).drew⟩) (fun hHeld => ?_)
      refine wpAnyH_take (i := 0) (v := ?_) rfl (by kernel_rfl) (by kernel_rfl) (by kernel_rfl) (fun _ _ _ h => h) (Or.inl ⟨by rfl, ?_⟩) (by assumption) ?_
      rotate_left
      · (intro w hSw; (try dsimp only at hSw); go_simp; (try with_reducible rfl))
      simp only [Act.put, List.getElem_toArray, List.getElem_cons_zero, List.setIfInBounds_toArray, List.set_cons_zero, List.set_cons_succ]
      refine wpAnyH_take (i := 1) (v := ?_) rfl (by kernel_rfl) (by kernel_rfl) (by kernel_rfl) (fun _ _ _ h => h) (Or.inl ⟨by rfl, ?_⟩) (by assumption) ?_
      rotate_left
      · (intro w hSw; (try dsimp only at hSw); (have v0 := Blk.cell hSw.1 2); simp only [List.getElem?_toArray, List.getElem?_cons_zero, List.getElem?_cons_succ] at v0; go_simp; (try with_reducible rfl))
      simp only [Act.put, List.getElem_toArray, List.getElem_cons_zero, List.getElem_cons_succ, List.setIfInBounds_toArray, List.set_cons_zero, List.set_cons_succ]
      refine wpAnyH_take (i := 2) (v := ?_) rfl (by kernel_rfl) (by kernel_rfl) (by kernel_rfl) (fun _ _ _ h => h) (Or.inl ⟨by rfl, ?_⟩) (by assumption) ?_
      rotate_left
      · (intro w hSw; (try dsimp only at hSw); go_simp; (try with_reducible rfl))
      simp only [Act.put, List.getElem_toArray, List.getElem_cons_zero, List.getElem_cons_succ, List.setIfInBounds_toArray, List.set_cons_zero, List.set_cons_succ]
      refine wpAnyH_take (i := 3) (v := ?_) rfl (by kernel_rfl) (by kernel_rfl) (by kernel_rfl) (fun _ _ _ h => h) (Or.inl ⟨by rfl, ?_⟩) (by assumption) ?_
      rotate_left
      · (intro w hSw; (try dsimp only at hSw); go_simp; (try with_reducible rfl))
      simp only [Act.put, List.getElem_toArray, List.getElem_cons_zero, List.getElem_cons_succ, List.setIfInBounds_toArray, List.set_cons_zero, List.set_cons_succ]
      refine wpAnyH_take (i := 4) (v := ?_) rfl (by kernel_rfl) (by kernel_rfl) (by kernel_rfl) (fun _ _ _ h => h) (Or.inl ⟨by rfl, ?_⟩) (by assumption) ?_
      rotate_left
      · (intro w hSw; (try dsimp only at hSw); (have v0 := Blk.cell hSw.1 2); simp only [List.getElem?_toArray, List.getElem?_cons_zero, List.getElem?_cons_succ] at v0; go_simp; (try with_reducible rfl))
      simp only [Act.put, List.getElem_toArray, List.getElem_cons_zero, List.getElem_cons_succ, List.setIfInBounds_toArray, List.set_cons_zero, List.set_cons_succ]
      refine wpAnyH_take (i := 5) (v := ?_) rfl (by kernel_rfl) (by kernel_rfl) (by kernel_rfl) (fun _ _ _ h => h) (Or.inl ⟨by rfl, ?_⟩) (by assumption) ?_
      rotate_left
      · (intro w hSw; (try dsimp only at hSw); go_simp; (try with_reducible rfl))
      simp only [Act.put, List.getElem_toArray, List.getElem_cons_zero, List.getElem_cons_succ, List.setIfInBounds_toArray, List.set_cons_zero, List.set_cons_succ]
      refine wpAnyH_ready (rs := [6, 9]) (by kernel_rfl) (by simp) ?_
      refine AllReadyH.cons rfl (fun K hK => ?_) ?_
      · rw [if_pos (by rfl)]
        go_simp
        ((with_reducible refine (qp.out _).mono ?_); rintro e Wp ⟨rfl, rfl⟩)
        refine hK.out _ _ (hHeld) (fun hHeld2 => ?_)
        clear hK K hHeld
        have hHeld := hHeld2; clear hHeld2
        refine wpAnyH_take (i := 7) (v := ?_) rfl (by kernel_rfl) (by kernel_rfl) (by kernel_rfl) (fun _ _ _ h => h) (Or.inl ⟨by rfl, ?_⟩) (by assumption) ?_
        rotate_left
        · (intro w hSw; (try dsimp only at hSw); go_simp; (try with_reducible rfl))
        simp only [Act.put, List.getElem_toArray, List.getElem_cons_zero, List.getElem_cons_succ, List.setIfInBounds_toArray, List.set_cons_zero, List.set_cons_succ]
        refine wpAnyH_take (i := 8) (v := ?_) rfl (by kernel_rfl) (by kernel_rfl) (by kernel_rfl) (fun _ _ _ h => h) (Or.inl ⟨by rfl, ?_⟩) (by assumption) ?_
        rotate_left
        · (intro w hSw; (try dsimp only at hSw); (have v0 := (hSw.2.cell (p := ⟨b, off + i * 3, none⟩) HBB.out).trans y0); (have v1 := (hSw.2.cell (p := ⟨b, off + i * 3 + 1, none⟩) HBB.out).trans y1); (have v2 := (hSw.2.cell (p := ⟨b, off + i * 3 + 2, none⟩) HBB.out).trans y2); go_simp; (try with_reducible rfl))
        simp only [Act.put, List.getElem_toArray, List.getElem_cons_zero, List.getElem_cons_succ, List.setIfInBounds_toArray, List.set_cons_zero, List.set_cons_succ]
        refine wpAnyH_ready (rs := [9]) (by kernel_rfl) (by simp) ?_
        refine AllReadyH.cons rfl (fun K hK => ?_) AllReadyH.nil
        rw [if_pos (by rfl)]
        go_simp
        refine hK.out _ _ (⟨Blk.below hHeld.1 (ba9 _ _), hHeld.2.alloc hHeld.2.size _⟩) (fun hHeld2 => ?_)
        clear hK K hHeld
        have hHeld := hHeld2; clear hHeld2
        refine wpAnyH_ready (rs := [10]) (by kernel_rfl) (by simp) ?_
        refine AllReadyH.cons rfl (fun K hK => ?_) AllReadyH.nil
        rw [if_pos (by rfl)]
        go_simp
        refine hK.out _ _ (⟨(Blk.below X1.out HL.out.2).drew, HL.out.2.drew⟩) (fun hHeld2 => ?_)
        clear hK K hHeld
        have hHeld := hHeld2; clear hHeld2
        refine wpAnyH_done (by kernel_rfl) ?_ _
        refine NoPanic.normal ?_
        go_wp2_with fail
        go_meet
        exact ⟨rfl, HL.out.1.drew, HL.out.2.drew⟩
      refine AllReadyH.cons rfl (fun K hK => ?_) ?_
      · rw [if_pos (by rfl)]
        go_simp
        refine hK.out _ _ (⟨Blk.below hHeld.1 (ba9 _ _), hHeld.2.alloc hHeld.2.size _⟩) (fun hHeld2 => ?_)
        clear hK K hHeld
        have hHeld := hHeld2; clear hHeld2
        refine wpAnyH_ready (rs := [6]) (by kernel_rfl) (by simp) ?_
        refine AllReadyH.cons rfl (fun K hK => ?_) AllReadyH.nil
        rw [if_pos (by rfl)]
        go_simp
        ((with_reducible refine (qp.out _).mono ?_); rintro e Wp ⟨rfl, rfl⟩)
        refine hK.out _ _ (hHeld) (fun hHeld2 => ?_)
        clear hK K hHeld
        have hHeld := hHeld2; clear hHeld2
        refine wpAnyH_take (i := 7) (v := ?_) rfl (by kernel_rfl) (by kernel_rfl) (by kernel_rfl) (fun _ _ _ h => h) (Or.inl ⟨by rfl, ?_⟩) (by assumption) ?_
        rotate_left
        · (intro w hSw; (try dsimp only at hSw); go_simp; (try with_reducible rfl))
        simp only [Act.put, List.getElem_toArray, List.getElem_cons_zero, List.getElem_cons_succ, List.setIfInBounds_toArray, List.set_cons_zero, List.set_cons_succ]
        refine wpAnyH_take (i := 8) (v := ?_) rfl (by kernel_rfl) (by kernel_rfl) (by kernel_rfl) (fun _ _ _ h => h) (Or.inl ⟨by rfl, ?_⟩) (by assumption) ?_
        rotate_left
        · (intro w hSw; (try dsimp only at hSw); (have v0 := (hSw.2.cell (p := ⟨b, off + i * 3, none⟩) HBB.out).trans y0); (have v1 := (hSw.2.cell (p := ⟨b, off + i * 3 + 1, none⟩) HBB.out).trans y1); (have v2 := (hSw.2.cell (p := ⟨b, off + i * 3 + 2, none⟩) HBB.out).trans y2); go_simp; (try with_reducible rfl))
        simp only [Act.put, List.getElem_toArray, List.getElem_cons_zero, List.getElem_cons_succ, List.setIfInBounds_toArray, List.set_cons_zero, List.set_cons_succ]
        refine wpAnyH_ready (rs := [10]) (by kernel_rfl) (by simp) ?_
        refine AllReadyH.cons rfl (fun K hK => ?_) AllReadyH.nil
        rw [if_pos (by rfl)]
        go_simp
        refine hK.out _ _ (⟨(Blk.below X1.out HL.out.2).drew, HL.out.2.drew⟩) (fun hHeld2 => ?_)
        clear hK K hHeld
        have hHeld := hHeld2; clear hHeld2
        refine wpAnyH_done (by kernel_rfl) ?_ _
        refine NoPanic.normal ?_
        go_wp2_with fail
        go_meet
        exact ⟨rfl, HL.out.1.drew, HL.out.2.drew⟩
      exact AllReadyH.nil
    case rest =>
      obtain ⟨rfl, hM, b_⟩ := hcut
      have XP := Lib.hid hM; clear hM
      have I1_ := Lib.hid (I1.out.below b_); clear I1
      have I1 := I1_; clear I1_
      have X1_ := Lib.hid (Blk.below X1.out b_); clear X1
      have X1 := X1_; clear X1_
      have HB_ := Lib.hid (bch HB.out b_); clear HB
      have HB := HB_; clear HB_
      clear b_ HL y0 y1 y2 qp
      obtain ⟨W3, hW⟩ : ∃ X, X = wc := ⟨_, rfl⟩
      rewrite [← hW] at HB I1 X1 XP
      rewrite [← hW]
      clear hW
      generalize hgm : V2.heap.size = gp at *
      clear hgm
      have a0 := Blk.cell X1.out 0
      have a1 := Blk.cell X1.out 1
      have a2 := Blk.cell X1.out 2
      simp only [List.getElem?_toArray, List.getElem?_cons_zero, List.getElem?_cons_succ] at a0 a1 a2
      go_wp2_with fail
      have q := (kL c A1 (some ⟨b, off, none⟩) n1 c1 m1 d1 (i : Int) tt W3 (ctArg I1.out HCW.out HSM.out S1.out.1 S1.out.2) hwi hwt).mono (fun e w' h => h.at HE1.out (lv := (ca).level) rfl)
      ((with_reducible refine q.mono ?_); rintro e V4 ⟨A2, n2, c2, B2, m2, d2, rfl, h1, h2, ct, b⟩)
      clear q a0 a1 a2
      have I1_ := Lib.hid (I1.out.below b); clear I1
      have I1 := I1_; clear I1_
      have X1_ := Lib.hid (Blk.below X1.out b); clear X1
      have X1 := X1_; clear X1_
      have XP_ := Lib.hid (Blk.below XP.out b); clear XP
      have XP := XP_; clear XP_
      have HB_ := Lib.hid (bch HB.out b); clear HB
      have HB := HB_; clear HB_
      clear b
      have I2 := Lib.hid ct
      have S2 : Hid (n2 ≤ c2 ∧ m2 ≤ d2) := ⟨h1, h2⟩
      clear h1 h2 ct
      go_upto_region 8 with fail
      have hba := ba9 V4 (ctB (ca) A2 n2 c2 B2 m2 d2)
      have X2 := Lib.hid (Blk.new V4 (ctB (ca) A2 n2 c2 B2 m2 d2))
      have I1_ := Lib.hid (I1.out.below hba); clear I1
      have I1 := I1_; clear I1_
      have X1_ := Lib.hid (Blk.below X1.out hba); clear X1
      have X1 := X1_; clear X1_
      have XP_ := Lib.hid (Blk.below XP.out hba); clear XP
      have XP := XP_; clear XP_
      have I2_ := Lib.hid (I2.out.below hba); clear I2
      have I2 := I2_; clear I2_
      have HB_ := Lib.hid (bch HB.out hba); clear HB
      have HB := HB_; clear HB_
      obtain ⟨W4, hW⟩ : ∃ X, V4.alloc (ctB (ca) A2 n2 c2 B2 m2 d2) = X := ⟨_, rfl⟩
      rewrite [hW] at X2 HB I1 X1 XP I2
      rewrite [hW]
      clear hW hba
      generalize hg2 : V4.heap.size = g2 at *
      clear hg2
      have a0 := Blk.cell X2.out 0
      have a1 := Blk.cell X2.out 1
      have a2 := Blk.cell X2.out 2
      simp only [List.getElem?_toArray, List.getElem?_cons_zero, List.getElem?_cons_succ] at a0 a1 a2
      go_wp2_with fail
      have q := (kC ca A2 B2 n2 c2 m2 d2 (i : Int) W4 (ctArg I2.out HCA.out.1 HCS.out S2.out.1 S2.out.2) hwi).mono (fun e w' h => h.at HEC.out (lv := (c).level) rfl)
      ((with_reducible refine q.mono ?_); rintro e V5 ⟨A3, n3, c3, B3, m3, d3, rfl, h1, h2, ct, b⟩)
      clear q a0 a1 a2
      have I1_ := Lib.hid (I1.out.below b); clear I1
      have I1 := I1_; clear I1_
      have X1_ := Lib.hid (Blk.below X1.out b); clear X1
      have X1 := X1_; clear X1_
      have XP_ := Lib.hid (Blk.below XP.out b); clear XP
      have XP := XP_; clear XP_
      have I2_ := Lib.hid (I2.out.below b); clear I2
      have I2 := I2_; clear I2_
      have X2_ := Lib.hid (Blk.below X2.out b); clear X2
      have X2 := X2_; clear X2_
      have HB_ := Lib.hid (bch HB.out b); clear HB
      have HB := HB_; clear HB_
      clear b
      have I3 := Lib.hid ct
      have S3 : Hid (n3 ≤ c3 ∧ m3 ≤ d3) := ⟨h1, h2⟩
      clear h1 h2 ct
      go_upto_region 9 with fail
      have hba := ba9 V5 (ctB (c) A3 n3 c3 B3 m3 d3)
      have X3 := Lib.hid (Blk.new V5 (ctB (c) A3 n3 c3 B3 m3 d3))
      have I1_ := Lib.hid (I1.out.below hba); clear I1
      have I1 := I1_; clear I1_
      have X1_ := Lib.hid (Blk.below X1.out hba); clear X1
      have X1 := X1_; clear X1_
      have XP_ := Lib.hid (Blk.below XP.out hba); clear XP
      have XP := XP_; clear XP_
      have I2_ := Lib.hid (I2.out.below hba); clear I2
      have I2 := I2_; clear I2_
      have X2_ := Lib.hid (Blk.below X2.out hba); clear X2
      have X2 := X2_; clear X2_
      have I3_ := Lib.hid (I3.out.below hba); clear I3
      have I3 := I3_; clear I3_
      have HB_ := Lib.hid (bch HB.out hba); clear HB
      have HB := HB_; clear HB_
      obtain ⟨W5, hW⟩ : ∃ X, V5.alloc (ctB (c) A3 n3 c3 B3 m3 d3) = X := ⟨_, rfl⟩
      rewrite [hW] at X3 HB I1 X1 XP I2 X2 I3
      rewrite [hW]
      clear hW hba
      generalize hg3 : V5.heap.size = g3 at *
      clear hg3
      have la8 : loadC c.pl ow ≤ 8 := by have h : loadC c.pl ow ≤ c.pl.length := List.countP_le_length; have := HRC.out.small; omega
      have HHA : Hid (loadC ca.pl ow + 1 = loadC c.pl ow) := HL1.out
      have HMS : Hid (c.pl.length ≤ 17592186044416 ∧ ca.pl.length ≤ 17592186044416) := by have := HSM.out; have := HCS.out; exact ⟨by omega, by omega⟩
      obtain ⟨la, hla⟩ : ∃ la, loadC c.pl ow = la := ⟨_, rfl⟩
      obtain ⟨lb, hlb⟩ : ∃ lb, loadC c.pl tt = lb := ⟨_, rfl⟩
      obtain ⟨xa, hxa⟩ : ∃ xa, loadC ca.pl ow = xa := ⟨_, rfl⟩
      obtain ⟨xb, hxb⟩ : ∃ xb, loadC ca.pl tt = xb := ⟨_, rfl⟩
      have hld := HLD.out
      have hl1 := HHA.out
      have hl2 := HL2.out
      rewrite [hla, hlb] at hld
      rewrite [hla, hxa] at hl1
      rewrite [hlb, hxb] at hl2
      rewrite [hla] at la8
      have QA : Hid (∀ W_, Below W5.heap.size W5 W_ → Calls Try.prog 32 #[ctV c A1 n1 c1 (some ⟨b, off, none⟩) m1 d1, .int .i64 ow] W_ fun e w' => e = .returned (.int .i64 (la : Nat)) ∧ Below W_.heap.size W_ w') := fun W_ hb_ => by
        have q := lawload_any c A1 (some ⟨b, off, none⟩) n1 c1 m1 d1 ow W_ (I1.out.below hb_).2 (by have := I1.out.2.1; have := HMS.out.1; omega)
        rewrite [hla] at q; exact q
      have QB : Hid (∀ W_, Below W5.heap.size W5 W_ → Calls Try.prog 32 #[ctV c A1 n1 c1 (some ⟨b, off, none⟩) m1 d1, .int .i64 tt] W_ fun e w' => e = .returned (.int .i64 (lb : Nat)) ∧ Below W_.heap.size W_ w') := fun W_ hb_ => by
        have q := lawload_any c A1 (some ⟨b, off, none⟩) n1 c1 m1 d1 tt W_ (I1.out.below hb_).2 (by have := I1.out.2.1; have := HMS.out.1; omega)
        rewrite [hlb] at q; exact q
      have QC : Hid (∀ W_, Below W5.heap.size W5 W_ → Calls Try.prog 32 #[ctV ca A2 n2 c2 B2 m2 d2, .int .i64 ow] W_ fun e w' => e = .returned (.int .i64 (xa : Nat)) ∧ Below W_.heap.size W_ w') := fun W_ hb_ => by
        have q := lawload_any ca A2 B2 n2 c2 m2 d2 ow W_ (I2.out.below hb_).2 (by have := I2.out.2.1; have := HMS.out.2; omega)
        rewrite [hxa] at q; exact q
      have QD : Hid (∀ W_, Below W5.heap.size W5 W_ → Calls Try.prog 32 #[ctV ca A2 n2 c2 B2 m2 d2, .int .i64 tt] W_ fun e w' => e = .returned (.int .i64 (xb : Nat)) ∧ Below W_.heap.size W_ w') := fun W_ hb_ => by
        have q := lawload_any ca A2 B2 n2 c2 m2 d2 tt W_ (I2.out.below hb_).2 (by have := I2.out.2.1; have := HMS.out.2; omega)
        rewrite [hxb] at q; exact q
      have QS : Hid (∀ W_, Below W5.heap.size W5 W_ → Calls Try.prog 11 #[ctV c A3 n3 c3 B3 m3 d3, ctV c A1 n1 c1 (some ⟨b, off, none⟩) m1 d1] W_ fun e w' => e = .returned (.bool true) ∧ Below W_.heap.size W_ w') := fun W_ hb_ => by
        have q := refsamec_any c c A3 B3 A1 (some ⟨b, off, none⟩) n3 c3 m3 d3 n1 c1 m1 d1 W_ (I3.out.below hb_) (I1.out.below hb_)
        rewrite [show decide (c = c) = true from decide_eq_true rfl] at q; exact q
      clear hla hlb hxa hxb
      have hw1 : IntKind.i64.wrap ((la : Int) - (lb : Int)) = (la : Int) - (lb : Int) := IntWalk.i64_in _ (by omega)
      have hw2 : IntKind.i64.wrap ((la : Int) - 1) = (la : Int) - 1 := IntWalk.i64_in _ (by omega)
      have hw3 : IntKind.i64.wrap ((lb : Int) + 1) = (lb : Int) + 1 := IntWalk.i64_in _ (by omega)
      have d1 : decide ((2 : Int) ≤ (la : Int) - (lb : Int)) = true := decide_eq_true (by omega)
      have d2 : ((xa : Int) == (la : Int) - 1) = true := by simp; omega
      have d3 : ((xb : Int) == (lb : Int) + 1) = true := by simp; omega
      have d4 : decide ((0 : Int) ≤ (i : Int)) = true := decide_eq_true (by omega)
      have d5 : decide ((i : Int) < (m1 : Int)) = true := decide_eq_true (by omega)
      have d6 : decide (i < m1) = true := decide_eq_true him
      obtain rfl : tz = 0 := HTZ.out
      clear hld hl1 hl2 la8
      simp only [List.append_eq, List.cons_append, List.nil_append]
      refine wp_region_noPanic ?_
      refine wp_region_held_drew (S := (fun W_ => Below W5.heap.size W5 W_)) (by kernel_rfl) ((Below.refl _ _).drew) (fun hHeld => ?_)
      refine wpAnyH_take (i := 0) (v := ?_) rfl (by kernel_rfl) (by kernel_rfl) (by kernel_rfl) (fun _ _ _ h => h) (Or.inl ⟨by rfl, ?_⟩) (by assumption) ?_
      rotate_left
      · (intro w hSw; (try dsimp only at hSw); go_simp; (try with_reducible rfl))
      simp only [Act.put, List.getElem_toArray, List.getElem_cons_zero, List.setIfInBounds_toArray, List.set_cons_zero, List.set_cons_succ]
      refine wpAnyH_take (i := 1) (v := ?_) rfl (by kernel_rfl) (by kernel_rfl) (by kernel_rfl) (fun _ _ _ h => h) (Or.inl ⟨by rfl, ?_⟩) (by assumption) ?_
      rotate_left
      · (intro w hSw; (try dsimp only at hSw); go_simp; (try with_reducible rfl))
      simp only [Act.put, List.getElem_toArray, List.getElem_cons_zero, List.getElem_cons_succ, List.setIfInBounds_toArray, List.set_cons_zero, List.set_cons_succ]
      refine wpAnyH_take (i := 2) (v := ?_) rfl (by kernel_rfl) (by kernel_rfl) (by kernel_rfl) (fun _ _ _ h => h) (Or.inl ⟨by rfl, ?_⟩) (by assumption) ?_
      rotate_left
      · (intro w hSw; (try dsimp only at hSw); go_simp; (try with_reducible rfl))
      simp only [Act.put, List.getElem_toArray, List.getElem_cons_zero, List.getElem_cons_succ, List.setIfInBounds_toArray, List.set_cons_zero, List.set_cons_succ]
      refine wpAnyH_take (i := 3) (v := ?_) rfl (by kernel_rfl) (by kernel_rfl) (by kernel_rfl) (fun _ _ _ h => h) (Or.inl ⟨by rfl, ?_⟩) (by assumption) ?_
      rotate_left
      · (intro w hSw; (try dsimp only at hSw); go_simp; (try with_reducible rfl))
      simp only [Act.put, List.getElem_toArray, List.getElem_cons_zero, List.getElem_cons_succ, List.setIfInBounds_toArray, List.set_cons_zero, List.set_cons_succ]
      refine wpAnyH_take (i := 4) (v := ?_) rfl (by kernel_rfl) (by kernel_rfl) (by kernel_rfl) (fun _ _ _ h => h) (Or.inl ⟨by rfl, ?_⟩) (by assumption) ?_
      rotate_left
      · (intro w hSw; (try dsimp only at hSw); go_simp; (try with_reducible rfl))
      simp only [Act.put, List.getElem_toArray, List.getElem_cons_zero, List.getElem_cons_succ, List.setIfInBounds_toArray, List.set_cons_zero, List.set_cons_succ]
      refine wpAnyH_take (i := 5) (v := ?_) rfl (by kernel_rfl) (by kernel_rfl) (by kernel_rfl) (fun _ _ _ h => h) (Or.inl ⟨by rfl, ?_⟩) (by assumption) ?_
      rotate_left
      · (intro w hSw; (try dsimp only at hSw); go_simp; (try with_reducible rfl))
      simp only [Act.put, List.getElem_toArray, List.getElem_cons_zero, List.getElem_cons_succ, List.setIfInBounds_toArray, List.set_cons_zero, List.set_cons_succ]
      refine wpAnyH_take (i := 6) (v := ?_) rfl (by kernel_rfl) (by kernel_rfl) (by kernel_rfl) (fun _ _ _ h => h) (Or.inl ⟨by rfl, ?_⟩) (by assumption) ?_
      rotate_left
      · (intro w hSw; (try dsimp only at hSw); go_simp; (try with_reducible rfl))
      simp only [Act.put, List.getElem_toArray, List.getElem_cons_zero, List.getElem_cons_succ, List.setIfInBounds_toArray, List.set_cons_zero, List.set_cons_succ]
      refine wpAnyH_take (i := 7) (v := ?_) rfl (by kernel_rfl) (by kernel_rfl) (by kernel_rfl) (fun _ _ _ h => h) (Or.inl ⟨by rfl, ?_⟩) (by assumption) ?_
      rotate_left
      · (intro w hSw; (try dsimp only at hSw); go_simp; (try with_reducible rfl))
      simp only [Act.put, List.getElem_toArray, List.getElem_cons_zero, List.getElem_cons_succ, List.setIfInBounds_toArray, List.set_cons_zero, List.set_cons_succ]
      refine wpAnyH_take (i := 8) (v := ?_) rfl (by kernel_rfl) (by kernel_rfl) (by kernel_rfl) (fun _ _ _ h => h) (Or.inl ⟨by rfl, ?_⟩) (by assumption) ?_
      rotate_left
      · (intro w hSw; (try dsimp only at hSw); (have v0 := Blk.cell (Blk.below X1.out hSw) 0); (have v1 := Blk.cell (Blk.below X1.out hSw) 1); (have v2 := Blk.cell (Blk.below X1.out hSw) 2); simp only [List.getElem?_toArray, List.getElem?_cons_zero, List.getElem?_cons_succ] at v0 v1 v2; go_simp; (try with_reducible rfl))
      simp only [Act.put, List.getElem_toArray, List.getElem_cons_zero, List.getElem_cons_succ, List.setIfInBounds_toArray, List.set_cons_zero, List.set_cons_succ]
      refine wpAnyH_take (i := 9) (v := ?_) rfl (by kernel_rfl) (by kernel_rfl) (by kernel_rfl) (fun _ _ _ h => h) (Or.inl ⟨by rfl, ?_⟩) (by assumption) ?_
      rotate_left
      · (intro w hSw; (try dsimp only at hSw); go_simp; (try with_reducible rfl))
      simp only [Act.put, List.getElem_toArray, List.getElem_cons_zero, List.getElem_cons_succ, List.setIfInBounds_toArray, List.set_cons_zero, List.set_cons_succ]
      refine wpAnyH_take (i := 10) (v := ?_) rfl (by kernel_rfl) (by kernel_rfl) (by kernel_rfl) (fun _ _ _ h => h) (Or.inl ⟨by rfl, ?_⟩) (by assumption) ?_
      rotate_left
      · (intro w hSw; (try dsimp only at hSw); go_simp; (try with_reducible rfl))
      simp only [Act.put, List.getElem_toArray, List.getElem_cons_zero, List.getElem_cons_succ, List.setIfInBounds_toArray, List.set_cons_zero, List.set_cons_succ]
      refine wpAnyH_take (i := 11) (v := ?_) rfl (by kernel_rfl) (by kernel_rfl) (by kernel_rfl) (fun _ _ _ h => h) (Or.inl ⟨by rfl, ?_⟩) (by assumption) ?_
      rotate_left
      · (intro w hSw; (try dsimp only at hSw); go_simp; (try with_reducible rfl))
      simp only [Act.put, List.getElem_toArray, List.getElem_cons_zero, List.getElem_cons_succ, List.setIfInBounds_toArray, List.set_cons_zero, List.set_cons_succ]
      refine wpAnyH_take (i := 12) (v := ?_) rfl (by kernel_rfl) (by kernel_rfl) (by kernel_rfl) (fun _ _ _ h => h) (Or.inl ⟨by rfl, ?_⟩) (by assumption) ?_
      rotate_left
      · (intro w hSw; (try dsimp only at hSw); go_simp; (try with_reducible rfl))
      simp only [Act.put, List.getElem_toArray, List.getElem_cons_zero, List.getElem_cons_succ, List.setIfInBounds_toArray, List.set_cons_zero, List.set_cons_succ]
      refine wpAnyH_take (i := 13) (v := ?_) rfl (by kernel_rfl) (by kernel_rfl) (by kernel_rfl) (fun _ _ _ h => h) (Or.inl ⟨by rfl, ?_⟩) (by assumption) ?_
      rotate_left
      · (intro w hSw; (try dsimp only at hSw); go_simp; (try with_reducible rfl))
      simp only [Act.put, List.getElem_toArray, List.getElem_cons_zero, List.getElem_cons_succ, List.setIfInBounds_toArray, List.set_cons_zero, List.set_cons_succ]
      refine wpAnyH_take (i := 14) (v := ?_) rfl (by kernel_rfl) (by kernel_rfl) (by kernel_rfl) (fun _ _ _ h => h) (Or.inl ⟨by rfl, ?_⟩) (by assumption) ?_
      rotate_left
      · (intro w hSw; (try dsimp only at hSw); (have v0 := Blk.cell (Blk.below XP.out hSw) 0); (have v1 := Blk.cell (Blk.below XP.out hSw) 1); (have v2 := Blk.cell (Blk.below XP.out hSw) 2); simp only [List.getElem?_toArray, List.getElem?_cons_zero, List.getElem?_cons_succ] at v0 v1 v2; go_simp; (try with_reducible rfl))
      simp only [Act.put, List.getElem_toArray, List.getElem_cons_zero, List.getElem_cons_succ, List.setIfInBounds_toArray, List.set_cons_zero, List.set_cons_succ]
      refine wpAnyH_take (i := 15) (v := ?_) rfl (by kernel_rfl) (by kernel_rfl) (by kernel_rfl) (fun _ _ _ h => h) (Or.inl ⟨by rfl, ?_⟩) (by assumption) ?_
      rotate_left
      · (intro w hSw; (try dsimp only at hSw); go_simp; (try with_reducible rfl))
      simp only [Act.put, List.getElem_toArray, List.getElem_cons_zero, List.getElem_cons_succ, List.setIfInBounds_toArray, List.set_cons_zero, List.set_cons_succ]
      refine wpAnyH_take (i := 16) (v := ?_) rfl (by kernel_rfl) (by kernel_rfl) (by kernel_rfl) (fun _ _ _ h => h) (Or.inl ⟨by rfl, ?_⟩) (by assumption) ?_
      rotate_left
      · (intro w hSw; (try dsimp only at hSw); go_simp; (try with_reducible rfl))
      simp only [Act.put, List.getElem_toArray, List.getElem_cons_zero, List.getElem_cons_succ, List.setIfInBounds_toArray, List.set_cons_zero, List.set_cons_succ]
      refine wpAnyH_take (i := 17) (v := ?_) rfl (by kernel_rfl) (by kernel_rfl) (by kernel_rfl) (fun _ _ _ h => h) (Or.inl ⟨by rfl, ?_⟩) (by assumption) ?_
      rotate_left
      · (intro w hSw; (try dsimp only at hSw); go_simp; (try with_reducible rfl))
      simp only [Act.put, List.getElem_toArray, List.getElem_cons_zero, List.getElem_cons_succ, List.setIfInBounds_toArray, List.set_cons_zero, List.set_cons_succ]
      refine wpAnyH_take (i := 18) (v := ?_) rfl (by kernel_rfl) (by kernel_rfl) (by kernel_rfl) (fun _ _ _ h => h) (Or.inl ⟨by rfl, ?_⟩) (by assumption) ?_
      rotate_left
      · (intro w hSw; (try dsimp only at hSw); go_simp; (try with_reducible rfl))
      simp only [Act.put, List.getElem_toArray, List.getElem_cons_zero, List.getElem_cons_succ, List.setIfInBounds_toArray, List.set_cons_zero, List.set_cons_succ]
      refine wpAnyH_take (i := 19) (v := ?_) rfl (by kernel_rfl) (by kernel_rfl) (by kernel_rfl) (fun _ _ _ h => h) (Or.inl ⟨by rfl, ?_⟩) (by assumption) ?_
      rotate_left
      · (intro w hSw; (try dsimp only at hSw); (have v0 := Blk.cell (Blk.below XP.out hSw) 0); (have v1 := Blk.cell (Blk.below XP.out hSw) 1); (have v2 := Blk.cell (Blk.below XP.out hSw) 2); simp only [List.getElem?_toArray, List.getElem?_cons_zero, List.getElem?_cons_succ] at v0 v1 v2; go_simp; (try with_reducible rfl))
      simp only [Act.put, List.getElem_toArray, List.getElem_cons_zero, List.getElem_cons_succ, List.setIfInBounds_toArray, List.set_cons_zero, List.set_cons_succ]
      refine wpAnyH_take (i := 20) (v := ?_) rfl (by kernel_rfl) (by kernel_rfl) (by kernel_rfl) (fun _ _ _ h => h) (Or.inl ⟨by rfl, ?_⟩) (by assumption) ?_
      rotate_left
      · (intro w hSw; (try dsimp only at hSw); go_simp; (try with_reducible rfl))
      simp only [Act.put, List.getElem_toArray, List.getElem_cons_zero, List.getElem_cons_succ, List.setIfInBounds_toArray, List.set_cons_zero, List.set_cons_succ]
      refine wpAnyH_take (i := 21) (v := ?_) rfl (by kernel_rfl) (by kernel_rfl) (by kernel_rfl) (fun _ _ _ h => h) (Or.inl ⟨by rfl, ?_⟩) (by assumption) ?_
      rotate_left
      · (intro w hSw; (try dsimp only at hSw); go_simp; (try with_reducible rfl))
      simp only [Act.put, List.getElem_toArray, List.getElem_cons_zero, List.getElem_cons_succ, List.setIfInBounds_toArray, List.set_cons_zero, List.set_cons_succ]
      refine wpAnyH_take (i := 22) (v := ?_) rfl (by kernel_rfl) (by kernel_rfl) (by kernel_rfl) (fun _ _ _ h => h) (Or.inl ⟨by rfl, ?_⟩) (by assumption) ?_
      rotate_left
      · (intro w hSw; (try dsimp only at hSw); go_simp; (try with_reducible rfl))
      simp only [Act.put, List.getElem_toArray, List.getElem_cons_zero, List.getElem_cons_succ, List.setIfInBounds_toArray, List.set_cons_zero, List.set_cons_succ]
      refine wpAnyH_take (i := 23) (v := ?_) rfl (by kernel_rfl) (by kernel_rfl) (by kernel_rfl) (fun _ _ _ h => h) (Or.inl ⟨by rfl, ?_⟩) (by assumption) ?_
      rotate_left
      · (intro w hSw; (try dsimp only at hSw); go_simp; (try with_reducible rfl))
      simp only [Act.put, List.getElem_toArray, List.getElem_cons_zero, List.getElem_cons_succ, List.setIfInBounds_toArray, List.set_cons_zero, List.set_cons_succ]
      refine wpAnyH_take (i := 24) (v := ?_) rfl (by kernel_rfl) (by kernel_rfl) (by kernel_rfl) (fun _ _ _ h => h) (Or.inl ⟨by rfl, ?_⟩) (by assumption) ?_
      rotate_left
      · (intro w hSw; (try dsimp only at hSw); (have v0 := Blk.cell (Blk.below X1.out hSw) 0); (have v1 := Blk.cell (Blk.below X1.out hSw) 1); (have v2 := Blk.cell (Blk.below X1.out hSw) 2); simp only [List.getElem?_toArray, List.getElem?_cons_zero, List.getElem?_cons_succ] at v0 v1 v2; go_simp; (try with_reducible rfl))
      simp only [Act.put, List.getElem_toArray, List.getElem_cons_zero, List.getElem_cons_succ, List.setIfInBounds_toArray, List.set_cons_zero, List.set_cons_succ]
      refine wpAnyH_take (i := 25) (v := ?_) rfl (by kernel_rfl) (by kernel_rfl) (by kernel_rfl) (fun _ _ _ h => h) (Or.inl ⟨by rfl, ?_⟩) (by assumption) ?_
      rotate_left
      · (intro w hSw; (try dsimp only at hSw); go_simp; (try with_reducible rfl))
      simp only [Act.put, List.getElem_toArray, List.getElem_cons_zero, List.getElem_cons_succ, List.setIfInBounds_toArray, List.set_cons_zero, List.set_cons_succ]
      refine wpAnyH_take (i := 26) (v := ?_) rfl (by kernel_rfl) (by kernel_rfl) (by kernel_rfl) (fun _ _ _ h => h) (Or.inl ⟨by rfl, ?_⟩) (by assumption) ?_
      rotate_left
      · (intro w hSw; (try dsimp only at hSw); (have v0 := Blk.cell (Blk.below XP.out hSw) 0); (have v1 := Blk.cell (Blk.below XP.out hSw) 1); (have v2 := Blk.cell (Blk.below XP.out hSw) 2); simp only [List.getElem?_toArray, List.getElem?_cons_zero, List.getElem?_cons_succ] at v0 v1 v2; go_simp; (try with_reducible rfl))
      simp only [Act.put, List.getElem_toArray, List.getElem_cons_zero, List.getElem_cons_succ, List.setIfInBounds_toArray, List.set_cons_zero, List.set_cons_succ]
      refine wpAnyH_take (i := 28) (v := ?_) rfl (by kernel_rfl) (by kernel_rfl) (by kernel_rfl) (fun _ _ _ h => h) (Or.inl ⟨by rfl, ?_⟩) (by assumption) ?_
      rotate_left
      · (intro w hSw; (try dsimp only at hSw); (have v0 := Blk.cell (Blk.below X1.out hSw) 0); (have v1 := Blk.cell (Blk.below X1.out hSw) 1); (have v2 := Blk.cell (Blk.below X1.out hSw) 2); simp only [List.getElem?_toArray, List.getElem?_cons_zero, List.getElem?_cons_succ] at v0 v1 v2; go_simp; (try with_reducible rfl))
      simp only [Act.put, List.getElem_toArray, List.getElem_cons_zero, List.getElem_cons_succ, List.setIfInBounds_toArray, List.set_cons_zero, List.set_cons_succ]
      refine wpAnyH_take (i := 29) (v := ?_) rfl (by kernel_rfl) (by kernel_rfl) (by kernel_rfl) (fun _ _ _ h => h) (Or.inl ⟨by rfl, ?_⟩) (by assumption) ?_
      rotate_left
      · (intro w hSw; (try dsimp only at hSw); go_simp; (try with_reducible rfl))
      simp only [Act.put, List.getElem_toArray, List.getElem_cons_zero, List.getElem_cons_succ, List.setIfInBounds_toArray, List.set_cons_zero, List.set_cons_succ]
      refine wpAnyH_ready (rs := [27]) (by kernel_rfl) (by simp) ?_
      refine AllReadyH.cons rfl (fun K hK => ?_) AllReadyH.nil
      rw [if_pos (by rfl)]
      go_simp
      ((with_reducible refine (QA.out _ hHeld).mono ?_); rintro e w' ⟨rfl, bq⟩)
      refine hK.out _ _ (bch hHeld bq) (fun hHeld2 => ?_)
      clear hK K hHeld
      have hHeld := hHeld2; clear hHeld2
      refine wpAnyH_ready (rs := [30]) (by kernel_rfl) (by simp) ?_
      refine AllReadyH.cons rfl (fun K hK => ?_) AllReadyH.nil
      rw [if_pos (by rfl)]
      go_simp
      ((with_reducible refine (QB.out _ hHeld).mono ?_); rintro e w' ⟨rfl, bq⟩)
      refine hK.out _ _ (bch hHeld bq) (fun hHeld2 => ?_)
      clear hK K hHeld
      have hHeld := hHeld2; clear hHeld2
      refine wpAnyH_take (i := 31) (v := ?_) rfl (by kernel_rfl) (by kernel_rfl) (by kernel_rfl) (fun _ _ _ h => h) (Or.inl ⟨by rfl, ?_⟩) (by assumption) ?_
      rotate_left
      · (intro w hSw; (try dsimp only at hSw); go_simp; (try with_reducible rfl))
      simp only [Act.put, List.getElem_toArray, List.getElem_cons_zero, List.getElem_cons_succ, List.setIfInBounds_toArray, List.set_cons_zero, List.set_cons_succ]
      refine wpAnyH_take (i := 32) (v := ?_) rfl (by kernel_rfl) (by kernel_rfl) (by kernel_rfl) (fun _ _ _ h => h) (Or.inl ⟨by rfl, ?_⟩) (by assumption) ?_
      rotate_left
      · (intro w hSw; (try dsimp only at hSw); go_simp; (try with_reducible rfl))
      simp only [Act.put, List.getElem_toArray, List.getElem_cons_zero, List.getElem_cons_succ, List.setIfInBounds_toArray, List.set_cons_zero, List.set_cons_succ]
      refine wpAnyH_take (i := 33) (v := ?_) rfl (by kernel_rfl) (by kernel_rfl) (by kernel_rfl) (fun _ _ _ h => h) (Or.inl ⟨by rfl, ?_⟩) (by assumption) ?_
      rotate_left
      · (intro w hSw; (try dsimp only at hSw); go_simp; (try with_reducible rfl))
      simp only [Act.put, List.getElem_toArray, List.getElem_cons_zero, List.getElem_cons_succ, List.setIfInBounds_toArray, List.set_cons_zero, List.set_cons_succ]
      refine wpAnyH_take (i := 34) (v := ?_) rfl (by kernel_rfl) (by kernel_rfl) (by kernel_rfl) (fun _ _ _ h => h) (Or.inl ⟨by rfl, ?_⟩) (by assumption) ?_
      rotate_left
      · (intro w hSw; (try dsimp only at hSw); go_simp; (try with_reducible rfl))
      simp only [Act.put, List.getElem_toArray, List.getElem_cons_zero, List.getElem_cons_succ, List.setIfInBounds_toArray, List.set_cons_zero, List.set_cons_succ]
      refine wpAnyH_take (i := 35) (v := ?_) rfl (by kernel_rfl) (by kernel_rfl) (by kernel_rfl) (fun _ _ _ h => h) (Or.inl ⟨by rfl, ?_⟩) (by assumption) ?_
      rotate_left
      · (intro w hSw; (try dsimp only at hSw); go_simp; (try with_reducible rfl))
      simp only [Act.put, List.getElem_toArray, List.getElem_cons_zero, List.getElem_cons_succ, List.setIfInBounds_toArray, List.set_cons_zero, List.set_cons_succ]
      refine wpAnyH_take (i := 36) (v := ?_) rfl (by kernel_rfl) (by kernel_rfl) (by kernel_rfl) (fun _ _ _ h => h) (Or.inl ⟨by rfl, ?_⟩) (by assumption) ?_
      rotate_left
      · (intro w hSw; (try dsimp only at hSw); go_simp; (try with_reducible rfl))
      simp only [Act.put, List.getElem_toArray, List.getElem_cons_zero, List.getElem_cons_succ, List.setIfInBounds_toArray, List.set_cons_zero, List.set_cons_succ]
      refine wpAnyH_take (i := 37) (v := ?_) rfl (by kernel_rfl) (by kernel_rfl) (by kernel_rfl) (fun _ _ _ h => h) (Or.inl ⟨by rfl, ?_⟩) (by assumption) ?_
      rotate_left
      · (intro w hSw; (try dsimp only at hSw); go_simp; (try with_reducible rfl))
      simp only [Act.put, List.getElem_toArray, List.getElem_cons_zero, List.getElem_cons_succ, List.setIfInBounds_toArray, List.set_cons_zero, List.set_cons_succ]
      refine wpAnyH_take (i := 38) (v := ?_) rfl (by kernel_rfl) (by kernel_rfl) (by kernel_rfl) (fun _ _ _ h => h) (Or.inl ⟨by rfl, ?_⟩) (by assumption) ?_
      rotate_left
      · (intro w hSw; (try dsimp only at hSw); go_simp; (try with_reducible rfl))
      simp only [Act.put, List.getElem_toArray, List.getElem_cons_zero, List.getElem_cons_succ, List.setIfInBounds_toArray, List.set_cons_zero, List.set_cons_succ]
      refine wpAnyH_take (i := 39) (v := ?_) rfl (by kernel_rfl) (by kernel_rfl) (by kernel_rfl) (fun _ _ _ h => h) (Or.inl ⟨by rfl, ?_⟩) (by assumption) ?_
      rotate_left
      · (intro w hSw; (try dsimp only at hSw); go_simp; (try with_reducible rfl))
      simp only [Act.put, List.getElem_toArray, List.getElem_cons_zero, List.getElem_cons_succ, List.setIfInBounds_toArray, List.set_cons_zero, List.set_cons_succ]
      refine wpAnyH_take (i := 40) (v := ?_) rfl (by kernel_rfl) (by kernel_rfl) (by kernel_rfl) (fun _ _ _ h => h) (Or.inl ⟨by rfl, ?_⟩) (by assumption) ?_
      rotate_left
      · (intro w hSw; (try dsimp only at hSw); go_simp; (try with_reducible rfl))
      simp only [Act.put, List.getElem_toArray, List.getElem_cons_zero, List.getElem_cons_succ, List.setIfInBounds_toArray, List.set_cons_zero, List.set_cons_succ]
      refine wpAnyH_take (i := 41) (v := ?_) rfl (by kernel_rfl) (by kernel_rfl) (by kernel_rfl) (fun _ _ _ h => h) (Or.inl ⟨by rfl, ?_⟩) (by assumption) ?_
      rotate_left
      · (intro w hSw; (try dsimp only at hSw); go_simp; (try with_reducible rfl))
      simp only [Act.put, List.getElem_toArray, List.getElem_cons_zero, List.getElem_cons_succ, List.setIfInBounds_toArray, List.set_cons_zero, List.set_cons_succ]
      refine wpAnyH_take (i := 42) (v := ?_) rfl (by kernel_rfl) (by kernel_rfl) (by kernel_rfl) (fun _ _ _ h => h) (Or.inl ⟨by rfl, ?_⟩) (by assumption) ?_
      rotate_left
      · (intro w hSw; (try dsimp only at hSw); go_simp; (try with_reducible rfl))
      simp only [Act.put, List.getElem_toArray, List.getElem_cons_zero, List.getElem_cons_succ, List.setIfInBounds_toArray, List.set_cons_zero, List.set_cons_succ]
      refine wpAnyH_take (i := 43) (v := ?_) rfl (by kernel_rfl) (by kernel_rfl) (by kernel_rfl) (fun _ _ _ h => h) (Or.inl ⟨by rfl, ?_⟩) (by assumption) ?_
      rotate_left
      · (intro w hSw; (try dsimp only at hSw); (have v0 := Blk.cell (Blk.below X3.out hSw) 0); (have v1 := Blk.cell (Blk.below X3.out hSw) 1); (have v2 := Blk.cell (Blk.below X3.out hSw) 2); simp only [List.getElem?_toArray, List.getElem?_cons_zero, List.getElem?_cons_succ] at v0 v1 v2; go_simp; (try with_reducible rfl))
      simp only [Act.put, List.getElem_toArray, List.getElem_cons_zero, List.getElem_cons_succ, List.setIfInBounds_toArray, List.set_cons_zero, List.set_cons_succ]
      refine wpAnyH_take (i := 44) (v := ?_) rfl (by kernel_rfl) (by kernel_rfl) (by kernel_rfl) (fun _ _ _ h => h) (Or.inl ⟨by rfl, ?_⟩) (by assumption) ?_
      rotate_left
      · (intro w hSw; (try dsimp only at hSw); (have v0 := Blk.cell (Blk.below X1.out hSw) 0); (have v1 := Blk.cell (Blk.below X1.out hSw) 1); (have v2 := Blk.cell (Blk.below X1.out hSw) 2); simp only [List.getElem?_toArray, List.getElem?_cons_zero, List.getElem?_cons_succ] at v0 v1 v2; go_simp; (try with_reducible rfl))
      simp only [Act.put, List.getElem_toArray, List.getElem_cons_zero, List.getElem_cons_succ, List.setIfInBounds_toArray, List.set_cons_zero, List.set_cons_succ]
      refine wpAnyH_ready (rs := [45]) (by kernel_rfl) (by simp) ?_
      refine AllReadyH.cons rfl (fun K hK => ?_) AllReadyH.nil
      rw [if_pos (by rfl)]
      go_simp
      ((with_reducible refine (QS.out _ hHeld).mono ?_); rintro e w' ⟨rfl, bq⟩)
      refine hK.out _ _ (bch hHeld bq) (fun hHeld2 => ?_)
      clear hK K hHeld
      have hHeld := hHeld2; clear hHeld2
      refine wpAnyH_take (i := 46) (v := ?_) rfl (by kernel_rfl) (by kernel_rfl) (by kernel_rfl) (fun _ _ _ h => h) (Or.inl ⟨by rfl, ?_⟩) (by assumption) ?_
      rotate_left
      · (intro w hSw; (try dsimp only at hSw); go_simp; (try with_reducible rfl))
      simp only [Act.put, List.getElem_toArray, List.getElem_cons_zero, List.getElem_cons_succ, List.setIfInBounds_toArray, List.set_cons_zero, List.set_cons_succ]
      refine wpAnyH_take (i := 47) (v := ?_) rfl (by kernel_rfl) (by kernel_rfl) (by kernel_rfl) (fun _ _ _ h => h) (Or.inl ⟨by rfl, ?_⟩) (by assumption) ?_
      rotate_left
      · (intro w hSw; (try dsimp only at hSw); go_simp; (try with_reducible rfl))
      simp only [Act.put, List.getElem_toArray, List.getElem_cons_zero, List.getElem_cons_succ, List.setIfInBounds_toArray, List.set_cons_zero, List.set_cons_succ]
      refine wpAnyH_take (i := 48) (v := ?_) rfl (by kernel_rfl) (by kernel_rfl) (by kernel_rfl) (fun _ _ _ h => h) (Or.inl ⟨by rfl, ?_⟩) (by assumption) ?_
      rotate_left
      · (intro w hSw; (try dsimp only at hSw); (have v0 := Blk.cell (Blk.below X2.out hSw) 0); (have v1 := Blk.cell (Blk.below X2.out hSw) 1); (have v2 := Blk.cell (Blk.below X2.out hSw) 2); simp only [List.getElem?_toArray, List.getElem?_cons_zero, List.getElem?_cons_succ] at v0 v1 v2; go_simp; (try with_reducible rfl))
      simp only [Act.put, List.getElem_toArray, List.getElem_cons_zero, List.getElem_cons_succ, List.setIfInBounds_toArray, List.set_cons_zero, List.set_cons_succ]
      refine wpAnyH_take (i := 49) (v := ?_) rfl (by kernel_rfl) (by kernel_rfl) (by kernel_rfl) (fun _ _ _ h => h) (Or.inl ⟨by rfl, ?_⟩) (by assumption) ?_
      rotate_left
      · (intro w hSw; (try dsimp only at hSw); go_simp; (try with_reducible rfl))
      simp only [Act.put, List.getElem_toArray, List.getElem_cons_zero, List.getElem_cons_succ, List.setIfInBounds_toArray, List.set_cons_zero, List.set_cons_succ]
      refine wpAnyH_take (i := 50) (v := ?_) rfl (by kernel_rfl) (by kernel_rfl) (by kernel_rfl) (fun _ _ _ h => h) (Or.inl ⟨by rfl, ?_⟩) (by assumption) ?_
      rotate_left
      · (intro w hSw; (try dsimp only at hSw); (have v0 := Blk.cell (Blk.below XP.out hSw) 0); (have v1 := Blk.cell (Blk.below XP.out hSw) 1); (have v2 := Blk.cell (Blk.below XP.out hSw) 2); simp only [List.getElem?_toArray, List.getElem?_cons_zero, List.getElem?_cons_succ] at v0 v1 v2; go_simp; (try with_reducible rfl))
      simp only [Act.put, List.getElem_toArray, List.getElem_cons_zero, List.getElem_cons_succ, List.setIfInBounds_toArray, List.set_cons_zero, List.set_cons_succ]
      refine wpAnyH_take (i := 52) (v := ?_) rfl (by kernel_rfl) (by kernel_rfl) (by kernel_rfl) (fun _ _ _ h => h) (Or.inl ⟨by rfl, ?_⟩) (by assumption) ?_
      rotate_left
      · (intro w hSw; (try dsimp only at hSw); (have v0 := Blk.cell (Blk.below X1.out hSw) 0); (have v1 := Blk.cell (Blk.below X1.out hSw) 1); (have v2 := Blk.cell (Blk.below X1.out hSw) 2); simp only [List.getElem?_toArray, List.getElem?_cons_zero, List.getElem?_cons_succ] at v0 v1 v2; go_simp; (try with_reducible rfl))
      simp only [Act.put, List.getElem_toArray, List.getElem_cons_zero, List.getElem_cons_succ, List.setIfInBounds_toArray, List.set_cons_zero, List.set_cons_succ]
      refine wpAnyH_take (i := 53) (v := ?_) rfl (by kernel_rfl) (by kernel_rfl) (by kernel_rfl) (fun _ _ _ h => h) (Or.inl ⟨by rfl, ?_⟩) (by assumption) ?_
      rotate_left
      · (intro w hSw; (try dsimp only at hSw); go_simp; (try with_reducible rfl))
      simp only [Act.put, List.getElem_toArray, List.getElem_cons_zero, List.getElem_cons_succ, List.setIfInBounds_toArray, List.set_cons_zero, List.set_cons_succ]
      refine wpAnyH_take (i := 54) (v := ?_) rfl (by kernel_rfl) (by kernel_rfl) (by kernel_rfl) (fun _ _ _ h => h) (Or.inl ⟨by rfl, ?_⟩) (by assumption) ?_
      rotate_left
      · (intro w hSw; (try dsimp only at hSw); (have v0 := Blk.cell (Blk.below XP.out hSw) 0); (have v1 := Blk.cell (Blk.below XP.out hSw) 1); (have v2 := Blk.cell (Blk.below XP.out hSw) 2); simp only [List.getElem?_toArray, List.getElem?_cons_zero, List.getElem?_cons_succ] at v0 v1 v2; go_simp; (try with_reducible rfl))
      simp only [Act.put, List.getElem_toArray, List.getElem_cons_zero, List.getElem_cons_succ, List.setIfInBounds_toArray, List.set_cons_zero, List.set_cons_succ]
      refine wpAnyH_ready (rs := [51]) (by kernel_rfl) (by simp) ?_
      refine AllReadyH.cons rfl (fun K hK => ?_) AllReadyH.nil
      rw [if_pos (by rfl)]
      go_simp
      ((with_reducible refine (QC.out _ hHeld).mono ?_); rintro e w' ⟨rfl, bq⟩)
      refine hK.out _ _ (bch hHeld bq) (fun hHeld2 => ?_)
      clear hK K hHeld
      have hHeld := hHeld2; clear hHeld2
      refine wpAnyH_ready (rs := [55]) (by kernel_rfl) (by simp) ?_
      refine AllReadyH.cons rfl (fun K hK => ?_) AllReadyH.nil
      rw [if_pos (by rfl)]
      go_simp
      ((with_reducible refine (QA.out _ hHeld).mono ?_); rintro e w' ⟨rfl, bq⟩)
      refine hK.out _ _ (bch hHeld bq) (fun hHeld2 => ?_)
      clear hK K hHeld
      have hHeld := hHeld2; clear hHeld2
      refine wpAnyH_take (i := 56) (v := ?_) rfl (by kernel_rfl) (by kernel_rfl) (by kernel_rfl) (fun _ _ _ h => h) (Or.inl ⟨by rfl, ?_⟩) (by assumption) ?_
      rotate_left
      · (intro w hSw; (try dsimp only at hSw); go_simp; (try with_reducible rfl))
      simp only [Act.put, List.getElem_toArray, List.getElem_cons_zero, List.getElem_cons_succ, List.setIfInBounds_toArray, List.set_cons_zero, List.set_cons_succ]
      refine wpAnyH_take (i := 57) (v := ?_) rfl (by kernel_rfl) (by kernel_rfl) (by kernel_rfl) (fun _ _ _ h => h) (Or.inl ⟨by rfl, ?_⟩) (by assumption) ?_
      rotate_left
      · (intro w hSw; (try dsimp only at hSw); go_simp; (try with_reducible rfl))
      simp only [Act.put, List.getElem_toArray, List.getElem_cons_zero, List.getElem_cons_succ, List.setIfInBounds_toArray, List.set_cons_zero, List.set_cons_succ]
      refine wpAnyH_take (i := 58) (v := ?_) rfl (by kernel_rfl) (by kernel_rfl) (by kernel_rfl) (fun _ _ _ h => h) (Or.inl ⟨by rfl, ?_⟩) (by assumption) ?_
      rotate_left
      · (intro w hSw; (try dsimp only at hSw); go_simp; (try with_reducible rfl))
      simp only [Act.put, List.getElem_toArray, List.getElem_cons_zero, List.getElem_cons_succ, List.setIfInBounds_toArray, List.set_cons_zero, List.set_cons_succ]
      refine wpAnyH_take (i := 59) (v := ?_) rfl (by kernel_rfl) (by kernel_rfl) (by kernel_rfl) (fun _ _ _ h => h) (Or.inl ⟨by rfl, ?_⟩) (by assumption) ?_
      rotate_left
      · (intro w hSw; (try dsimp only at hSw); go_simp; (try with_reducible rfl))
      simp only [Act.put, List.getElem_toArray, List.getElem_cons_zero, List.getElem_cons_succ, List.setIfInBounds_toArray, List.set_cons_zero, List.set_cons_succ]
      refine wpAnyH_take (i := 60) (v := ?_) rfl (by kernel_rfl) (by kernel_rfl) (by kernel_rfl) (fun _ _ _ h => h) (Or.inl ⟨by rfl, ?_⟩) (by assumption) ?_
      rotate_left
      · (intro w hSw; (try dsimp only at hSw); (have v0 := Blk.cell (Blk.below X2.out hSw) 0); (have v1 := Blk.cell (Blk.below X2.out hSw) 1); (have v2 := Blk.cell (Blk.below X2.out hSw) 2); simp only [List.getElem?_toArray, List.getElem?_cons_zero, List.getElem?_cons_succ] at v0 v1 v2; go_simp; (try with_reducible rfl))
      simp only [Act.put, List.getElem_toArray, List.getElem_cons_zero, List.getElem_cons_succ, List.setIfInBounds_toArray, List.set_cons_zero, List.set_cons_succ]
      refine wpAnyH_take (i := 61) (v := ?_) rfl (by kernel_rfl) (by kernel_rfl) (by kernel_rfl) (fun _ _ _ h => h) (Or.inl ⟨by rfl, ?_⟩) (by assumption) ?_
      rotate_left
      · (intro w hSw; (try dsimp only at hSw); go_simp; (try with_reducible rfl))
      simp only [Act.put, List.getElem_toArray, List.getElem_cons_zero, List.getElem_cons_succ, List.setIfInBounds_toArray, List.set_cons_zero, List.set_cons_succ]
      refine wpAnyH_take (i := 63) (v := ?_) rfl (by kernel_rfl) (by kernel_rfl) (by kernel_rfl) (fun _ _ _ h => h) (Or.inl ⟨by rfl, ?_⟩) (by assumption) ?_
      rotate_left
      · (intro w hSw; (try dsimp only at hSw); (have v0 := Blk.cell (Blk.below X1.out hSw) 0); (have v1 := Blk.cell (Blk.below X1.out hSw) 1); (have v2 := Blk.cell (Blk.below X1.out hSw) 2); simp only [List.getElem?_toArray, List.getElem?_cons_zero, List.getElem?_cons_succ] at v0 v1 v2; go_simp; (try with_reducible rfl))
      simp only [Act.put, List.getElem_toArray, List.getElem_cons_zero, List.getElem_cons_succ, List.setIfInBounds_toArray, List.set_cons_zero, List.set_cons_succ]
      refine wpAnyH_take (i := 64) (v := ?_) rfl (by kernel_rfl) (by kernel_rfl) (by kernel_rfl) (fun _ _ _ h => h) (Or.inl ⟨by rfl, ?_⟩) (by assumption) ?_
      rotate_left
      · (intro w hSw; (try dsimp only at hSw); go_simp; (try with_reducible rfl))
      simp only [Act.put, List.getElem_toArray, List.getElem_cons_zero, List.getElem_cons_succ, List.setIfInBounds_toArray, List.set_cons_zero, List.set_cons_succ]
      refine wpAnyH_ready (rs := [62]) (by kernel_rfl) (by simp) ?_
      refine AllReadyH.cons rfl (fun K hK => ?_) AllReadyH.nil
      rw [if_pos (by rfl)]
      go_simp
      ((with_reducible refine (QD.out _ hHeld).mono ?_); rintro e w' ⟨rfl, bq⟩)
      refine hK.out _ _ (bch hHeld bq) (fun hHeld2 => ?_)
      clear hK K hHeld
      have hHeld := hHeld2; clear hHeld2
      refine wpAnyH_ready (rs := [65]) (by kernel_rfl) (by simp) ?_
      refine AllReadyH.cons rfl (fun K hK => ?_) AllReadyH.nil
      rw [if_pos (by rfl)]
      go_simp
      ((with_reducible refine (QB.out _ hHeld).mono ?_); rintro e w' ⟨rfl, bq⟩)
      refine hK.out _ _ (bch hHeld bq) (fun hHeld2 => ?_)
      clear hK K hHeld
      have hHeld := hHeld2; clear hHeld2
      refine wpAnyH_take (i := 66) (v := ?_) rfl (by kernel_rfl) (by kernel_rfl) (by kernel_rfl) (fun _ _ _ h => h) (Or.inl ⟨by rfl, ?_⟩) (by assumption) ?_
      rotate_left
      · (intro w hSw; (try dsimp only at hSw); go_simp; (try with_reducible rfl))
      simp only [Act.put, List.getElem_toArray, List.getElem_cons_zero, List.getElem_cons_succ, List.setIfInBounds_toArray, List.set_cons_zero, List.set_cons_succ]
      refine wpAnyH_take (i := 67) (v := ?_) rfl (by kernel_rfl) (by kernel_rfl) (by kernel_rfl) (fun _ _ _ h => h) (Or.inl ⟨by rfl, ?_⟩) (by assumption) ?_
      rotate_left
      · (intro w hSw; (try dsimp only at hSw); go_simp; (try with_reducible rfl))
      simp only [Act.put, List.getElem_toArray, List.getElem_cons_zero, List.getElem_cons_succ, List.setIfInBounds_toArray, List.set_cons_zero, List.set_cons_succ]
      refine wpAnyH_take (i := 68) (v := ?_) rfl (by kernel_rfl) (by kernel_rfl) (by kernel_rfl) (fun _ _ _ h => h) (Or.inl ⟨by rfl, ?_⟩) (by assumption) ?_
      rotate_left
      · (intro w hSw; (try dsimp only at hSw); go_simp; (try with_reducible rfl))
      simp only [Act.put, List.getElem_toArray, List.getElem_cons_zero, List.getElem_cons_succ, List.setIfInBounds_toArray, List.set_cons_zero, List.set_cons_succ]
      refine wpAnyH_take (i := 69) (v := ?_) rfl (by kernel_rfl) (by kernel_rfl) (by kernel_rfl) (fun _ _ _ h => h) (Or.inl ⟨by rfl, ?_⟩) (by assumption) ?_
      rotate_left
      · (intro w hSw; (try dsimp only at hSw); go_simp; (try with_reducible rfl))
      simp only [Act.put, List.getElem_toArray, List.getElem_cons_zero, List.getElem_cons_succ, List.setIfInBounds_toArray, List.set_cons_zero, List.set_cons_succ]
      refine wpAnyH_done (by kernel_rfl) ?_ _
      refine NoPanic.normal ?_
      have hb9 := bch HB.out hHeld
      go_wp2_with fail
      go_ret
      exact ⟨rfl, hb9⟩
end Go.Proofs.Ytndkmepdnekigaa
