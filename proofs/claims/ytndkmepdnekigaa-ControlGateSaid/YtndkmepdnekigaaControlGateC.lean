import Derived.Test.YtndkmepdnekigaaCtAwake
import Derived.Test.YtndkmepdnekigaaCtIn
import Derived.Test.YtndkmepdnekigaaCtSame
/-
  Finalised is granted just if all members tell 2; then nobody tells 1 any more, nor joins with 1; before, each may go back. (The law 'ControlGate' over what is asked of the program.)
-/
namespace Go.Proofs.Ytndkmepdnekigaa
open Go.RowKit
set_option linter.unusedVariables false
set_option linter.unusedSimpArgs false

set_option maxRecDepth 100000 in
set_option maxHeartbeats 40000000 in
theorem controlGate_core (kR : RightC9) (kN : NewC9) (kJ : JoinC9) (kP : ReportC9) (kF : FinalC9) (kL : PlanC9) (kM : CommitC9) (kC : CancelC9) (kB : BalC9) (x y : Int) (A : Option Addr) (n cap : Nat) (f : Nat → Nat → Int) (z : Int) (w : World) (wx : (Lit.int .i64 x).wf = true) (wy : (Lit.int .i64 y).wf = true) (wr0 : IsRaw w A n 3 f) (wz : (Lit.int .i64 z).wf = true) :
    Calls Try.prog 4 #[.int .i64 x, .int .i64 y, .slice A n cap, .int .i64 z] w fun e w' => e = .returned (.bool true) ∧ Below w.heap.size w w' := by
  have qa := awake18_any kR kN kJ kP kF kL kM kC kB w
  go_enter Try.func4, Try.ntmps4
  go_wp2_with fail
  ((with_reducible refine qa.mono ?_); rintro e V0 ⟨rfl, b⟩)
  have HB := Lib.hid b
  have qc := control_any x y A n cap f V0 wx wy (wr0.below b)
  have HOK : Hid (CtOk (ctlC x y f n)) := ctlC_ok x y f n
  have HEP : Hid (∀ p ∈ (ctlC x y f n).pl, p.2.1 ≤ 31) := ctlC_ep x y f n
  generalize ctlC x y f n = c at *
  clear b qa wr0
  go_wp2_with fail
  ((with_reducible refine qc.mono ?_); rintro e V1 ⟨A1, n1, c1, B1, m1, d1, rfl, hr1, hp1, hne1, b⟩)
  clear qc
  obtain ⟨_, _, hv1, hk1, hi1⟩ := hr1.parts
  obtain ⟨rfl, hl1, rfl⟩ := slice_eqG hv1
  obtain ⟨_, _, hv2, hk2, hi2⟩ := hp1.parts
  obtain ⟨rfl, hl2, rfl⟩ := slice_eqG hv2
  rewrite [← hl1] at hi1
  rewrite [← hl2] at hi2
  have I1 : Hid (IsCt V1 c A1 n1 B1 m1) := ⟨hi1, hi2⟩
  have S1 : Hid (n1 ≤ c1 ∧ m1 ≤ d1) := ⟨by omega, by omega⟩
  have HN1 : Hid (n1 = c.mem.length) := hl1
  have HM1 : Hid (m1 = c.pl.length) := hl2
  have hn18 : 1 ≤ n1 ∧ n1 ≤ 8 := by have := HOK.out.1.2.1; omega
  have hm18 : 1 ≤ m1 ∧ m1 ≤ 8 := by have := HOK.out.1.2.2.1; omega
  have HR1 := Lib.hid hr1; have HP1 := Lib.hid hp1; have HNE1 := Lib.hid hne1
  clear hv1 hv2 hk1 hk2 hi1 hi2 hl1 hl2 hr1 hp1 hne1
  have HBx := Lib.hid (bch HB.out b); clear HB
  have HB := HBx; clear HBx b
  go_upto_region 3 with fail
  have hba := ba9 V1 (ctB c A1 n1 c1 B1 m1 d1)
  have X1 := Lib.hid (Blk.new V1 (ctB c A1 n1 c1 B1 m1 d1))
  have I1_ := Lib.hid (I1.out.below hba); clear I1
  have I1 := I1_; clear I1_
  have HR1_ := Lib.hid (HR1.out.below hba); clear HR1
  have HR1 := HR1_; clear HR1_
  have HP1_ := Lib.hid (HP1.out.below hba); clear HP1
  have HP1 := HP1_; clear HP1_
  have HB_ := Lib.hid (bch HB.out hba); clear HB
  have HB := HB_; clear HB_
  obtain ⟨W1, hW⟩ : ∃ X, V1.alloc (ctB c A1 n1 c1 B1 m1 d1) = X := ⟨_, rfl⟩
  rewrite [hW] at X1 HB I1 HR1 HP1
  rewrite [hW]
  clear hW hba
  generalize hg1 : V1.heap.size = g1 at *
  clear hg1
  have HRC := Lib.hid HOK.out.1
  have HCW := Lib.hid HOK.out.2.1
  have HSM : Hid (c.mem.length ≤ 20 ∧ c.pl.length ≤ 20) := by have h := HOK.out.1.small; exact ⟨by omega, by omega⟩
  go_wp2_with fail
  go_loopw [11, 12] (fun s i wr => ∃ k : Nat, k ≤ n1 ∧ i = .int .i64 k ∧ s = .bool (allK c.mem k) ∧ Hid (Below W1.heap.size W1 wr)) (fun _ i _ => n1 - (intOf i).toNat)
  case atStart => exact ⟨0, Nat.zero_le _, rfl, rfl, Below.refl _ _⟩
  case round =>
    obtain ⟨k, hk, rfl, rfl, hbw⟩ := hrel
    have z1 := Blk.cell (Blk.below X1.out hbw.out) 1
    simp only [List.getElem?_toArray, List.getElem?_cons_zero, List.getElem?_cons_succ] at z1
    by_cases hlt : k < n1
    · have HK : Hid (k < c.mem.length) := by show k < _; have := HN1.out; omega
      have hki : (k : Int) < (n1 : Int) := by omega
      obtain ⟨b, off, hA, hbb, y0, y1⟩ := is2_at (I1.out.below hbw.out).1 (atM9_get HK.out)
      subst hA
      have HST : Hid (allK c.mem (k + 1) = (allK c.mem k && ((atM9 c.mem k).2 == 2))) := allK_succ HK.out
      generalize atM9 c.mem k = pm at *
      generalize allK c.mem k = al at *
      obtain ⟨nm, nb⟩ := pm
      simp only at y0 y1 HST
      cases al with
      | false =>
        go_wp2_with fail
        go_roundw
        case rel => exact ⟨k + 1, by omega, by go_num, by rw [HST.out]; rfl, hbw.out⟩
        case measure => simp [intOf]; omega
      | true =>
        by_cases hb2 : nb = 2
        · have e2 : (nb == 2) = true := by simpa using hb2
          go_wp2_with fail
          go_roundw
          case rel => exact ⟨k + 1, by omega, by go_num, by rw [HST.out, e2]; rfl, hbw.out⟩
          case measure => simp [intOf]; omega
        · have e2 : (nb == 2) = false := by simpa using hb2
          go_wp2_with fail
          go_roundw
          case rel => exact ⟨k + 1, by omega, by go_num, by rw [HST.out, e2]; rfl, hbw.out⟩
          case measure => simp [intOf]; omega
    · have hke : k = n1 := by omega
      have hki : (n1 : Int) ≤ (k : Int) := by omega
      have HAL : Hid (allK c.mem k = true ↔ ∀ m ∈ c.mem, m.2 = 2) := by show _ ↔ _; rw [hke, HN1.out]; exact allK_end
      clear hke hk
      have hb9 := hbw.out
      clear hbw z1
      have I1_ := Lib.hid (I1.out.below hb9); clear I1
      have I1 := I1_; clear I1_
      have HR1_ := Lib.hid (HR1.out.below hb9); clear HR1
      have HR1 := HR1_; clear HR1_
      have HP1_ := Lib.hid (HP1.out.below hb9); clear HP1
      have HP1 := HP1_; clear HP1_
      have X1_ := Lib.hid (Blk.below X1.out hb9); clear X1
      have X1 := X1_; clear X1_
      have HB_ := Lib.hid (bch HB.out hb9); clear HB
      have HB := HB_; clear HB_
      clear hb9
      obtain ⟨W2, hW⟩ : ∃ X, X = wr := ⟨_, rfl⟩
      rewrite [← hW] at HB X1 I1 HR1 HP1
      rewrite [← hW]
      clear hW HR1 HP1
      have hqn := pickN_lt z 50 (by decide)
      have qj : Hid (∀ W, Calls Try.prog 14 #[.int .i64 z, .int .i64 50] W fun e w' => e = .returned (.int .i64 (pickN z 50)) ∧ W = w') := fun W => pick_nat z 50 (by decide) (by decide) wz W
      generalize pickN z 50 = jq at *
      have HFA : Hid (¬ isMem c.mem (50 + (jq : Int))) := HOK.out.far (by omega)
      have HJQ : Hid (jq < 50) := by show _ < _; omega
      cases hal : allK c.mem k with
      | true =>
        obtain ⟨hf1, hf2⟩ := gate_yes HRC.out (HAL.out.1 hal)
        obtain ⟨cf, hcf⟩ : ∃ cf : CtR, cf = ⟨2, c.mem, c.pl⟩ := ⟨_, rfl⟩
        rewrite [← hcf] at hf1 hf2
        have HFL : Hid (cf.level = 2 ∧ cf.mem = c.mem) := by rw [hcf]; exact ⟨rfl, rfl⟩
        have HFW : Hid (CtW cf) := by have h := CtW.final HCW.out; rewrite [hf1] at h; exact h
        have HFR := Lib.hid hf2
        have HFS : Hid (cf.mem.length ≤ 20 ∧ cf.pl.length ≤ 20) := by have h := hf2.small; exact ⟨by omega, by omega⟩
        have HE1 := Lib.hid hf1
        clear hf1 hf2 hcf hal HAL
        have el : (cf.level == 2) = true := by rw [HFL.out.1]; rfl
        have a0 := Blk.cell X1.out 0
        have a1 := Blk.cell X1.out 1
        have a2 := Blk.cell X1.out 2
        simp only [List.getElem?_toArray, List.getElem?_cons_zero, List.getElem?_cons_succ] at a0 a1 a2
        go_wp2_with fail
        have q := (kF c A1 B1 n1 c1 m1 d1  W2 (ctArg I1.out HCW.out HSM.out S1.out.1 S1.out.2) ).mono (fun e w' h => h.at HE1.out (lv := (cf).level) rfl)
        ((with_reducible refine q.mono ?_); rintro e V3 ⟨A2, n2, c2, B2, m2, d2, rfl, h1, h2, ct, b⟩)
        clear q a0 a1 a2
        have I1_ := Lib.hid (I1.out.below b); clear I1
        have I1 := I1_; clear I1_
        have X1_ := Lib.hid (Blk.below X1.out b); clear X1
        have X1 := X1_; clear X1_
        have HB_ := Lib.hid (bch HB.out b); clear HB
        have HB := HB_; clear HB_
        clear b
        have I2 := Lib.hid ct
        have S2 : Hid (n2 ≤ c2 ∧ m2 ≤ d2) := ⟨h1, h2⟩
        clear h1 h2 ct
        go_upto_region 9 with fail
        have hba := ba9 V3 (ctB (cf) A2 n2 c2 B2 m2 d2)
        have X2 := Lib.hid (Blk.new V3 (ctB (cf) A2 n2 c2 B2 m2 d2))
        have I1_ := Lib.hid (I1.out.below hba); clear I1
        have I1 := I1_; clear I1_
        have X1_ := Lib.hid (Blk.below X1.out hba); clear X1
        have X1 := X1_; clear X1_
        have I2_ := Lib.hid (I2.out.below hba); clear I2
        have I2 := I2_; clear I2_
        have HB_ := Lib.hid (bch HB.out hba); clear HB
        have HB := HB_; clear HB_
        obtain ⟨W3, hW⟩ : ∃ X, V3.alloc (ctB (cf) A2 n2 c2 B2 m2 d2) = X := ⟨_, rfl⟩
        rewrite [hW] at X2 HB I1 X1 I2
        rewrite [hW]
        clear hW hba
        generalize hg2 : V3.heap.size = g2 at *
        clear hg2
        have p0 := Blk.cell X1.out 0
        simp only [List.getElem?_toArray, List.getElem?_cons_zero, List.getElem?_cons_succ] at p0
        have r0 := Blk.cell X2.out 0
        simp only [List.getElem?_toArray, List.getElem?_cons_zero, List.getElem?_cons_succ] at r0
        have a0 := Blk.cell X2.out 0
        have a1 := Blk.cell X2.out 1
        have a2 := Blk.cell X2.out 2
        simp only [List.getElem?_toArray, List.getElem?_cons_zero, List.getElem?_cons_succ] at a0 a1 a2
        go_wp2_with fail
        have q := (by
          have q := kR cf A2 B2 n2 c2 m2 d2 W3 (ctArg I2.out HFW.out HFS.out S2.out.1 S2.out.2)
          rewrite [show rightC cf = true from decide_eq_true HFR.out] at q
          exact q)
        ((with_reducible refine q.mono ?_); rintro e V4 ⟨rfl, b⟩)
        clear q a0 a1 a2
        have I1_ := Lib.hid (I1.out.below b); clear I1
        have I1 := I1_; clear I1_
        have X1_ := Lib.hid (Blk.below X1.out b); clear X1
        have X1 := X1_; clear X1_
        have I2_ := Lib.hid (I2.out.below b); clear I2
        have I2 := I2_; clear I2_
        have X2_ := Lib.hid (Blk.below X2.out b); clear X2
        have X2 := X2_; clear X2_
        have HB_ := Lib.hid (bch HB.out b); clear HB
        have HB := HB_; clear HB_
        clear b
        clear p0 r0
        have qp : Hid (∀ W, Calls Try.prog 14 #[.int .i64 z, .int .i64 (n1 : Int)] W fun e w' => e = .returned (.int .i64 (pickN z (n1 : Int))) ∧ W = w') := fun W => pick_nat z (n1 : Int) (by omega) (by omega) wz W
        have hkx := pickN_lt z (n1 : Int) (by omega)
        generalize pickN z (n1 : Int) = k2 at *
        have hkk2 : k2 < n1 := by omega
        have HKk2 : Hid (k2 < c.mem.length) := by show _ < _; have := HN1.out; omega
        clear hkx
        obtain ⟨b, off, hA, hbb, y0, y1⟩ := is2_at I1.out.1 (atM9_get HKk2.out)
        subst hA
        have HBB := Lib.hid hbb; clear hbb
        have hpm : c.mem.getD k2 (0, 0) = atM9 c.mem k2 := rfl
        generalize atM9 c.mem k2 = pm at *
        obtain ⟨nm, nb⟩ := pm
        simp only at y0 y1
        have HPM := Lib.hid hpm; clear hpm
        go_upto_region 11 with fail
        refine wp_region_noPanic ?_
        refine wp_region_held_drew (S := (fun W_ => Blk W_ g1 (ctB c (some ⟨b, off, none⟩) n1 c1 B1 m1 d1) ∧ Below V4.heap.size V4 W_)) (by kernel_rfl) (⟨X1.out.drew, (Below.refl _ _).drew⟩) (fun hHeld => ?_)
        refine wpAnyH_take (i := 0) (v := ?_) rfl (by kernel_rfl) (by kernel_rfl) (by kernel_rfl) (fun _ _ _ h => h) (Or.inl ⟨by rfl, ?_⟩) (by assumption) ?_
        rotate_left
        · (intro w hSw; (try dsimp only at hSw); go_simp; (try with_reducible rfl))
        simp only [Act.put, List.getElem_toArray, List.getElem_cons_zero, List.setIfInBounds_toArray, List.set_cons_zero, List.set_cons_succ]
        refine wpAnyH_take (i := 1) (v := ?_) rfl (by kernel_rfl) (by kernel_rfl) (by kernel_rfl) (fun _ _ _ h => h) (Or.inl ⟨by rfl, ?_⟩) (by assumption) ?_
        rotate_left
        · (intro w hSw; (try dsimp only at hSw); (have v0 := Blk.cell hSw.1 1); simp only [List.getElem?_toArray, List.getElem?_cons_zero, List.getElem?_cons_succ] at v0; go_simp; (try with_reducible rfl))
        simp only [Act.put, List.getElem_toArray, List.getElem_cons_zero, List.getElem_cons_succ, List.setIfInBounds_toArray, List.set_cons_zero, List.set_cons_succ]
        refine wpAnyH_take (i := 2) (v := ?_) rfl (by kernel_rfl) (by kernel_rfl) (by kernel_rfl) (fun _ _ _ h => h) (Or.inl ⟨by rfl, ?_⟩) (by assumption) ?_
        rotate_left
        · (intro w hSw; (try dsimp only at hSw); go_simp; (try with_reducible rfl))
        simp only [Act.put, List.getElem_toArray, List.getElem_cons_zero, List.getElem_cons_succ, List.setIfInBounds_toArray, List.set_cons_zero, List.set_cons_succ]
        refine wpAnyH_take (i := 3) (v := ?_) rfl (by kernel_rfl) (by kernel_rfl) (by kernel_rfl) (fun _ _ _ h => h) (Or.inl ⟨by rfl, ?_⟩) (by assumption) ?_
        rotate_left
        · (intro w hSw; (try dsimp only at hSw); go_simp; (try with_reducible rfl))
        simp only [Act.put, List.getElem_toArray, List.getElem_cons_zero, List.getElem_cons_succ, List.setIfInBounds_toArray, List.set_cons_zero, List.set_cons_succ]
        refine wpAnyH_take (i := 4) (v := ?_) rfl (by kernel_rfl) (by kernel_rfl) (by kernel_rfl) (fun _ _ _ h => h) (Or.inl ⟨by rfl, ?_⟩) (by assumption) ?_
        rotate_left
        · (intro w hSw; (try dsimp only at hSw); (have v0 := Blk.cell hSw.1 1); simp only [List.getElem?_toArray, List.getElem?_cons_zero, List.getElem?_cons_succ] at v0; go_simp; (try with_reducible rfl))
        simp only [Act.put, List.getElem_toArray, List.getElem_cons_zero, List.getElem_cons_succ, List.setIfInBounds_toArray, List.set_cons_zero, List.set_cons_succ]
        refine wpAnyH_take (i := 5) (v := ?_) rfl (by kernel_rfl) (by kernel_rfl) (by kernel_rfl) (fun _ _ _ h => h) (Or.inl ⟨by rfl, ?_⟩) (by assumption) ?_
        rotate_left
        · (intro w hSw; (try dsimp only at hSw); go_simp; (try with_reducible rfl))
        simp only [Act.put, List.getElem_toArray, List.getElem_cons_zero, List.getElem_cons_succ, List.setIfInBounds_toArray, List.set_cons_zero, List.set_cons_succ]
        refine wpAnyH_ready (rs := [6]) (by kernel_rfl) (by simp) ?_
        refine AllReadyH.cons rfl (fun K hK => ?_) AllReadyH.nil
        rw [if_pos (by rfl)]
        go_simp
        ((with_reducible refine (qp.out _).mono ?_); rintro e Wp ⟨rfl, rfl⟩)
        refine hK.out _ _ (hHeld) (fun hHeld2 => ?_)
        clear hK K hHeld
        have hHeld := hHeld2; clear hHeld2
        refine wpAnyH_take (i := 7) (v := ?_) rfl (by kernel_rfl) (by kernel_rfl) (by kernel_rfl) (fun _ _ _ h => h) (Or.inl ⟨by rfl, ?_⟩) (by assumption) ?_
        rotate_left
        · (intro w hSw; (try dsimp only at hSw); go_simp; (try with_reducible rfl))
        simp only [Act.put, List.getElem_toArray, List.getElem_cons_zero, List.getElem_cons_succ, List.setIfInBounds_toArray, List.set_cons_zero, List.set_cons_succ]
        refine wpAnyH_take (i := 8) (v := ?_) rfl (by kernel_rfl) (by kernel_rfl) (by kernel_rfl) (fun _ _ _ h => h) (Or.inl ⟨by rfl, ?_⟩) (by assumption) ?_
        rotate_left
        · (intro w hSw; (try dsimp only at hSw); go_simp; (try with_reducible rfl))
        simp only [Act.put, List.getElem_toArray, List.getElem_cons_zero, List.getElem_cons_succ, List.setIfInBounds_toArray, List.set_cons_zero, List.set_cons_succ]
        refine wpAnyH_take (i := 9) (v := ?_) rfl (by kernel_rfl) (by kernel_rfl) (by kernel_rfl) (fun _ _ _ h => h) (Or.inl ⟨by rfl, ?_⟩) (by assumption) ?_
        rotate_left
        · (intro w hSw; (try dsimp only at hSw); (have v0 := (hSw.2.cell (p := ⟨b, off + k2 * 2, none⟩) HBB.out).trans y0); go_simp; (try with_reducible rfl))
        simp only [Act.put, List.getElem_toArray, List.getElem_cons_zero, List.getElem_cons_succ, List.setIfInBounds_toArray, List.set_cons_zero, List.set_cons_succ]
        refine wpAnyH_take (i := 10) (v := ?_) rfl (by kernel_rfl) (by kernel_rfl) (by kernel_rfl) (fun _ _ _ h => h) (Or.inl ⟨by rfl, ?_⟩) (by assumption) ?_
        rotate_left
        · (intro w hSw; (try dsimp only at hSw); go_simp; (try with_reducible rfl))
        simp only [Act.put, List.getElem_toArray, List.getElem_cons_zero, List.getElem_cons_succ, List.setIfInBounds_toArray, List.set_cons_zero, List.set_cons_succ]
        refine wpAnyH_done (by kernel_rfl) ?_ _
        refine NoPanic.normal ?_
        have hd9 := (Below.refl V4.heap.size V4).drew
        have I1_ := Lib.hid (I1.out.below hd9); clear I1
        have I1 := I1_; clear I1_
        have X1_ := Lib.hid (Blk.below X1.out hd9); clear X1
        have X1 := X1_; clear X1_
        have I2_ := Lib.hid (I2.out.below hd9); clear I2
        have I2 := I2_; clear I2_
        have X2_ := Lib.hid (Blk.below X2.out hd9); clear X2
        have X2 := X2_; clear X2_
        have HB_ := Lib.hid (bch HB.out hd9); clear HB
        have HB := HB_; clear HB_
        clear hd9 y0 y1 qp
        obtain ⟨W5, hW⟩ : ∃ X, X = V4.drew := ⟨_, rfl⟩
        rewrite [← hW] at HB I1 X1 I2 X2
        rewrite [← hW]
        clear hW
        have HEP : Hid (reportC cf nm 1 = (cf, 22)) := by
          have h := report_old HFR.out (k := k2) (by rw [HFL.out.2]; exact HKk2.out) (b := 1) (.inl rfl) (by rw [HFL.out.1]; rfl)
          rewrite [HFL.out.2, HPM.out] at h
          exact h
        have HEJ : Hid (joinC cf (50 + (jq : Int)) 1 = (cf, 22)) := join_old HFR.out HFL.out.1 (by omega) (by have := HJQ.out; omega) (by rw [HFL.out.2]; exact HFA.out)
        have hwm : (Lit.int .i64 nm).wf = true := by have h := HCW.out.2.1 _ (getD_mem HKk2.out); rewrite [HPM.out] at h; exact h.1
        have a0 := Blk.cell X2.out 0
        have a1 := Blk.cell X2.out 1
        have a2 := Blk.cell X2.out 2
        simp only [List.getElem?_toArray, List.getElem?_cons_zero, List.getElem?_cons_succ] at a0 a1 a2
        go_wp2_with fail
        have q := (kP cf A2 B2 n2 c2 m2 d2 nm 1 W5 (ctArg I2.out HFW.out HFS.out S2.out.1 S2.out.2) hwm (wf_i (t := 1) (by decide) (by decide))).mono (fun e w' h => h.at HEP.out (lv := (cf).level) rfl)
        ((with_reducible refine q.mono ?_); rintro e V6 ⟨A3, n3, c3, B3, m3, d3, rfl, h1, h2, ct, b⟩)
        clear q a0 a1 a2
        have I1_ := Lib.hid (I1.out.below b); clear I1
        have I1 := I1_; clear I1_
        have X1_ := Lib.hid (Blk.below X1.out b); clear X1
        have X1 := X1_; clear X1_
        have I2_ := Lib.hid (I2.out.below b); clear I2
        have I2 := I2_; clear I2_
        have X2_ := Lib.hid (Blk.below X2.out b); clear X2
        have X2 := X2_; clear X2_
        have HB_ := Lib.hid (bch HB.out b); clear HB
        have HB := HB_; clear HB_
        clear b
        have I3 := Lib.hid ct
        have S3 : Hid (n3 ≤ c3 ∧ m3 ≤ d3) := ⟨h1, h2⟩
        clear h1 h2 ct
        go_upto_region 13 with fail
        have hba := ba9 V6 (ctB (cf) A3 n3 c3 B3 m3 d3)
        have X3 := Lib.hid (Blk.new V6 (ctB (cf) A3 n3 c3 B3 m3 d3))
        have I1_ := Lib.hid (I1.out.below hba); clear I1
        have I1 := I1_; clear I1_
        have X1_ := Lib.hid (Blk.below X1.out hba); clear X1
        have X1 := X1_; clear X1_
        have I2_ := Lib.hid (I2.out.below hba); clear I2
        have I2 := I2_; clear I2_
        have X2_ := Lib.hid (Blk.below X2.out hba); clear X2
        have X2 := X2_; clear X2_
        have I3_ := Lib.hid (I3.out.below hba); clear I3
        have I3 := I3_; clear I3_
        have HB_ := Lib.hid (bch HB.out hba); clear HB
        have HB := HB_; clear HB_
        obtain ⟨W6, hW⟩ : ∃ X, V6.alloc (ctB (cf) A3 n3 c3 B3 m3 d3) = X := ⟨_, rfl⟩
        rewrite [hW] at X3 HB I1 X1 I2 X2 I3
        rewrite [hW]
        clear hW hba
        generalize hg3 : V6.heap.size = g3 at *
        clear hg3
        have HQ : Hid (∀ W_, Below W6.heap.size W6 W_ → Calls Try.prog 22 #[ctV cf A2 n2 c2 B2 m2 d2, .int .i64 (50 + (jq : Int)), .int .i64 1] W_ fun e w' => ∃ A_ n_ cap_ B_ m_ cm_, e = .returned (.tuple #[.agg #[.int .i64 (cf).level, .slice A_ n_ cap_, .slice B_ m_ cm_], .int .i64 22]) ∧ n_ ≤ cap_ ∧ m_ ≤ cm_ ∧ IsCt w' (cf) A_ n_ B_ m_ ∧ Below W_.heap.size W_ w') := fun W_ hb_ =>
          (kJ cf A2 B2 n2 c2 m2 d2 (50 + (jq : Int)) 1 W_ (ctArg (I2.out.below hb_) HFW.out HFS.out S2.out.1 S2.out.2) (wf_i (by omega) (by have := HJQ.out; omega)) (wf_i (t := 1) (by decide) (by decide))).mono (fun e w' h => h.at HEJ.out (lv := (cf).level) rfl)
        have hwj : IntKind.i64.wrap (50 + (jq : Int)) = 50 + (jq : Int) := IntWalk.i64_in _ (by have := HJQ.out; omega)
        have HGW : Hid (g2 ≠ W6.heap.size) := by show _ ≠ _; have := Blk.lt X2.out; omega
        go_cut [18, 19] (fun p e wx => CtIn W6 wx p e (cf, 22))
        case first =>
          refine wp_region_noPanic ?_
          refine wp_region_held_drew (S := (fun W_ => Blk W_ g2 (ctB cf A2 n2 c2 B2 m2 d2) ∧ Below W6.heap.size W6 W_)) (by kernel_rfl) (⟨X2.out.drew, (Below.refl _ _).drew⟩) (fun hHeld => ?_)
          refine wpAnyH_take (i := 0) (v := ?_) rfl (by kernel_rfl) (by kernel_rfl) (by kernel_rfl) (fun _ _ _ h => h) (Or.inl ⟨by rfl, ?_⟩) (by assumption) ?_
          rotate_left
          · (intro w hSw; (try dsimp only at hSw); (have v0 := Blk.cell hSw.1 0); (have v1 := Blk.cell hSw.1 1); (have v2 := Blk.cell hSw.1 2); simp only [List.getElem?_toArray, List.getElem?_cons_zero, List.getElem?_cons_succ] at v0 v1 v2; go_simp; (try with_reducible rfl))
          simp only [Act.put, List.getElem_toArray, List.getElem_cons_zero, List.setIfInBounds_toArray, List.set_cons_zero, List.set_cons_succ]
          refine wpAnyH_take (i := 1) (v := ?_) rfl (by kernel_rfl) (by kernel_rfl) (by kernel_rfl) (fun _ _ _ h => h) (Or.inl ⟨by rfl, ?_⟩) (by assumption) ?_
          rotate_left
          · (intro w hSw; (try dsimp only at hSw); go_simp; (try with_reducible rfl))
          simp only [Act.put, List.getElem_toArray, List.getElem_cons_zero, List.getElem_cons_succ, List.setIfInBounds_toArray, List.set_cons_zero, List.set_cons_succ]
          refine wpAnyH_ready (rs := [2, 8]) (by kernel_rfl) (by simp) ?_
          refine AllReadyH.cons rfl (fun K hK => ?_) ?_
          · rw [if_pos (by rfl)]
            go_simp
            ((with_reducible refine (qj.out _).mono ?_); rintro e Wp ⟨rfl, rfl⟩)
            refine hK.out _ _ (hHeld) (fun hHeld2 => ?_)
            clear hK K hHeld
            have hHeld := hHeld2; clear hHeld2
            refine wpAnyH_take (i := 3) (v := ?_) rfl (by kernel_rfl) (by kernel_rfl) (by kernel_rfl) (fun _ _ _ h => h) (Or.inl ⟨by rfl, ?_⟩) (by assumption) ?_
            rotate_left
            · (intro w hSw; (try dsimp only at hSw); go_simp; (try with_reducible rfl))
            simp only [Act.put, List.getElem_toArray, List.getElem_cons_zero, List.getElem_cons_succ, List.setIfInBounds_toArray, List.set_cons_zero, List.set_cons_succ]
            refine wpAnyH_ready (rs := [4, 8]) (by kernel_rfl) (by simp) ?_
            refine AllReadyH.cons rfl (fun K hK => ?_) ?_
            · rw [if_pos (by rfl)]
              go_simp
              ((with_reducible refine (HQ.out _ hHeld.2).mono ?_); rintro e Vj ⟨Aj, nj, cj, Bj, mj, dj, rfl, hj1, hj2, ctj, bj⟩)
              have hbj := bch hHeld.2 bj
              refine hK.out _ _ (⟨Blk.below hHeld.1 bj, bch hHeld.2 bj⟩) (fun hHeld2 => ?_)
              clear hK K hHeld
              have hHeld := hHeld2; clear hHeld2
              refine wpAnyH_take (i := 5) (v := ?_) rfl (by kernel_rfl) (by kernel_rfl) (by kernel_rfl) (fun _ _ _ h => h) (Or.inl ⟨by rfl, ?_⟩) (by assumption) ?_
              rotate_left
              · (intro w hSw; (try dsimp only at hSw); go_simp; (try with_reducible rfl))
              simp only [Act.put, List.getElem_toArray, List.getElem_cons_zero, List.getElem_cons_succ, List.setIfInBounds_toArray, List.set_cons_zero, List.set_cons_succ]
              refine wpAnyH_take (i := 6) (v := ?_) rfl (by kernel_rfl) (by kernel_rfl) (by kernel_rfl) (fun _ _ _ h => h) (Or.inl ⟨by rfl, ?_⟩) (by assumption) ?_
              rotate_left
              · (intro w hSw; (try dsimp only at hSw); go_simp; (try with_reducible rfl))
              simp only [Act.put, List.getElem_toArray, List.getElem_cons_zero, List.getElem_cons_succ, List.setIfInBounds_toArray, List.set_cons_zero, List.set_cons_succ]
              refine wpAnyH_take (i := 7) (v := ?_) rfl (by kernel_rfl) (by kernel_rfl) (by kernel_rfl) (fun _ _ _ h => h) (Or.inl ⟨by rfl, ?_⟩) (by assumption) ?_
              rotate_left
              · (intro w hSw; (try dsimp only at hSw); go_simp; (try with_reducible rfl))
              simp only [Act.put, List.getElem_toArray, List.getElem_cons_zero, List.getElem_cons_succ, List.setIfInBounds_toArray, List.set_cons_zero, List.set_cons_succ]
              have hHJ := hHeld
              refine wpAnyH_ready (rs := [8]) (by kernel_rfl) (by simp) ?_
              refine AllReadyH.cons rfl (fun K hK => ?_) AllReadyH.nil
              rw [if_pos (by rfl)]
              go_simp
              refine hK.out _ _ (⟨Blk.below hHeld.1 (ba9 _ _), hHeld.2.alloc hHeld.2.size _⟩) (fun hHeld2 => ?_)
              clear hK K hHeld
              have hHeld := hHeld2; clear hHeld2
              refine wpAnyH_ready (rs := [9]) (by kernel_rfl) (by simp) ?_
              refine AllReadyH.cons rfl (fun K hK => ?_) AllReadyH.nil
              rw [if_pos (by rfl)]
              go_simp
              refine hK.out _ _ (⟨Blk.below hHJ.1 (ba9 _ _), bch hHJ.2 (ba9 _ _)⟩) (fun hHeld2 => ?_)
              clear hK K hHeld
              have hHeld := hHeld2; clear hHeld2
              refine wpAnyH_take (i := 10) (v := ?_) rfl (by kernel_rfl) (by kernel_rfl) (by kernel_rfl) (fun _ _ _ h => h) (Or.inl ⟨by rfl, ?_⟩) (by assumption) ?_
              rotate_left
              · (intro w hSw; (try dsimp only at hSw); go_simp; (try with_reducible rfl))
              simp only [Act.put, List.getElem_toArray, List.getElem_cons_zero, List.getElem_cons_succ, List.setIfInBounds_toArray, List.set_cons_zero, List.set_cons_succ]
              refine wpAnyH_done (by kernel_rfl) ?_ _
              refine NoPanic.normal ?_
              go_wp2_with fail
              go_meet
              exact ctIn_new ctj hj1 hj2 hbj
            refine AllReadyH.cons rfl (fun K hK => ?_) ?_
            · rw [if_pos (by rfl)]
              go_simp
              have hz : Blk (W6.drew.alloc (.cells #[.int .i64 0, .slice none 0 0, .slice none 0 0] 26)) W6.heap.size (.cells #[.int .i64 0, .slice none 0 0, .slice none 0 0] 26) := Blk.new W6.drew (.cells #[.int .i64 0, .slice none 0 0, .slice none 0 0] 26)
              refine hK.out _ _ (⟨Blk.below hHeld.1 (ba9 _ _), hHeld.2.alloc hHeld.2.size _⟩) (fun hHeld2 => ?_)
              clear hK K hHeld
              have hHeld := hHeld2; clear hHeld2
              refine wpAnyH_ready (rs := [4]) (by kernel_rfl) (by simp) ?_
              refine AllReadyH.cons rfl (fun K hK => ?_) AllReadyH.nil
              rw [if_pos (by rfl)]
              go_simp
              ((with_reducible refine (HQ.out _ hHeld.2).mono ?_); rintro e Vj ⟨Aj, nj, cj, Bj, mj, dj, rfl, hj1, hj2, ctj, bj⟩)
              have hbj := bch hHeld.2 bj
              have hz2 := Blk.below hz bj
              refine hK.out _ _ (⟨Blk.below hHeld.1 bj, bch hHeld.2 bj⟩) (fun hHeld2 => ?_)
              clear hK K hHeld
              have hHeld := hHeld2; clear hHeld2
              refine wpAnyH_take (i := 5) (v := ?_) rfl (by kernel_rfl) (by kernel_rfl) (by kernel_rfl) (fun _ _ _ h => h) (Or.inl ⟨by rfl, ?_⟩) (by assumption) ?_
              rotate_left
              · (intro w hSw; (try dsimp only at hSw); go_simp; (try with_reducible rfl))
              simp only [Act.put, List.getElem_toArray, List.getElem_cons_zero, List.getElem_cons_succ, List.setIfInBounds_toArray, List.set_cons_zero, List.set_cons_succ]
              refine wpAnyH_take (i := 6) (v := ?_) rfl (by kernel_rfl) (by kernel_rfl) (by kernel_rfl) (fun _ _ _ h => h) (Or.inl ⟨by rfl, ?_⟩) (by assumption) ?_
              rotate_left
              · (intro w hSw; (try dsimp only at hSw); go_simp; (try with_reducible rfl))
              simp only [Act.put, List.getElem_toArray, List.getElem_cons_zero, List.getElem_cons_succ, List.setIfInBounds_toArray, List.set_cons_zero, List.set_cons_succ]
              refine wpAnyH_take (i := 7) (v := ?_) rfl (by kernel_rfl) (by kernel_rfl) (by kernel_rfl) (fun _ _ _ h => h) (Or.inl ⟨by rfl, ?_⟩) (by assumption) ?_
              rotate_left
              · (intro w hSw; (try dsimp only at hSw); go_simp; (try with_reducible rfl))
              simp only [Act.put, List.getElem_toArray, List.getElem_cons_zero, List.getElem_cons_succ, List.setIfInBounds_toArray, List.set_cons_zero, List.set_cons_succ]
              have y0 := Blk.cell hz2 0
              have y1 := Blk.cell hz2 1
              have y2 := Blk.cell hz2 2
              simp only [List.getElem?_toArray, List.getElem?_cons_zero, List.getElem?_cons_succ] at y0 y1 y2
              have f0 := Blk.frozen hz2 0
              have f1 := Blk.frozen hz2 1
              have f2 := Blk.frozen hz2 2
              refine wpAnyH_ready (rs := [9]) (by kernel_rfl) (by simp) ?_
              refine AllReadyH.cons rfl (fun K hK => ?_) AllReadyH.nil
              rw [if_pos (by rfl)]
              go_simp
              refine hK.out _ _ (⟨blk_put3 hHeld.1 HGW.out _ _ _, below_put3 hHeld.2 (Nat.le_refl _) _ _ _⟩) (fun hHeld2 => ?_)
              clear hK K hHeld
              have hHeld := hHeld2; clear hHeld2
              refine wpAnyH_take (i := 10) (v := ?_) rfl (by kernel_rfl) (by kernel_rfl) (by kernel_rfl) (fun _ _ _ h => h) (Or.inl ⟨by rfl, ?_⟩) (by assumption) ?_
              rotate_left
              · (intro w hSw; (try dsimp only at hSw); go_simp; (try with_reducible rfl))
              simp only [Act.put, List.getElem_toArray, List.getElem_cons_zero, List.getElem_cons_succ, List.setIfInBounds_toArray, List.set_cons_zero, List.set_cons_succ]
              refine wpAnyH_done (by kernel_rfl) ?_ _
              refine NoPanic.normal ?_
              go_wp2_with fail
              go_meet
              exact ctIn_put (c := zeroC) hz2 ctj hj1 hj2 hbj (Nat.le_refl _)
            exact AllReadyH.nil
          refine AllReadyH.cons rfl (fun K hK => ?_) ?_
          · rw [if_pos (by rfl)]
            go_simp
            have hz : Blk (W6.drew.alloc (.cells #[.int .i64 0, .slice none 0 0, .slice none 0 0] 26)) W6.heap.size (.cells #[.int .i64 0, .slice none 0 0, .slice none 0 0] 26) := Blk.new W6.drew (.cells #[.int .i64 0, .slice none 0 0, .slice none 0 0] 26)
            refine hK.out _ _ (⟨Blk.below hHeld.1 (ba9 _ _), hHeld.2.alloc hHeld.2.size _⟩) (fun hHeld2 => ?_)
            clear hK K hHeld
            have hHeld := hHeld2; clear hHeld2
            refine wpAnyH_ready (rs := [2]) (by kernel_rfl) (by simp) ?_
            refine AllReadyH.cons rfl (fun K hK => ?_) AllReadyH.nil
            rw [if_pos (by rfl)]
            go_simp
            ((with_reducible refine (qj.out _).mono ?_); rintro e Wp ⟨rfl, rfl⟩)
            refine hK.out _ _ (hHeld) (fun hHeld2 => ?_)
            clear hK K hHeld
            have hHeld := hHeld2; clear hHeld2
            refine wpAnyH_take (i := 3) (v := ?_) rfl (by kernel_rfl) (by kernel_rfl) (by kernel_rfl) (fun _ _ _ h => h) (Or.inl ⟨by rfl, ?_⟩) (by assumption) ?_
            rotate_left
            · (intro w hSw; (try dsimp only at hSw); go_simp; (try with_reducible rfl))
            simp only [Act.put, List.getElem_toArray, List.getElem_cons_zero, List.getElem_cons_succ, List.setIfInBounds_toArray, List.set_cons_zero, List.set_cons_succ]
            refine wpAnyH_ready (rs := [4]) (by kernel_rfl) (by simp) ?_
            refine AllReadyH.cons rfl (fun K hK => ?_) AllReadyH.nil
            rw [if_pos (by rfl)]
            go_simp
            ((with_reducible refine (HQ.out _ hHeld.2).mono ?_); rintro e Vj ⟨Aj, nj, cj, Bj, mj, dj, rfl, hj1, hj2, ctj, bj⟩)
            have hbj := bch hHeld.2 bj
            have hz2 := Blk.below hz bj
            refine hK.out _ _ (⟨Blk.below hHeld.1 bj, bch hHeld.2 bj⟩) (fun hHeld2 => ?_)
            clear hK K hHeld
            have hHeld := hHeld2; clear hHeld2
            refine wpAnyH_take (i := 5) (v := ?_) rfl (by kernel_rfl) (by kernel_rfl) (by kernel_rfl) (fun _ _ _ h => h) (Or.inl ⟨by rfl, ?_⟩) (by assumption) ?_
            rotate_left
            · (intro w hSw; (try dsimp only at hSw); go_simp; (try with_reducible rfl))
            simp only [Act.put, List.getElem_toArray, List.getElem_cons_zero, List.getElem_cons_succ, List.setIfInBounds_toArray, List.set_cons_zero, List.set_cons_succ]
            refine wpAnyH_take (i := 6) (v := ?_) rfl (by kernel_rfl) (by kernel_rfl) (by kernel_rfl) (fun _ _ _ h => h) (Or.inl ⟨by rfl, ?_⟩) (by assumption) ?_
            rotate_left
            · (intro w hSw; (try dsimp only at hSw); go_simp; (try with_reducible rfl))
            simp only [Act.put, List.getElem_toArray, List.getElem_cons_zero, List.getElem_cons_succ, List.setIfInBounds_toArray, List.set_cons_zero, List.set_cons_succ]
            refine wpAnyH_take (i := 7) (v := ?_) rfl (by kernel_rfl) (by kernel_rfl) (by kernel_rfl) (fun _ _ _ h => h) (Or.inl ⟨by rfl, ?_⟩) (by assumption) ?_
            rotate_left
            · (intro w hSw; (try dsimp only at hSw); go_simp; (try with_reducible rfl))
            simp only [Act.put, List.getElem_toArray, List.getElem_cons_zero, List.getElem_cons_succ, List.setIfInBounds_toArray, List.set_cons_zero, List.set_cons_succ]
            have y0 := Blk.cell hz2 0
            have y1 := Blk.cell hz2 1
            have y2 := Blk.cell hz2 2
            simp only [List.getElem?_toArray, List.getElem?_cons_zero, List.getElem?_cons_succ] at y0 y1 y2
            have f0 := Blk.frozen hz2 0
            have f1 := Blk.frozen hz2 1
            have f2 := Blk.frozen hz2 2
            refine wpAnyH_ready (rs := [9]) (by kernel_rfl) (by simp) ?_
            refine AllReadyH.cons rfl (fun K hK => ?_) AllReadyH.nil
            rw [if_pos (by rfl)]
            go_simp
            refine hK.out _ _ (⟨blk_put3 hHeld.1 HGW.out _ _ _, below_put3 hHeld.2 (Nat.le_refl _) _ _ _⟩) (fun hHeld2 => ?_)
            clear hK K hHeld
            have hHeld := hHeld2; clear hHeld2
            refine wpAnyH_take (i := 10) (v := ?_) rfl (by kernel_rfl) (by kernel_rfl) (by kernel_rfl) (fun _ _ _ h => h) (Or.inl ⟨by rfl, ?_⟩) (by assumption) ?_
            rotate_left
            · (intro w hSw; (try dsimp only at hSw); go_simp; (try with_reducible rfl))
            simp only [Act.put, List.getElem_toArray, List.getElem_cons_zero, List.getElem_cons_succ, List.setIfInBounds_toArray, List.set_cons_zero, List.set_cons_succ]
            refine wpAnyH_done (by kernel_rfl) ?_ _
            refine NoPanic.normal ?_
            go_wp2_with fail
            go_meet
            exact ctIn_put (c := zeroC) hz2 ctj hj1 hj2 hbj (Nat.le_refl _)
          exact AllReadyH.nil
        case rest =>
          obtain ⟨g4, A4, n4, c4, B4, m4, d4, rfl, rfl, hX, ct, h1, h2, b_⟩ := hcut
          have I1_ := Lib.hid (I1.out.below b_); clear I1
          have I1 := I1_; clear I1_
          have X1_ := Lib.hid (Blk.below X1.out b_); clear X1
          have X1 := X1_; clear X1_
          have I2_ := Lib.hid (I2.out.below b_); clear I2
          have I2 := I2_; clear I2_
          have X2_ := Lib.hid (Blk.below X2.out b_); clear X2
          have X2 := X2_; clear X2_
          have I3_ := Lib.hid (I3.out.below b_); clear I3
          have I3 := I3_; clear I3_
          have X3_ := Lib.hid (Blk.below X3.out b_); clear X3
          have X3 := X3_; clear X3_
          have HB_ := Lib.hid (bch HB.out b_); clear HB
          have HB := HB_; clear HB_
          have X4 := Lib.hid hX; clear hX
          have I4 := Lib.hid ct; clear ct
          have S4 : Hid (n4 ≤ c4 ∧ m4 ≤ d4) := ⟨h1, h2⟩
          clear h1 h2 b_ HQ HGW hwj
          obtain ⟨W7, hW⟩ : ∃ X, X = wc := ⟨_, rfl⟩
          rewrite [← hW] at HB I1 X1 I2 X2 I3 X3 X4 I4
          rewrite [← hW]
          clear hW
          have r0 := Blk.cell X2.out 0
          simp only [List.getElem?_toArray, List.getElem?_cons_zero, List.getElem?_cons_succ] at r0
          have a0 := Blk.cell X3.out 0
          have a1 := Blk.cell X3.out 1
          have a2 := Blk.cell X3.out 2
          simp only [List.getElem?_toArray, List.getElem?_cons_zero, List.getElem?_cons_succ] at a0 a1 a2
          have b0 := Blk.cell X2.out 0
          have b1 := Blk.cell X2.out 1
          have b2 := Blk.cell X2.out 2
          simp only [List.getElem?_toArray, List.getElem?_cons_zero, List.getElem?_cons_succ] at b0 b1 b2
          go_wp2_with fail
          have q := by
            have q := refsamec_any cf cf A3 B3 A2 B2 n3 c3 m3 d3 n2 c2 m2 d2 W7 I3.out I2.out
            rewrite [show decide (cf = cf) = true from decide_eq_true rfl] at q
            exact q
          ((with_reducible refine q.mono ?_); rintro e V8 ⟨rfl, b⟩)
          clear q a0 a1 a2 b0 b1 b2
          have I1_ := Lib.hid (I1.out.below b); clear I1
          have I1 := I1_; clear I1_
          have X1_ := Lib.hid (Blk.below X1.out b); clear X1
          have X1 := X1_; clear X1_
          have I2_ := Lib.hid (I2.out.below b); clear I2
          have I2 := I2_; clear I2_
          have X2_ := Lib.hid (Blk.below X2.out b); clear X2
          have X2 := X2_; clear X2_
          have I3_ := Lib.hid (I3.out.below b); clear I3
          have I3 := I3_; clear I3_
          have X3_ := Lib.hid (Blk.below X3.out b); clear X3
          have X3 := X3_; clear X3_
          have X4_ := Lib.hid (Blk.below X4.out b); clear X4
          have X4 := X4_; clear X4_
          have I4_ := Lib.hid (I4.out.below b); clear I4
          have I4 := I4_; clear I4_
          have HB_ := Lib.hid (bch HB.out b); clear HB
          have HB := HB_; clear HB_
          clear b
          have a0 := Blk.cell X4.out 0
          have a1 := Blk.cell X4.out 1
          have a2 := Blk.cell X4.out 2
          simp only [List.getElem?_toArray, List.getElem?_cons_zero, List.getElem?_cons_succ] at a0 a1 a2
          have b0 := Blk.cell X2.out 0
          have b1 := Blk.cell X2.out 1
          have b2 := Blk.cell X2.out 2
          simp only [List.getElem?_toArray, List.getElem?_cons_zero, List.getElem?_cons_succ] at b0 b1 b2
          go_wp2_with fail
          have q := by
            have q := refsamec_any cf cf A4 B4 A2 B2 n4 c4 m4 d4 n2 c2 m2 d2 V8 I4.out I2.out
            rewrite [show decide (cf = cf) = true from decide_eq_true rfl] at q
            exact q
          ((with_reducible refine q.mono ?_); rintro e V9 ⟨rfl, b⟩)
          clear q a0 a1 a2 b0 b1 b2
          have I1_ := Lib.hid (I1.out.below b); clear I1
          have I1 := I1_; clear I1_
          have X1_ := Lib.hid (Blk.below X1.out b); clear X1
          have X1 := X1_; clear X1_
          have I2_ := Lib.hid (I2.out.below b); clear I2
          have I2 := I2_; clear I2_
          have X2_ := Lib.hid (Blk.below X2.out b); clear X2
          have X2 := X2_; clear X2_
          have I3_ := Lib.hid (I3.out.below b); clear I3
          have I3 := I3_; clear I3_
          have X3_ := Lib.hid (Blk.below X3.out b); clear X3
          have X3 := X3_; clear X3_
          have X4_ := Lib.hid (Blk.below X4.out b); clear X4
          have X4 := X4_; clear X4_
          have I4_ := Lib.hid (I4.out.below b); clear I4
          have I4 := I4_; clear I4_
          have HB_ := Lib.hid (bch HB.out b); clear HB
          have HB := HB_; clear HB_
          clear b
          go_wp2_with fail
          go_ret
          exact ⟨rfl, HB.out⟩
      | false =>
        obtain ⟨hf1, hf2⟩ := gate_no HRC.out (fun h => by have := HAL.out.2 h; rewrite [hal] at this; cases this)
        have HFL := Lib.hid hf2
        have HFW := HCW; have HFR := HRC; have HFS := HSM
        have HE1 := Lib.hid hf1
        clear hf1 hf2 hal HAL
        have el : (c.level == 2) = false := by rw [HFL.out]; rfl
        have a0 := Blk.cell X1.out 0
        have a1 := Blk.cell X1.out 1
        have a2 := Blk.cell X1.out 2
        simp only [List.getElem?_toArray, List.getElem?_cons_zero, List.getElem?_cons_succ] at a0 a1 a2
        go_wp2_with fail
        have q := (kF c A1 B1 n1 c1 m1 d1  W2 (ctArg I1.out HCW.out HSM.out S1.out.1 S1.out.2) ).mono (fun e w' h => h.at HE1.out (lv := (c).level) rfl)
        ((with_reducible refine q.mono ?_); rintro e V3 ⟨A2, n2, c2, B2, m2, d2, rfl, h1, h2, ct, b⟩)
        clear q a0 a1 a2
        have I1_ := Lib.hid (I1.out.below b); clear I1
        have I1 := I1_; clear I1_
        have X1_ := Lib.hid (Blk.below X1.out b); clear X1
        have X1 := X1_; clear X1_
        have HB_ := Lib.hid (bch HB.out b); clear HB
        have HB := HB_; clear HB_
        clear b
        have I2 := Lib.hid ct
        have S2 : Hid (n2 ≤ c2 ∧ m2 ≤ d2) := ⟨h1, h2⟩
        clear h1 h2 ct
        go_upto_region 9 with fail
        have hba := ba9 V3 (ctB (c) A2 n2 c2 B2 m2 d2)
        have X2 := Lib.hid (Blk.new V3 (ctB (c) A2 n2 c2 B2 m2 d2))
        have I1_ := Lib.hid (I1.out.below hba); clear I1
        have I1 := I1_; clear I1_
        have X1_ := Lib.hid (Blk.below X1.out hba); clear X1
        have X1 := X1_; clear X1_
        have I2_ := Lib.hid (I2.out.below hba); clear I2
        have I2 := I2_; clear I2_
        have HB_ := Lib.hid (bch HB.out hba); clear HB
        have HB := HB_; clear HB_
        obtain ⟨W3, hW⟩ : ∃ X, V3.alloc (ctB (c) A2 n2 c2 B2 m2 d2) = X := ⟨_, rfl⟩
        rewrite [hW] at X2 HB I1 X1 I2
        rewrite [hW]
        clear hW hba
        generalize hg2 : V3.heap.size = g2 at *
        clear hg2
        have p0 := Blk.cell X1.out 0
        simp only [List.getElem?_toArray, List.getElem?_cons_zero, List.getElem?_cons_succ] at p0
        have r0 := Blk.cell X2.out 0
        simp only [List.getElem?_toArray, List.getElem?_cons_zero, List.getElem?_cons_succ] at r0
        have a0 := Blk.cell X2.out 0
        have a1 := Blk.cell X2.out 1
        have a2 := Blk.cell X2.out 2
        simp only [List.getElem?_toArray, List.getElem?_cons_zero, List.getElem?_cons_succ] at a0 a1 a2
        go_wp2_with fail
        have q := (by
          have q := kR c A2 B2 n2 c2 m2 d2 W3 (ctArg I2.out HFW.out HFS.out S2.out.1 S2.out.2)
          rewrite [show rightC c = true from decide_eq_true HFR.out] at q
          exact q)
        ((with_reducible refine q.mono ?_); rintro e V4 ⟨rfl, b⟩)
        clear q a0 a1 a2
        have I1_ := Lib.hid (I1.out.below b); clear I1
        have I1 := I1_; clear I1_
        have X1_ := Lib.hid (Blk.below X1.out b); clear X1
        have X1 := X1_; clear X1_
        have I2_ := Lib.hid (I2.out.below b); clear I2
        have I2 := I2_; clear I2_
        have X2_ := Lib.hid (Blk.below X2.out b); clear X2
        have X2 := X2_; clear X2_
        have HB_ := Lib.hid (bch HB.out b); clear HB
        have HB := HB_; clear HB_
        clear b
        clear p0 r0
        have qp : Hid (∀ W, Calls Try.prog 14 #[.int .i64 z, .int .i64 (n1 : Int)] W fun e w' => e = .returned (.int .i64 (pickN z (n1 : Int))) ∧ W = w') := fun W => pick_nat z (n1 : Int) (by omega) (by omega) wz W
        have hkx := pickN_lt z (n1 : Int) (by omega)
        generalize pickN z (n1 : Int) = k2 at *
        have hkk2 : k2 < n1 := by omega
        have HKk2 : Hid (k2 < c.mem.length) := by show _ < _; have := HN1.out; omega
        clear hkx
        obtain ⟨b, off, hA, hbb, y0, y1⟩ := is2_at I1.out.1 (atM9_get HKk2.out)
        subst hA
        have HBB := Lib.hid hbb; clear hbb
        have hpm : c.mem.getD k2 (0, 0) = atM9 c.mem k2 := rfl
        generalize atM9 c.mem k2 = pm at *
        obtain ⟨nm, nb⟩ := pm
        simp only at y0 y1
        have HPM := Lib.hid hpm; clear hpm
        go_upto_region 11 with fail
        refine wp_region_noPanic ?_
        refine wp_region_held_drew (S := (fun W_ => Blk W_ g1 (ctB c (some ⟨b, off, none⟩) n1 c1 B1 m1 d1) ∧ Below V4.heap.size V4 W_)) (by kernel_rfl) (⟨X1.out.drew, (Below.refl _ _).drew⟩) (fun hHeld => ?_)
        refine wpAnyH_take (i := 0) (v := ?_) rfl (by kernel_rfl) (by kernel_rfl) (by kernel_rfl) (fun _ _ _ h => h) (Or.inl ⟨by rfl, ?_⟩) (by assumption) ?_
        rotate_left
        · (intro w hSw; (try dsimp only at hSw); go_simp; (try with_reducible rfl))
        simp only [Act.put, List.getElem_toArray, List.getElem_cons_zero, List.setIfInBounds_toArray, List.set_cons_zero, List.set_cons_succ]
        refine wpAnyH_take (i := 1) (v := ?_) rfl (by kernel_rfl) (by kernel_rfl) (by kernel_rfl) (fun _ _ _ h => h) (Or.inl ⟨by rfl, ?_⟩) (by assumption) ?_
        rotate_left
        · (intro w hSw; (try dsimp only at hSw); (have v0 := Blk.cell hSw.1 1); simp only [List.getElem?_toArray, List.getElem?_cons_zero, List.getElem?_cons_succ] at v0; go_simp; (try with_reducible rfl))
        simp only [Act.put, List.getElem_toArray, List.getElem_cons_zero, List.getElem_cons_succ, List.setIfInBounds_toArray, List.set_cons_zero, List.set_cons_succ]
        refine wpAnyH_take (i := 2) (v := ?_) rfl (by kernel_rfl) (by kernel_rfl) (by kernel_rfl) (fun _ _ _ h => h) (Or.inl ⟨by rfl, ?_⟩) (by assumption) ?_
        rotate_left
        · (intro w hSw; (try dsimp only at hSw); go_simp; (try with_reducible rfl))
        simp only [Act.put, List.getElem_toArray, List.getElem_cons_zero, List.getElem_cons_succ, List.setIfInBounds_toArray, List.set_cons_zero, List.set_cons_succ]
        refine wpAnyH_take (i := 3) (v := ?_) rfl (by kernel_rfl) (by kernel_rfl) (by kernel_rfl) (fun _ _ _ h => h) (Or.inl ⟨by rfl, ?_⟩) (by assumption) ?_
        rotate_left
        · (intro w hSw; (try dsimp only at hSw); go_simp; (try with_reducible rfl))
        simp only [Act.put, List.getElem_toArray, List.getElem_cons_zero, List.getElem_cons_succ, List.setIfInBounds_toArray, List.set_cons_zero, List.set_cons_succ]
        refine wpAnyH_take (i := 4) (v := ?_) rfl (by kernel_rfl) (by kernel_rfl) (by kernel_rfl) (fun _ _ _ h => h) (Or.inl ⟨by rfl, ?_⟩) (by assumption) ?_
        rotate_left
        · (intro w hSw; (try dsimp only at hSw); (have v0 := Blk.cell hSw.1 1); simp only [List.getElem?_toArray, List.getElem?_cons_zero, List.getElem?_cons_succ] at v0; go_simp; (try with_reducible rfl))
        simp only [Act.put, List.getElem_toArray, List.getElem_cons_zero, List.getElem_cons_succ, List.setIfInBounds_toArray, List.set_cons_zero, List.set_cons_succ]
        refine wpAnyH_take (i := 5) (v := ?_) rfl (by kernel_rfl) (by kernel_rfl) (by kernel_rfl) (fun _ _ _ h => h) (Or.inl ⟨by rfl, ?_⟩) (by assumption) ?_
        rotate_left
        · (intro w hSw; (try dsimp only at hSw); go_simp; (try with_reducible rfl))
        simp only [Act.put, List.getElem_toArray, List.getElem_cons_zero, List.getElem_cons_succ, List.setIfInBounds_toArray, List.set_cons_zero, List.set_cons_succ]
        refine wpAnyH_ready (rs := [6]) (by kernel_rfl) (by simp) ?_
        refine AllReadyH.cons rfl (fun K hK => ?_) AllReadyH.nil
        rw [if_pos (by rfl)]
        go_simp
        ((with_reducible refine (qp.out _).mono ?_); rintro e Wp ⟨rfl, rfl⟩)
        refine hK.out _ _ (hHeld) (fun hHeld2 => ?_)
        clear hK K hHeld
        have hHeld := hHeld2; clear hHeld2
        refine wpAnyH_take (i := 7) (v := ?_) rfl (by kernel_rfl) (by kernel_rfl) (by kernel_rfl) (fun _ _ _ h => h) (Or.inl ⟨by rfl, ?_⟩) (by assumption) ?_
        rotate_left
        · (intro w hSw; (try dsimp only at hSw); go_simp; (try with_reducible rfl))
        simp only [Act.put, List.getElem_toArray, List.getElem_cons_zero, List.getElem_cons_succ, List.setIfInBounds_toArray, List.set_cons_zero, List.set_cons_succ]
        refine wpAnyH_take (i := 8) (v := ?_) rfl (by kernel_rfl) (by kernel_rfl) (by kernel_rfl) (fun _ _ _ h => h) (Or.inl ⟨by rfl, ?_⟩) (by assumption) ?_
        rotate_left
        · (intro w hSw; (try dsimp only at hSw); go_simp; (try with_reducible rfl))
        simp only [Act.put, List.getElem_toArray, List.getElem_cons_zero, List.getElem_cons_succ, List.setIfInBounds_toArray, List.set_cons_zero, List.set_cons_succ]
        refine wpAnyH_take (i := 9) (v := ?_) rfl (by kernel_rfl) (by kernel_rfl) (by kernel_rfl) (fun _ _ _ h => h) (Or.inl ⟨by rfl, ?_⟩) (by assumption) ?_
        rotate_left
        · (intro w hSw; (try dsimp only at hSw); (have v0 := (hSw.2.cell (p := ⟨b, off + k2 * 2, none⟩) HBB.out).trans y0); go_simp; (try with_reducible rfl))
        simp only [Act.put, List.getElem_toArray, List.getElem_cons_zero, List.getElem_cons_succ, List.setIfInBounds_toArray, List.set_cons_zero, List.set_cons_succ]
        refine wpAnyH_take (i := 10) (v := ?_) rfl (by kernel_rfl) (by kernel_rfl) (by kernel_rfl) (fun _ _ _ h => h) (Or.inl ⟨by rfl, ?_⟩) (by assumption) ?_
        rotate_left
        · (intro w hSw; (try dsimp only at hSw); go_simp; (try with_reducible rfl))
        simp only [Act.put, List.getElem_toArray, List.getElem_cons_zero, List.getElem_cons_succ, List.setIfInBounds_toArray, List.set_cons_zero, List.set_cons_succ]
        refine wpAnyH_done (by kernel_rfl) ?_ _
        refine NoPanic.normal ?_
        have hd9 := (Below.refl V4.heap.size V4).drew
        have I1_ := Lib.hid (I1.out.below hd9); clear I1
        have I1 := I1_; clear I1_
        have X1_ := Lib.hid (Blk.below X1.out hd9); clear X1
        have X1 := X1_; clear X1_
        have I2_ := Lib.hid (I2.out.below hd9); clear I2
        have I2 := I2_; clear I2_
        have X2_ := Lib.hid (Blk.below X2.out hd9); clear X2
        have X2 := X2_; clear X2_
        have HB_ := Lib.hid (bch HB.out hd9); clear HB
        have HB := HB_; clear HB_
        clear hd9 y0 y1 qp
        obtain ⟨W5, hW⟩ : ∃ X, X = V4.drew := ⟨_, rfl⟩
        rewrite [← hW] at HB I1 X1 I2 X2
        rewrite [← hW]
        clear hW
        obtain ⟨ca, hca⟩ : ∃ ca : CtR, ca = ⟨c.level, c.mem.set k2 (nm, 1), c.pl⟩ := ⟨_, rfl⟩
        have hep : reportC c nm 1 = (ca, 0) := by
          have h := report_at HRC.out HKk2.out (b := 1) (.inl rfl) (by rw [HFL.out]; rfl)
          rewrite [HPM.out] at h
          rw [hca]; exact h
        have hwm : (Lit.int .i64 nm).wf = true := by have h := HCW.out.2.1 _ (getD_mem HKk2.out); rewrite [HPM.out] at h; exact h.1
        have HCA : Hid (RightC ca ∧ CtW ca) := by
          have h := report_right (x := nm) (b := 1) HRC.out
          have h2 := CtW.report (x := nm) (b := 1) HCW.out hwm (wf_i (by decide) (by decide))
          rewrite [hep] at h h2
          exact ⟨h, h2⟩
        have HCS : Hid (ca.mem.length ≤ 20 ∧ ca.pl.length ≤ 20) := by have h := HCA.out.1.small; exact ⟨by omega, by omega⟩
        have HEP := Lib.hid hep
        clear hep hca
        have a0 := Blk.cell X2.out 0
        have a1 := Blk.cell X2.out 1
        have a2 := Blk.cell X2.out 2
        simp only [List.getElem?_toArray, List.getElem?_cons_zero, List.getElem?_cons_succ] at a0 a1 a2
        go_wp2_with fail
        have q := (kP c A2 B2 n2 c2 m2 d2 nm 1 W5 (ctArg I2.out HCW.out HSM.out S2.out.1 S2.out.2) hwm (wf_i (t := 1) (by decide) (by decide))).mono (fun e w' h => h.at HEP.out (lv := (ca).level) rfl)
        ((with_reducible refine q.mono ?_); rintro e V6 ⟨A3, n3, c3, B3, m3, d3, rfl, h1, h2, ct, b⟩)
        clear q a0 a1 a2
        have I1_ := Lib.hid (I1.out.below b); clear I1
        have I1 := I1_; clear I1_
        have X1_ := Lib.hid (Blk.below X1.out b); clear X1
        have X1 := X1_; clear X1_
        have I2_ := Lib.hid (I2.out.below b); clear I2
        have I2 := I2_; clear I2_
        have X2_ := Lib.hid (Blk.below X2.out b); clear X2
        have X2 := X2_; clear X2_
        have HB_ := Lib.hid (bch HB.out b); clear HB
        have HB := HB_; clear HB_
        clear b
        have I3 := Lib.hid ct
        have S3 : Hid (n3 ≤ c3 ∧ m3 ≤ d3) := ⟨h1, h2⟩
        clear h1 h2 ct
        go_upto_region 13 with fail
        have hba := ba9 V6 (ctB (ca) A3 n3 c3 B3 m3 d3)
        have X3 := Lib.hid (Blk.new V6 (ctB (ca) A3 n3 c3 B3 m3 d3))
        have I1_ := Lib.hid (I1.out.below hba); clear I1
        have I1 := I1_; clear I1_
        have X1_ := Lib.hid (Blk.below X1.out hba); clear X1
        have X1 := X1_; clear X1_
        have I2_ := Lib.hid (I2.out.below hba); clear I2
        have I2 := I2_; clear I2_
        have X2_ := Lib.hid (Blk.below X2.out hba); clear X2
        have X2 := X2_; clear X2_
        have I3_ := Lib.hid (I3.out.below hba); clear I3
        have I3 := I3_; clear I3_
        have HB_ := Lib.hid (bch HB.out hba); clear HB
        have HB := HB_; clear HB_
        obtain ⟨W6, hW⟩ : ∃ X, V6.alloc (ctB (ca) A3 n3 c3 B3 m3 d3) = X := ⟨_, rfl⟩
        rewrite [hW] at X3 HB I1 X1 I2 X2 I3
        rewrite [hW]
        clear hW hba
        generalize hg3 : V6.heap.size = g3 at *
        clear hg3
        have hjn := join_new HRC.out (x := 50 + (jq : Int)) (b := 1) (by omega) (by have := HJQ.out; omega) HFA.out (.inl rfl) (by rw [HFL.out]; rfl)
        have HJN := Lib.hid hjn
        clear hjn
        by_cases h8 : 8 ≤ c.mem.length
        · have HEJ : Hid (joinC c (50 + (jq : Int)) 1 = (c, 50)) := by show _ = _; rw [HJN.out, if_pos h8]
          have e8 : ((n1 : Int) == 8) = true := by have := HN1.out; simp; omega
          have e8n : (n1 == 8) = true := by have := HN1.out; simp; omega
          clear h8 HJN
          have HQ : Hid (∀ W_, Below W6.heap.size W6 W_ → Calls Try.prog 22 #[ctV c A2 n2 c2 B2 m2 d2, .int .i64 (50 + (jq : Int)), .int .i64 1] W_ fun e w' => ∃ A_ n_ cap_ B_ m_ cm_, e = .returned (.tuple #[.agg #[.int .i64 (c).level, .slice A_ n_ cap_, .slice B_ m_ cm_], .int .i64 50]) ∧ n_ ≤ cap_ ∧ m_ ≤ cm_ ∧ IsCt w' (c) A_ n_ B_ m_ ∧ Below W_.heap.size W_ w') := fun W_ hb_ =>
            (kJ c A2 B2 n2 c2 m2 d2 (50 + (jq : Int)) 1 W_ (ctArg (I2.out.below hb_) HCW.out HSM.out S2.out.1 S2.out.2) (wf_i (by omega) (by have := HJQ.out; omega)) (wf_i (t := 1) (by decide) (by decide))).mono (fun e w' h => h.at HEJ.out (lv := (c).level) rfl)
          have hwj : IntKind.i64.wrap (50 + (jq : Int)) = 50 + (jq : Int) := IntWalk.i64_in _ (by have := HJQ.out; omega)
          have HGW : Hid (g2 ≠ W6.heap.size) := by show _ ≠ _; have := Blk.lt X2.out; omega
          go_cut [18, 19] (fun p e wx => CtIn W6 wx p e (c, 50))
          case first =>
            refine wp_region_noPanic ?_
            refine wp_region_held_drew (S := (fun W_ => Blk W_ g2 (ctB c A2 n2 c2 B2 m2 d2) ∧ Below W6.heap.size W6 W_)) (by kernel_rfl) (⟨X2.out.drew, (Below.refl _ _).drew⟩) (fun hHeld => ?_)
            refine wpAnyH_take (i := 0) (v := ?_) rfl (by kernel_rfl) (by kernel_rfl) (by kernel_rfl) (fun _ _ _ h => h) (Or.inl ⟨by rfl, ?_⟩) (by assumption) ?_
            rotate_left
            · (intro w hSw; (try dsimp only at hSw); (have v0 := Blk.cell hSw.1 0); (have v1 := Blk.cell hSw.1 1); (have v2 := Blk.cell hSw.1 2); simp only [List.getElem?_toArray, List.getElem?_cons_zero, List.getElem?_cons_succ] at v0 v1 v2; go_simp; (try with_reducible rfl))
            simp only [Act.put, List.getElem_toArray, List.getElem_cons_zero, List.setIfInBounds_toArray, List.set_cons_zero, List.set_cons_succ]
            refine wpAnyH_take (i := 1) (v := ?_) rfl (by kernel_rfl) (by kernel_rfl) (by kernel_rfl) (fun _ _ _ h => h) (Or.inl ⟨by rfl, ?_⟩) (by assumption) ?_
            rotate_left
            · (intro w hSw; (try dsimp only at hSw); go_simp; (try with_reducible rfl))
            simp only [Act.put, List.getElem_toArray, List.getElem_cons_zero, List.getElem_cons_succ, List.setIfInBounds_toArray, List.set_cons_zero, List.set_cons_succ]
            refine wpAnyH_ready (rs := [2, 8]) (by kernel_rfl) (by simp) ?_
            refine AllReadyH.cons rfl (fun K hK => ?_) ?_
            · rw [if_pos (by rfl)]
              go_simp
              ((with_reducible refine (qj.out _).mono ?_); rintro e Wp ⟨rfl, rfl⟩)
              refine hK.out _ _ (hHeld) (fun hHeld2 => ?_)
              clear hK K hHeld
              have hHeld := hHeld2; clear hHeld2
              refine wpAnyH_take (i := 3) (v := ?_) rfl (by kernel_rfl) (by kernel_rfl) (by kernel_rfl) (fun _ _ _ h => h) (Or.inl ⟨by rfl, ?_⟩) (by assumption) ?_
              rotate_left
              · (intro w hSw; (try dsimp only at hSw); go_simp; (try with_reducible rfl))
              simp only [Act.put, List.getElem_toArray, List.getElem_cons_zero, List.getElem_cons_succ, List.setIfInBounds_toArray, List.set_cons_zero, List.set_cons_succ]
              refine wpAnyH_ready (rs := [4, 8]) (by kernel_rfl) (by simp) ?_
              refine AllReadyH.cons rfl (fun K hK => ?_) ?_
              · rw [if_pos (by rfl)]
                go_simp
                ((with_reducible refine (HQ.out _ hHeld.2).mono ?_); rintro e Vj ⟨Aj, nj, cj, Bj, mj, dj, rfl, hj1, hj2, ctj, bj⟩)
                have hbj := bch hHeld.2 bj
                refine hK.out _ _ (⟨Blk.below hHeld.1 bj, bch hHeld.2 bj⟩) (fun hHeld2 => ?_)
                clear hK K hHeld
                have hHeld := hHeld2; clear hHeld2
                refine wpAnyH_take (i := 5) (v := ?_) rfl (by kernel_rfl) (by kernel_rfl) (by kernel_rfl) (fun _ _ _ h => h) (Or.inl ⟨by rfl, ?_⟩) (by assumption) ?_
                rotate_left
                · (intro w hSw; (try dsimp only at hSw); go_simp; (try with_reducible rfl))
                simp only [Act.put, List.getElem_toArray, List.getElem_cons_zero, List.getElem_cons_succ, List.setIfInBounds_toArray, List.set_cons_zero, List.set_cons_succ]
                refine wpAnyH_take (i := 6) (v := ?_) rfl (by kernel_rfl) (by kernel_rfl) (by kernel_rfl) (fun _ _ _ h => h) (Or.inl ⟨by rfl, ?_⟩) (by assumption) ?_
                rotate_left
                · (intro w hSw; (try dsimp only at hSw); go_simp; (try with_reducible rfl))
                simp only [Act.put, List.getElem_toArray, List.getElem_cons_zero, List.getElem_cons_succ, List.setIfInBounds_toArray, List.set_cons_zero, List.set_cons_succ]
                refine wpAnyH_take (i := 7) (v := ?_) rfl (by kernel_rfl) (by kernel_rfl) (by kernel_rfl) (fun _ _ _ h => h) (Or.inl ⟨by rfl, ?_⟩) (by assumption) ?_
                rotate_left
                · (intro w hSw; (try dsimp only at hSw); go_simp; (try with_reducible rfl))
                simp only [Act.put, List.getElem_toArray, List.getElem_cons_zero, List.getElem_cons_succ, List.setIfInBounds_toArray, List.set_cons_zero, List.set_cons_succ]
                have hHJ := hHeld
                refine wpAnyH_ready (rs := [8]) (by kernel_rfl) (by simp) ?_
                refine AllReadyH.cons rfl (fun K hK => ?_) AllReadyH.nil
                rw [if_pos (by rfl)]
                go_simp
                refine hK.out _ _ (⟨Blk.below hHeld.1 (ba9 _ _), hHeld.2.alloc hHeld.2.size _⟩) (fun hHeld2 => ?_)
                clear hK K hHeld
                have hHeld := hHeld2; clear hHeld2
                refine wpAnyH_ready (rs := [9]) (by kernel_rfl) (by simp) ?_
                refine AllReadyH.cons rfl (fun K hK => ?_) AllReadyH.nil
                rw [if_pos (by rfl)]
                go_simp
                refine hK.out _ _ (⟨Blk.below hHJ.1 (ba9 _ _), bch hHJ.2 (ba9 _ _)⟩) (fun hHeld2 => ?_)
                clear hK K hHeld
                have hHeld := hHeld2; clear hHeld2
                refine wpAnyH_take (i := 10) (v := ?_) rfl (by kernel_rfl) (by kernel_rfl) (by kernel_rfl) (fun _ _ _ h => h) (Or.inl ⟨by rfl, ?_⟩) (by assumption) ?_
                rotate_left
                · (intro w hSw; (try dsimp only at hSw); go_simp; (try with_reducible rfl))
                simp only [Act.put, List.getElem_toArray, List.getElem_cons_zero, List.getElem_cons_succ, List.setIfInBounds_toArray, List.set_cons_zero, List.set_cons_succ]
                refine wpAnyH_done (by kernel_rfl) ?_ _
                refine NoPanic.normal ?_
                go_wp2_with fail
                go_meet
                exact ctIn_new ctj hj1 hj2 hbj
              refine AllReadyH.cons rfl (fun K hK => ?_) ?_
              · rw [if_pos (by rfl)]
                go_simp
                have hz : Blk (W6.drew.alloc (.cells #[.int .i64 0, .slice none 0 0, .slice none 0 0] 26)) W6.heap.size (.cells #[.int .i64 0, .slice none 0 0, .slice none 0 0] 26) := Blk.new W6.drew (.cells #[.int .i64 0, .slice none 0 0, .slice none 0 0] 26)
                refine hK.out _ _ (⟨Blk.below hHeld.1 (ba9 _ _), hHeld.2.alloc hHeld.2.size _⟩) (fun hHeld2 => ?_)
                clear hK K hHeld
                have hHeld := hHeld2; clear hHeld2
                refine wpAnyH_ready (rs := [4]) (by kernel_rfl) (by simp) ?_
                refine AllReadyH.cons rfl (fun K hK => ?_) AllReadyH.nil
                rw [if_pos (by rfl)]
                go_simp
                ((with_reducible refine (HQ.out _ hHeld.2).mono ?_); rintro e Vj ⟨Aj, nj, cj, Bj, mj, dj, rfl, hj1, hj2, ctj, bj⟩)
                have hbj := bch hHeld.2 bj
                have hz2 := Blk.below hz bj
                refine hK.out _ _ (⟨Blk.below hHeld.1 bj, bch hHeld.2 bj⟩) (fun hHeld2 => ?_)
                clear hK K hHeld
                have hHeld := hHeld2; clear hHeld2
                refine wpAnyH_take (i := 5) (v := ?_) rfl (by kernel_rfl) (by kernel_rfl) (by kernel_rfl) (fun _ _ _ h => h) (Or.inl ⟨by rfl, ?_⟩) (by assumption) ?_
                rotate_left
                · (intro w hSw; (try dsimp only at hSw); go_simp; (try with_reducible rfl))
                simp only [Act.put, List.getElem_toArray, List.getElem_cons_zero, List.getElem_cons_succ, List.setIfInBounds_toArray, List.set_cons_zero, List.set_cons_succ]
                refine wpAnyH_take (i := 6) (v := ?_) rfl (by kernel_rfl) (by kernel_rfl) (by kernel_rfl) (fun _ _ _ h => h) (Or.inl ⟨by rfl, ?_⟩) (by assumption) ?_
                rotate_left
                · (intro w hSw; (try dsimp only at hSw); go_simp; (try with_reducible rfl))
                simp only [Act.put, List.getElem_toArray, List.getElem_cons_zero, List.getElem_cons_succ, List.setIfInBounds_toArray, List.set_cons_zero, List.set_cons_succ]
                refine wpAnyH_take (i := 7) (v := ?_) rfl (by kernel_rfl) (by kernel_rfl) (by kernel_rfl) (fun _ _ _ h => h) (Or.inl ⟨by rfl, ?_⟩) (by assumption) ?_
                rotate_left
                · (intro w hSw; (try dsimp only at hSw); go_simp; (try with_reducible rfl))
                simp only [Act.put, List.getElem_toArray, List.getElem_cons_zero, List.getElem_cons_succ, List.setIfInBounds_toArray, List.set_cons_zero, List.set_cons_succ]
                have y0 := Blk.cell hz2 0
                have y1 := Blk.cell hz2 1
                have y2 := Blk.cell hz2 2
                simp only [List.getElem?_toArray, List.getElem?_cons_zero, List.getElem?_cons_succ] at y0 y1 y2
                have f0 := Blk.frozen hz2 0
                have f1 := Blk.frozen hz2 1
                have f2 := Blk.frozen hz2 2
                refine wpAnyH_ready (rs := [9]) (by kernel_rfl) (by simp) ?_
                refine AllReadyH.cons rfl (fun K hK => ?_) AllReadyH.nil
                rw [if_pos (by rfl)]
                go_simp
                refine hK.out _ _ (⟨blk_put3 hHeld.1 HGW.out _ _ _, below_put3 hHeld.2 (Nat.le_refl _) _ _ _⟩) (fun hHeld2 => ?_)
                clear hK K hHeld
                have hHeld := hHeld2; clear hHeld2
                refine wpAnyH_take (i := 10) (v := ?_) rfl (by kernel_rfl) (by kernel_rfl) (by kernel_rfl) (fun _ _ _ h => h) (Or.inl ⟨by rfl, ?_⟩) (by assumption) ?_
                rotate_left
                · (intro w hSw; (try dsimp only at hSw); go_simp; (try with_reducible rfl))
                simp only [Act.put, List.getElem_toArray, List.getElem_cons_zero, List.getElem_cons_succ, List.setIfInBounds_toArray, List.set_cons_zero, List.set_cons_succ]
                refine wpAnyH_done (by kernel_rfl) ?_ _
                refine NoPanic.normal ?_
                go_wp2_with fail
                go_meet
                exact ctIn_put (c := zeroC) hz2 ctj hj1 hj2 hbj (Nat.le_refl _)
              exact AllReadyH.nil
            refine AllReadyH.cons rfl (fun K hK => ?_) ?_
            · rw [if_pos (by rfl)]
              go_simp
              have hz : Blk (W6.drew.alloc (.cells #[.int .i64 0, .slice none 0 0, .slice none 0 0] 26)) W6.heap.size (.cells #[.int .i64 0, .slice none 0 0, .slice none 0 0] 26) := Blk.new W6.drew (.cells #[.int .i64 0, .slice none 0 0, .slice none 0 0] 26)
              refine hK.out _ _ (⟨Blk.below hHeld.1 (ba9 _ _), hHeld.2.alloc hHeld.2.size _⟩) (fun hHeld2 => ?_)
              clear hK K hHeld
              have hHeld := hHeld2; clear hHeld2
              refine wpAnyH_ready (rs := [2]) (by kernel_rfl) (by simp) ?_
              refine AllReadyH.cons rfl (fun K hK => ?_) AllReadyH.nil
              rw [if_pos (by rfl)]
              go_simp
              ((with_reducible refine (qj.out _).mono ?_); rintro e Wp ⟨rfl, rfl⟩)
              refine hK.out _ _ (hHeld) (fun hHeld2 => ?_)
              clear hK K hHeld
              have hHeld := hHeld2; clear hHeld2
              refine wpAnyH_take (i := 3) (v := ?_) rfl (by kernel_rfl) (by kernel_rfl) (by kernel_rfl) (fun _ _ _ h => h) (Or.inl ⟨by rfl, ?_⟩) (by assumption) ?_
              rotate_left
              · (intro w hSw; (try dsimp only at hSw); go_simp; (try with_reducible rfl))
              simp only [Act.put, List.getElem_toArray, List.getElem_cons_zero, List.getElem_cons_succ, List.setIfInBounds_toArray, List.set_cons_zero, List.set_cons_succ]
              refine wpAnyH_ready (rs := [4]) (by kernel_rfl) (by simp) ?_
              refine AllReadyH.cons rfl (fun K hK => ?_) AllReadyH.nil
              rw [if_pos (by rfl)]
              go_simp
              ((with_reducible refine (HQ.out _ hHeld.2).mono ?_); rintro e Vj ⟨Aj, nj, cj, Bj, mj, dj, rfl, hj1, hj2, ctj, bj⟩)
              have hbj := bch hHeld.2 bj
              have hz2 := Blk.below hz bj
              refine hK.out _ _ (⟨Blk.below hHeld.1 bj, bch hHeld.2 bj⟩) (fun hHeld2 => ?_)
              clear hK K hHeld
              have hHeld := hHeld2; clear hHeld2
              refine wpAnyH_take (i := 5) (v := ?_) rfl (by kernel_rfl) (by kernel_rfl) (by kernel_rfl) (fun _ _ _ h => h) (Or.inl ⟨by rfl, ?_⟩) (by assumption) ?_
              rotate_left
              · (intro w hSw; (try dsimp only at hSw); go_simp; (try with_reducible rfl))
              simp only [Act.put, List.getElem_toArray, List.getElem_cons_zero, List.getElem_cons_succ, List.setIfInBounds_toArray, List.set_cons_zero, List.set_cons_succ]
              refine wpAnyH_take (i := 6) (v := ?_) rfl (by kernel_rfl) (by kernel_rfl) (by kernel_rfl) (fun _ _ _ h => h) (Or.inl ⟨by rfl, ?_⟩) (by assumption) ?_
              rotate_left
              · (intro w hSw; (try dsimp only at hSw); go_simp; (try with_reducible rfl))
              simp only [Act.put, List.getElem_toArray, List.getElem_cons_zero, List.getElem_cons_succ, List.setIfInBounds_toArray, List.set_cons_zero, List.set_cons_succ]
              refine wpAnyH_take (i := 7) (v := ?_) rfl (by kernel_rfl) (by kernel_rfl) (by kernel_rfl) (fun _ _ _ h => h) (Or.inl ⟨by rfl, ?_⟩) (by assumption) ?_
              rotate_left
              · (intro w hSw; (try dsimp only at hSw); go_simp; (try with_reducible rfl))
              simp only [Act.put, List.getElem_toArray, List.getElem_cons_zero, List.getElem_cons_succ, List.setIfInBounds_toArray, List.set_cons_zero, List.set_cons_succ]
              have y0 := Blk.cell hz2 0
              have y1 := Blk.cell hz2 1
              have y2 := Blk.cell hz2 2
              simp only [List.getElem?_toArray, List.getElem?_cons_zero, List.getElem?_cons_succ] at y0 y1 y2
              have f0 := Blk.frozen hz2 0
              have f1 := Blk.frozen hz2 1
              have f2 := Blk.frozen hz2 2
              refine wpAnyH_ready (rs := [9]) (by kernel_rfl) (by simp) ?_
              refine AllReadyH.cons rfl (fun K hK => ?_) AllReadyH.nil
              rw [if_pos (by rfl)]
              go_simp
              refine hK.out _ _ (⟨blk_put3 hHeld.1 HGW.out _ _ _, below_put3 hHeld.2 (Nat.le_refl _) _ _ _⟩) (fun hHeld2 => ?_)
              clear hK K hHeld
              have hHeld := hHeld2; clear hHeld2
              refine wpAnyH_take (i := 10) (v := ?_) rfl (by kernel_rfl) (by kernel_rfl) (by kernel_rfl) (fun _ _ _ h => h) (Or.inl ⟨by rfl, ?_⟩) (by assumption) ?_
              rotate_left
              · (intro w hSw; (try dsimp only at hSw); go_simp; (try with_reducible rfl))
              simp only [Act.put, List.getElem_toArray, List.getElem_cons_zero, List.getElem_cons_succ, List.setIfInBounds_toArray, List.set_cons_zero, List.set_cons_succ]
              refine wpAnyH_done (by kernel_rfl) ?_ _
              refine NoPanic.normal ?_
              go_wp2_with fail
              go_meet
              exact ctIn_put (c := zeroC) hz2 ctj hj1 hj2 hbj (Nat.le_refl _)
            exact AllReadyH.nil
          case rest =>
            obtain ⟨g4, A4, n4, c4, B4, m4, d4, rfl, rfl, hX, ct, h1, h2, b_⟩ := hcut
            have I1_ := Lib.hid (I1.out.below b_); clear I1
            have I1 := I1_; clear I1_
            have X1_ := Lib.hid (Blk.below X1.out b_); clear X1
            have X1 := X1_; clear X1_
            have I2_ := Lib.hid (I2.out.below b_); clear I2
            have I2 := I2_; clear I2_
            have X2_ := Lib.hid (Blk.below X2.out b_); clear X2
            have X2 := X2_; clear X2_
            have I3_ := Lib.hid (I3.out.below b_); clear I3
            have I3 := I3_; clear I3_
            have X3_ := Lib.hid (Blk.below X3.out b_); clear X3
            have X3 := X3_; clear X3_
            have HB_ := Lib.hid (bch HB.out b_); clear HB
            have HB := HB_; clear HB_
            have X4 := Lib.hid hX; clear hX
            have I4 := Lib.hid ct; clear ct
            have S4 : Hid (n4 ≤ c4 ∧ m4 ≤ d4) := ⟨h1, h2⟩
            clear h1 h2 b_ HQ HGW hwj
            obtain ⟨W7, hW⟩ : ∃ X, X = wc := ⟨_, rfl⟩
            rewrite [← hW] at HB I1 X1 I2 X2 I3 X3 X4 I4
            rewrite [← hW]
            clear hW
            have r0 := Blk.cell X2.out 0
            simp only [List.getElem?_toArray, List.getElem?_cons_zero, List.getElem?_cons_succ] at r0
            have a0 := Blk.cell X3.out 0
            have a1 := Blk.cell X3.out 1
            have a2 := Blk.cell X3.out 2
            simp only [List.getElem?_toArray, List.getElem?_cons_zero, List.getElem?_cons_succ] at a0 a1 a2
            have b0 := Blk.cell X1.out 0
            have b1 := Blk.cell X1.out 1
            have b2 := Blk.cell X1.out 2
            simp only [List.getElem?_toArray, List.getElem?_cons_zero, List.getElem?_cons_succ] at b0 b1 b2
            go_wp2_with fail
            have q := (by
              have q := kR ca A3 B3 n3 c3 m3 d3 W7 (ctArg I3.out HCA.out.2 HCS.out S3.out.1 S3.out.2)
              rewrite [show rightC ca = true from decide_eq_true HCA.out.1] at q
              exact q)
            ((with_reducible refine q.mono ?_); rintro e V8 ⟨rfl, b⟩)
            clear q a0 a1 a2 b0 b1 b2
            have I1_ := Lib.hid (I1.out.below b); clear I1
            have I1 := I1_; clear I1_
            have X1_ := Lib.hid (Blk.below X1.out b); clear X1
            have X1 := X1_; clear X1_
            have I2_ := Lib.hid (I2.out.below b); clear I2
            have I2 := I2_; clear I2_
            have X2_ := Lib.hid (Blk.below X2.out b); clear X2
            have X2 := X2_; clear X2_
            have I3_ := Lib.hid (I3.out.below b); clear I3
            have I3 := I3_; clear I3_
            have X3_ := Lib.hid (Blk.below X3.out b); clear X3
            have X3 := X3_; clear X3_
            have X4_ := Lib.hid (Blk.below X4.out b); clear X4
            have X4 := X4_; clear X4_
            have I4_ := Lib.hid (I4.out.below b); clear I4
            have I4 := I4_; clear I4_
            have HB_ := Lib.hid (bch HB.out b); clear HB
            have HB := HB_; clear HB_
            clear b
            have a0 := Blk.cell X4.out 0
            have a1 := Blk.cell X4.out 1
            have a2 := Blk.cell X4.out 2
            simp only [List.getElem?_toArray, List.getElem?_cons_zero, List.getElem?_cons_succ] at a0 a1 a2
            go_wp2_with fail
            have q := (by
              have q := kR c A4 B4 n4 c4 m4 d4 V8 (ctArg I4.out HCW.out HSM.out S4.out.1 S4.out.2)
              rewrite [show rightC c = true from decide_eq_true HRC.out] at q
              exact q)
            ((with_reducible refine q.mono ?_); rintro e V9 ⟨rfl, b⟩)
            clear q a0 a1 a2
            have I1_ := Lib.hid (I1.out.below b); clear I1
            have I1 := I1_; clear I1_
            have X1_ := Lib.hid (Blk.below X1.out b); clear X1
            have X1 := X1_; clear X1_
            have I2_ := Lib.hid (I2.out.below b); clear I2
            have I2 := I2_; clear I2_
            have X2_ := Lib.hid (Blk.below X2.out b); clear X2
            have X2 := X2_; clear X2_
            have I3_ := Lib.hid (I3.out.below b); clear I3
            have I3 := I3_; clear I3_
            have X3_ := Lib.hid (Blk.below X3.out b); clear X3
            have X3 := X3_; clear X3_
            have X4_ := Lib.hid (Blk.below X4.out b); clear X4
            have X4 := X4_; clear X4_
            have I4_ := Lib.hid (I4.out.below b); clear I4
            have I4 := I4_; clear I4_
            have HB_ := Lib.hid (bch HB.out b); clear HB
            have HB := HB_; clear HB_
            clear b
            go_wp2_with fail
            go_ret
            exact ⟨rfl, HB.out⟩
        · obtain ⟨cj, hcj⟩ : ∃ cj : CtR, cj = ⟨c.level, insM c.mem (50 + (jq : Int), 1), c.pl⟩ := ⟨_, rfl⟩
          have hej : joinC c (50 + (jq : Int)) 1 = (cj, 0) := by rw [HJN.out, if_neg h8, hcj]
          have HCJ : Hid (RightC cj ∧ CtW cj) := by
            have h := join_right (x := 50 + (jq : Int)) (b := 1) HRC.out
            have h2 := CtW.join (x := 50 + (jq : Int)) (b := 1) HCW.out (wf_i (by omega) (by have := HJQ.out; omega)) (wf_i (by decide) (by decide))
            rewrite [hej] at h h2
            exact ⟨h, h2⟩
          have HJS : Hid (cj.mem.length ≤ 20 ∧ cj.pl.length ≤ 20) := by have h := HCJ.out.1.small; exact ⟨by omega, by omega⟩
          have HEJ := Lib.hid hej
          clear hej hcj h8 HJN
          have HQ : Hid (∀ W_, Below W6.heap.size W6 W_ → Calls Try.prog 22 #[ctV c A2 n2 c2 B2 m2 d2, .int .i64 (50 + (jq : Int)), .int .i64 1] W_ fun e w' => ∃ A_ n_ cap_ B_ m_ cm_, e = .returned (.tuple #[.agg #[.int .i64 (cj).level, .slice A_ n_ cap_, .slice B_ m_ cm_], .int .i64 0]) ∧ n_ ≤ cap_ ∧ m_ ≤ cm_ ∧ IsCt w' (cj) A_ n_ B_ m_ ∧ Below W_.heap.size W_ w') := fun W_ hb_ =>
            (kJ c A2 B2 n2 c2 m2 d2 (50 + (jq : Int)) 1 W_ (ctArg (I2.out.below hb_) HCW.out HSM.out S2.out.1 S2.out.2) (wf_i (by omega) (by have := HJQ.out; omega)) (wf_i (t := 1) (by decide) (by decide))).mono (fun e w' h => h.at HEJ.out (lv := (cj).level) rfl)
          have hwj : IntKind.i64.wrap (50 + (jq : Int)) = 50 + (jq : Int) := IntWalk.i64_in _ (by have := HJQ.out; omega)
          have HGW : Hid (g2 ≠ W6.heap.size) := by show _ ≠ _; have := Blk.lt X2.out; omega
          go_cut [18, 19] (fun p e wx => CtIn W6 wx p e (cj, 0))
          case first =>
            refine wp_region_noPanic ?_
            refine wp_region_held_drew (S := (fun W_ => Blk W_ g2 (ctB c A2 n2 c2 B2 m2 d2) ∧ Below W6.heap.size W6 W_)) (by kernel_rfl) (⟨X2.out.drew, (Below.refl _ _).drew⟩) (fun hHeld => ?_)
            refine wpAnyH_take (i := 0) (v := ?_) rfl (by kernel_rfl) (by kernel_rfl) (by kernel_rfl) (fun _ _ _ h => h) (Or.inl ⟨by rfl, ?_⟩) (by assumption) ?_
            rotate_left
            · (intro w hSw; (try dsimp only at hSw); (have v0 := Blk.cell hSw.1 0); (have v1 := Blk.cell hSw.1 1); (have v2 := Blk.cell hSw.1 2); simp only [List.getElem?_toArray, List.getElem?_cons_zero, List.getElem?_cons_succ] at v0 v1 v2; go_simp; (try with_reducible rfl))
            simp only [Act.put, List.getElem_toArray, List.getElem_cons_zero, List.setIfInBounds_toArray, List.set_cons_zero, List.set_cons_succ]
            refine wpAnyH_take (i := 1) (v := ?_) rfl (by kernel_rfl) (by kernel_rfl) (by kernel_rfl) (fun _ _ _ h => h) (Or.inl ⟨by rfl, ?_⟩) (by assumption) ?_
            rotate_left
            · (intro w hSw; (try dsimp only at hSw); go_simp; (try with_reducible rfl))
            simp only [Act.put, List.getElem_toArray, List.getElem_cons_zero, List.getElem_cons_succ, List.setIfInBounds_toArray, List.set_cons_zero, List.set_cons_succ]
            refine wpAnyH_ready (rs := [2, 8]) (by kernel_rfl) (by simp) ?_
            refine AllReadyH.cons rfl (fun K hK => ?_) ?_
            · rw [if_pos (by rfl)]
              go_simp
              ((with_reducible refine (qj.out _).mono ?_); rintro e Wp ⟨rfl, rfl⟩)
              refine hK.out _ _ (hHeld) (fun hHeld2 => ?_)
              clear hK K hHeld
              have hHeld := hHeld2; clear hHeld2
              refine wpAnyH_take (i := 3) (v := ?_) rfl (by kernel_rfl) (by kernel_rfl) (by kernel_rfl) (fun _ _ _ h => h) (Or.inl ⟨by rfl, ?_⟩) (by assumption) ?_
              rotate_left
              · (intro w hSw; (try dsimp only at hSw); go_simp; (try with_reducible rfl))
              simp only [Act.put, List.getElem_toArray, List.getElem_cons_zero, List.getElem_cons_succ, List.setIfInBounds_toArray, List.set_cons_zero, List.set_cons_succ]
              refine wpAnyH_ready (rs := [4, 8]) (by kernel_rfl) (by simp) ?_
              refine AllReadyH.cons rfl (fun K hK => ?_) ?_
              · rw [if_pos (by rfl)]
                go_simp
                ((with_reducible refine (HQ.out _ hHeld.2).mono ?_); rintro e Vj ⟨Aj, nj, cj, Bj, mj, dj, rfl, hj1, hj2, ctj, bj⟩)
                have hbj := bch hHeld.2 bj
                refine hK.out _ _ (⟨Blk.below hHeld.1 bj, bch hHeld.2 bj⟩) (fun hHeld2 => ?_)
                clear hK K hHeld
                have hHeld := hHeld2; clear hHeld2
                refine wpAnyH_take (i := 5) (v := ?_) rfl (by kernel_rfl) (by kernel_rfl) (by kernel_rfl) (fun _ _ _ h => h) (Or.inl ⟨by rfl, ?_⟩) (by assumption) ?_
                rotate_left
                · (intro w hSw; (try dsimp only at hSw); go_simp; (try with_reducible rfl))
                simp only [Act.put, List.getElem_toArray, List.getElem_cons_zero, List.getElem_cons_succ, List.setIfInBounds_toArray, List.set_cons_zero, List.set_cons_succ]
                refine wpAnyH_take (i := 6) (v := ?_) rfl (by kernel_rfl) (by kernel_rfl) (by kernel_rfl) (fun _ _ _ h => h) (Or.inl ⟨by rfl, ?_⟩) (by assumption) ?_
                rotate_left
                · (intro w hSw; (try dsimp only at hSw); go_simp; (try with_reducible rfl))
                simp only [Act.put, List.getElem_toArray, List.getElem_cons_zero, List.getElem_cons_succ, List.setIfInBounds_toArray, List.set_cons_zero, List.set_cons_succ]
                refine wpAnyH_take (i := 7) (v := ?_) rfl (by kernel_rfl) (by kernel_rfl) (by kernel_rfl) (fun _ _ _ h => h) (Or.inl ⟨by rfl, ?_⟩) (by assumption) ?_
                rotate_left
                · (intro w hSw; (try dsimp only at hSw); go_simp; (try with_reducible rfl))
                simp only [Act.put, List.getElem_toArray, List.getElem_cons_zero, List.getElem_cons_succ, List.setIfInBounds_toArray, List.set_cons_zero, List.set_cons_succ]
                have hHJ := hHeld
                refine wpAnyH_ready (rs := [8]) (by kernel_rfl) (by simp) ?_
                refine AllReadyH.cons rfl (fun K hK => ?_) AllReadyH.nil
                rw [if_pos (by rfl)]
                go_simp
                refine hK.out _ _ (⟨Blk.below hHeld.1 (ba9 _ _), hHeld.2.alloc hHeld.2.size _⟩) (fun hHeld2 => ?_)
                clear hK K hHeld
                have hHeld := hHeld2; clear hHeld2
                refine wpAnyH_ready (rs := [9]) (by kernel_rfl) (by simp) ?_
                refine AllReadyH.cons rfl (fun K hK => ?_) AllReadyH.nil
                rw [if_pos (by rfl)]
                go_simp
                refine hK.out _ _ (⟨Blk.below hHJ.1 (ba9 _ _), bch hHJ.2 (ba9 _ _)⟩) (fun hHeld2 => ?_)
                clear hK K hHeld
                have hHeld := hHeld2; clear hHeld2
                refine wpAnyH_take (i := 10) (v := ?_) rfl (by kernel_rfl) (by kernel_rfl) (by kernel_rfl) (fun _ _ _ h => h) (Or.inl ⟨by rfl, ?_⟩) (by assumption) ?_
                rotate_left
                · (intro w hSw; (try dsimp only at hSw); go_simp; (try with_reducible rfl))
                simp only [Act.put, List.getElem_toArray, List.getElem_cons_zero, List.getElem_cons_succ, List.setIfInBounds_toArray, List.set_cons_zero, List.set_cons_succ]
                refine wpAnyH_done (by kernel_rfl) ?_ _
                refine NoPanic.normal ?_
                go_wp2_with fail
                go_meet
                exact ctIn_new ctj hj1 hj2 hbj
              refine AllReadyH.cons rfl (fun K hK => ?_) ?_
              · rw [if_pos (by rfl)]
                go_simp
                have hz : Blk (W6.drew.alloc (.cells #[.int .i64 0, .slice none 0 0, .slice none 0 0] 26)) W6.heap.size (.cells #[.int .i64 0, .slice none 0 0, .slice none 0 0] 26) := Blk.new W6.drew (.cells #[.int .i64 0, .slice none 0 0, .slice none 0 0] 26)
                refine hK.out _ _ (⟨Blk.below hHeld.1 (ba9 _ _), hHeld.2.alloc hHeld.2.size _⟩) (fun hHeld2 => ?_)
                clear hK K hHeld
                have hHeld := hHeld2; clear hHeld2
                refine wpAnyH_ready (rs := [4]) (by kernel_rfl) (by simp) ?_
                refine AllReadyH.cons rfl (fun K hK => ?_) AllReadyH.nil
                rw [if_pos (by rfl)]
                go_simp
                ((with_reducible refine (HQ.out _ hHeld.2).mono ?_); rintro e Vj ⟨Aj, nj, cj, Bj, mj, dj, rfl, hj1, hj2, ctj, bj⟩)
                have hbj := bch hHeld.2 bj
                have hz2 := Blk.below hz bj
                refine hK.out _ _ (⟨Blk.below hHeld.1 bj, bch hHeld.2 bj⟩) (fun hHeld2 => ?_)
                clear hK K hHeld
                have hHeld := hHeld2; clear hHeld2
                refine wpAnyH_take (i := 5) (v := ?_) rfl (by kernel_rfl) (by kernel_rfl) (by kernel_rfl) (fun _ _ _ h => h) (Or.inl ⟨by rfl, ?_⟩) (by assumption) ?_
                rotate_left
                · (intro w hSw; (try dsimp only at hSw); go_simp; (try with_reducible rfl))
                simp only [Act.put, List.getElem_toArray, List.getElem_cons_zero, List.getElem_cons_succ, List.setIfInBounds_toArray, List.set_cons_zero, List.set_cons_succ]
                refine wpAnyH_take (i := 6) (v := ?_) rfl (by kernel_rfl) (by kernel_rfl) (by kernel_rfl) (fun _ _ _ h => h) (Or.inl ⟨by rfl, ?_⟩) (by assumption) ?_
                rotate_left
                · (intro w hSw; (try dsimp only at hSw); go_simp; (try with_reducible rfl))
                simp only [Act.put, List.getElem_toArray, List.getElem_cons_zero, List.getElem_cons_succ, List.setIfInBounds_toArray, List.set_cons_zero, List.set_cons_succ]
                refine wpAnyH_take (i := 7) (v := ?_) rfl (by kernel_rfl) (by kernel_rfl) (by kernel_rfl) (fun _ _ _ h => h) (Or.inl ⟨by rfl, ?_⟩) (by assumption) ?_
                rotate_left
                · (intro w hSw; (try dsimp only at hSw); go_simp; (try with_reducible rfl))
                simp only [Act.put, List.getElem_toArray, List.getElem_cons_zero, List.getElem_cons_succ, List.setIfInBounds_toArray, List.set_cons_zero, List.set_cons_succ]
                have y0 := Blk.cell hz2 0
                have y1 := Blk.cell hz2 1
                have y2 := Blk.cell hz2 2
                simp only [List.getElem?_toArray, List.getElem?_cons_zero, List.getElem?_cons_succ] at y0 y1 y2
                have f0 := Blk.frozen hz2 0
                have f1 := Blk.frozen hz2 1
                have f2 := Blk.frozen hz2 2
                refine wpAnyH_ready (rs := [9]) (by kernel_rfl) (by simp) ?_
                refine AllReadyH.cons rfl (fun K hK => ?_) AllReadyH.nil
                rw [if_pos (by rfl)]
                go_simp
                refine hK.out _ _ (⟨blk_put3 hHeld.1 HGW.out _ _ _, below_put3 hHeld.2 (Nat.le_refl _) _ _ _⟩) (fun hHeld2 => ?_)
                clear hK K hHeld
                have hHeld := hHeld2; clear hHeld2
                refine wpAnyH_take (i := 10) (v := ?_) rfl (by kernel_rfl) (by kernel_rfl) (by kernel_rfl) (fun _ _ _ h => h) (Or.inl ⟨by rfl, ?_⟩) (by assumption) ?_
                rotate_left
                · (intro w hSw; (try dsimp only at hSw); go_simp; (try with_reducible rfl))
                simp only [Act.put, List.getElem_toArray, List.getElem_cons_zero, List.getElem_cons_succ, List.setIfInBounds_toArray, List.set_cons_zero, List.set_cons_succ]
                refine wpAnyH_done (by kernel_rfl) ?_ _
                refine NoPanic.normal ?_
                go_wp2_with fail
                go_meet
                exact ctIn_put (c := zeroC) hz2 ctj hj1 hj2 hbj (Nat.le_refl _)
              exact AllReadyH.nil
            refine AllReadyH.cons rfl (fun K hK => ?_) ?_
            · rw [if_pos (by rfl)]
              go_simp
              have hz : Blk (W6.drew.alloc (.cells #[.int .i64 0, .slice none 0 0, .slice none 0 0] 26)) W6.heap.size (.cells #[.int .i64 0, .slice none 0 0, .slice none 0 0] 26) := Blk.new W6.drew (.cells #[.int .i64 0, .slice none 0 0, .slice none 0 0] 26)
              refine hK.out _ _ (⟨Blk.below hHeld.1 (ba9 _ _), hHeld.2.alloc hHeld.2.size _⟩) (fun hHeld2 => ?_)
              clear hK K hHeld
              have hHeld := hHeld2; clear hHeld2
              refine wpAnyH_ready (rs := [2]) (by kernel_rfl) (by simp) ?_
              refine AllReadyH.cons rfl (fun K hK => ?_) AllReadyH.nil
              rw [if_pos (by rfl)]
              go_simp
              ((with_reducible refine (qj.out _).mono ?_); rintro e Wp ⟨rfl, rfl⟩)
              refine hK.out _ _ (hHeld) (fun hHeld2 => ?_)
              clear hK K hHeld
              have hHeld := hHeld2; clear hHeld2
              refine wpAnyH_take (i := 3) (v := ?_) rfl (by kernel_rfl) (by kernel_rfl) (by kernel_rfl) (fun _ _ _ h => h) (Or.inl ⟨by rfl, ?_⟩) (by assumption) ?_
              rotate_left
              · (intro w hSw; (try dsimp only at hSw); go_simp; (try with_reducible rfl))
              simp only [Act.put, List.getElem_toArray, List.getElem_cons_zero, List.getElem_cons_succ, List.setIfInBounds_toArray, List.set_cons_zero, List.set_cons_succ]
              refine wpAnyH_ready (rs := [4]) (by kernel_rfl) (by simp) ?_
              refine AllReadyH.cons rfl (fun K hK => ?_) AllReadyH.nil
              rw [if_pos (by rfl)]
              go_simp
              ((with_reducible refine (HQ.out _ hHeld.2).mono ?_); rintro e Vj ⟨Aj, nj, cj, Bj, mj, dj, rfl, hj1, hj2, ctj, bj⟩)
              have hbj := bch hHeld.2 bj
              have hz2 := Blk.below hz bj
              refine hK.out _ _ (⟨Blk.below hHeld.1 bj, bch hHeld.2 bj⟩) (fun hHeld2 => ?_)
              clear hK K hHeld
              have hHeld := hHeld2; clear hHeld2
              refine wpAnyH_take (i := 5) (v := ?_) rfl (by kernel_rfl) (by kernel_rfl) (by kernel_rfl) (fun _ _ _ h => h) (Or.inl ⟨by rfl, ?_⟩) (by assumption) ?_
              rotate_left
              · (intro w hSw; (try dsimp only at hSw); go_simp; (try with_reducible rfl))
              simp only [Act.put, List.getElem_toArray, List.getElem_cons_zero, List.getElem_cons_succ, List.setIfInBounds_toArray, List.set_cons_zero, List.set_cons_succ]
              refine wpAnyH_take (i := 6) (v := ?_) rfl (by kernel_rfl) (by kernel_rfl) (by kernel_rfl) (fun _ _ _ h => h) (Or.inl ⟨by rfl, ?_⟩) (by assumption) ?_
              rotate_left
              · (intro w hSw; (try dsimp only at hSw); go_simp; (try with_reducible rfl))
              simp only [Act.put, List.getElem_toArray, List.getElem_cons_zero, List.getElem_cons_succ, List.setIfInBounds_toArray, List.set_cons_zero, List.set_cons_succ]
              refine wpAnyH_take (i := 7) (v := ?_) rfl (by kernel_rfl) (by kernel_rfl) (by kernel_rfl) (fun _ _ _ h => h) (Or.inl ⟨by rfl, ?_⟩) (by assumption) ?_
              rotate_left
              · (intro w hSw; (try dsimp only at hSw); go_simp; (try with_reducible rfl))
              simp only [Act.put, List.getElem_toArray, List.getElem_cons_zero, List.getElem_cons_succ, List.setIfInBounds_toArray, List.set_cons_zero, List.set_cons_succ]
              have y0 := Blk.cell hz2 0
              have y1 := Blk.cell hz2 1
              have y2 := Blk.cell hz2 2
              simp only [List.getElem?_toArray, List.getElem?_cons_zero, List.getElem?_cons_succ] at y0 y1 y2
              have f0 := Blk.frozen hz2 0
              have f1 := Blk.frozen hz2 1
              have f2 := Blk.frozen hz2 2
              refine wpAnyH_ready (rs := [9]) (by kernel_rfl) (by simp) ?_
              refine AllReadyH.cons rfl (fun K hK => ?_) AllReadyH.nil
              rw [if_pos (by rfl)]
              go_simp
              refine hK.out _ _ (⟨blk_put3 hHeld.1 HGW.out _ _ _, below_put3 hHeld.2 (Nat.le_refl _) _ _ _⟩) (fun hHeld2 => ?_)
              clear hK K hHeld
              have hHeld := hHeld2; clear hHeld2
              refine wpAnyH_take (i := 10) (v := ?_) rfl (by kernel_rfl) (by kernel_rfl) (by kernel_rfl) (fun _ _ _ h => h) (Or.inl ⟨by rfl, ?_⟩) (by assumption) ?_
              rotate_left
              · (intro w hSw; (try dsimp only at hSw); go_simp; (try with_reducible rfl))
              simp only [Act.put, List.getElem_toArray, List.getElem_cons_zero, List.getElem_cons_succ, List.setIfInBounds_toArray, List.set_cons_zero, List.set_cons_succ]
              refine wpAnyH_done (by kernel_rfl) ?_ _
              refine NoPanic.normal ?_
              go_wp2_with fail
              go_meet
              exact ctIn_put (c := zeroC) hz2 ctj hj1 hj2 hbj (Nat.le_refl _)
            exact AllReadyH.nil
          case rest =>
            obtain ⟨g4, A4, n4, c4, B4, m4, d4, rfl, rfl, hX, ct, h1, h2, b_⟩ := hcut
            have I1_ := Lib.hid (I1.out.below b_); clear I1
            have I1 := I1_; clear I1_
            have X1_ := Lib.hid (Blk.below X1.out b_); clear X1
            have X1 := X1_; clear X1_
            have I2_ := Lib.hid (I2.out.below b_); clear I2
            have I2 := I2_; clear I2_
            have X2_ := Lib.hid (Blk.below X2.out b_); clear X2
            have X2 := X2_; clear X2_
            have I3_ := Lib.hid (I3.out.below b_); clear I3
            have I3 := I3_; clear I3_
            have X3_ := Lib.hid (Blk.below X3.out b_); clear X3
            have X3 := X3_; clear X3_
            have HB_ := Lib.hid (bch HB.out b_); clear HB
            have HB := HB_; clear HB_
            have X4 := Lib.hid hX; clear hX
            have I4 := Lib.hid ct; clear ct
            have S4 : Hid (n4 ≤ c4 ∧ m4 ≤ d4) := ⟨h1, h2⟩
            clear h1 h2 b_ HQ HGW hwj
            obtain ⟨W7, hW⟩ : ∃ X, X = wc := ⟨_, rfl⟩
            rewrite [← hW] at HB I1 X1 I2 X2 I3 X3 X4 I4
            rewrite [← hW]
            clear hW
            have r0 := Blk.cell X2.out 0
            simp only [List.getElem?_toArray, List.getElem?_cons_zero, List.getElem?_cons_succ] at r0
            have a0 := Blk.cell X3.out 0
            have a1 := Blk.cell X3.out 1
            have a2 := Blk.cell X3.out 2
            simp only [List.getElem?_toArray, List.getElem?_cons_zero, List.getElem?_cons_succ] at a0 a1 a2
            go_wp2_with fail
            have q := (by
              have q := kR ca A3 B3 n3 c3 m3 d3 W7 (ctArg I3.out HCA.out.2 HCS.out S3.out.1 S3.out.2)
              rewrite [show rightC ca = true from decide_eq_true HCA.out.1] at q
              exact q)
            ((with_reducible refine q.mono ?_); rintro e V8 ⟨rfl, b⟩)
            clear q a0 a1 a2
            have I1_ := Lib.hid (I1.out.below b); clear I1
            have I1 := I1_; clear I1_
            have X1_ := Lib.hid (Blk.below X1.out b); clear X1
            have X1 := X1_; clear X1_
            have I2_ := Lib.hid (I2.out.below b); clear I2
            have I2 := I2_; clear I2_
            have X2_ := Lib.hid (Blk.below X2.out b); clear X2
            have X2 := X2_; clear X2_
            have I3_ := Lib.hid (I3.out.below b); clear I3
            have I3 := I3_; clear I3_
            have X3_ := Lib.hid (Blk.below X3.out b); clear X3
            have X3 := X3_; clear X3_
            have X4_ := Lib.hid (Blk.below X4.out b); clear X4
            have X4 := X4_; clear X4_
            have I4_ := Lib.hid (I4.out.below b); clear I4
            have I4 := I4_; clear I4_
            have HB_ := Lib.hid (bch HB.out b); clear HB
            have HB := HB_; clear HB_
            clear b
            have a0 := Blk.cell X4.out 0
            have a1 := Blk.cell X4.out 1
            have a2 := Blk.cell X4.out 2
            simp only [List.getElem?_toArray, List.getElem?_cons_zero, List.getElem?_cons_succ] at a0 a1 a2
            go_wp2_with fail
            have q := (by
              have q := kR cj A4 B4 n4 c4 m4 d4 V8 (ctArg I4.out HCJ.out.2 HJS.out S4.out.1 S4.out.2)
              rewrite [show rightC cj = true from decide_eq_true HCJ.out.1] at q
              exact q)
            ((with_reducible refine q.mono ?_); rintro e V9 ⟨rfl, b⟩)
            clear q a0 a1 a2
            have I1_ := Lib.hid (I1.out.below b); clear I1
            have I1 := I1_; clear I1_
            have X1_ := Lib.hid (Blk.below X1.out b); clear X1
            have X1 := X1_; clear X1_
            have I2_ := Lib.hid (I2.out.below b); clear I2
            have I2 := I2_; clear I2_
            have X2_ := Lib.hid (Blk.below X2.out b); clear X2
            have X2 := X2_; clear X2_
            have I3_ := Lib.hid (I3.out.below b); clear I3
            have I3 := I3_; clear I3_
            have X3_ := Lib.hid (Blk.below X3.out b); clear X3
            have X3 := X3_; clear X3_
            have X4_ := Lib.hid (Blk.below X4.out b); clear X4
            have X4 := X4_; clear X4_
            have I4_ := Lib.hid (I4.out.below b); clear I4
            have I4 := I4_; clear I4_
            have HB_ := Lib.hid (bch HB.out b); clear HB
            have HB := HB_; clear HB_
            clear b
            go_wp2_with fail
            go_ret
            exact ⟨rfl, HB.out⟩
end Go.Proofs.Ytndkmepdnekigaa
