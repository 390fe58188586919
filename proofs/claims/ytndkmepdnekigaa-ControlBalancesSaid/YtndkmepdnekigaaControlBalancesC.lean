import Derived.Test.YtndkmepdnekigaaCtAwake
import Derived.Test.YtndkmepdnekigaaCtIn
import Derived.Test.YtndkmepdnekigaaCtSame
import Derived.Test.YtndkmepdnekigaaCtPotM
import Derived.Test.YtndkmepdnekigaaCtCommit
import Derived.Test.YtndkmepdnekigaaCtRefL
import Derived.BigQuiet
import Derived.Deep.QuietTactic
/-
  Who plans what Balance tells, and commits, again and again, comes to loads that are at most one apart, in at most as many moves as there are places. (The law 'ControlBalances' over what is asked of the program.)
-/
namespace Go.Proofs.Ytndkmepdnekigaa
open Go.RowKit
set_option linter.unusedVariables false
set_option linter.unusedSimpArgs false

set_option maxRecDepth 100000 in
set_option maxHeartbeats 40000000 in
theorem controlBalances_core (kR : RightC9) (kN : NewC9) (kJ : JoinC9) (kP : ReportC9) (kF : FinalC9) (kL : PlanC9) (kM : CommitC9) (kC : CancelC9) (kB : BalC9) (x y : Int) (A : Option Addr) (n cap : Nat) (f : Nat → Nat → Int) (w : World) (wx : (Lit.int .i64 x).wf = true) (wy : (Lit.int .i64 y).wf = true) (wr0 : IsRaw w A n 3 f) :
    Calls Try.prog 6 #[.int .i64 x, .int .i64 y, .slice A n cap] w fun e w' => e = .returned (.bool true) ∧ Below w.heap.size w w' := by
  have qa := awake18_any kR kN kJ kP kF kL kM kC kB w
  go_enter Try.func6, Try.ntmps6
  go_wp2_with fail
  ((with_reducible refine qa.mono ?_); rintro e V0 ⟨rfl, b⟩)
  have HB := Lib.hid b
  have HV0 : Hid (w.heap.size ≤ V0.heap.size) := b.size
  have qc := control_any x y A n cap f V0 wx wy (wr0.below b)
  have HOK : Hid (CtOk (ctlC x y f n)) := ctlC_ok x y f n
  have HEP : Hid (∀ p ∈ (ctlC x y f n).pl, p.2.1 ≤ 31) := ctlC_ep x y f n
  generalize ctlC x y f n = c at *
  clear b qa wr0
  go_wp2_with fail
  ((with_reducible refine qc.mono ?_); rintro e V1 ⟨A1, n1, c1, B1, m1, d1, rfl, hr1, hp1, hne1, b⟩)
  clear qc
  obtain ⟨_, _, hv1, hk1, hi1⟩ := hr1.parts
  obtain ⟨rfl, hl1, rfl⟩ := slice_eqG hv1
  obtain ⟨_, _, hv2, hk2, hi2⟩ := hp1.parts
  obtain ⟨rfl, hl2, rfl⟩ := slice_eqG hv2
  rewrite [← hl1] at hi1
  rewrite [← hl2] at hi2
  have I1 : Hid (IsCt V1 c A1 n1 B1 m1) := ⟨hi1, hi2⟩
  have S1 : Hid (n1 ≤ c1 ∧ m1 ≤ d1) := ⟨by omega, by omega⟩
  have HN1 : Hid (n1 = c.mem.length) := hl1
  have HM1 : Hid (m1 = c.pl.length) := hl2
  have hn18 : 1 ≤ n1 ∧ n1 ≤ 8 := by have := HOK.out.1.2.1; omega
  have hm18 : 1 ≤ m1 ∧ m1 ≤ 8 := by have := HOK.out.1.2.2.1; omega
  have HR1 := Lib.hid hr1; have HP1 := Lib.hid hp1; have HNE1 := Lib.hid hne1
  clear hv1 hv2 hk1 hk2 hi1 hi2 hl1 hl2 hr1 hp1 hne1
  have HBx := Lib.hid (bch HB.out b); clear HB
  have HB := HBx; clear HBx b
  have HG1 : Hid (w.heap.size ≤ V1.heap.size) := HB.out.size
  go_upto_region 3 with fail
  have hba := ba9 V1 (ctB c A1 n1 c1 B1 m1 d1)
  have X1 := Lib.hid (Blk.new V1 (ctB c A1 n1 c1 B1 m1 d1))
  have I1_ := Lib.hid (I1.out.below hba); clear I1
  have I1 := I1_; clear I1_
  have HR1_ := Lib.hid (HR1.out.below hba); clear HR1
  have HR1 := HR1_; clear HR1_
  have HP1_ := Lib.hid (HP1.out.below hba); clear HP1
  have HP1 := HP1_; clear HP1_
  have HB_ := Lib.hid (bch HB.out hba); clear HB
  have HB := HB_; clear HB_
  obtain ⟨W1, hW⟩ : ∃ X, V1.alloc (ctB c A1 n1 c1 B1 m1 d1) = X := ⟨_, rfl⟩
  rewrite [hW] at X1 HB I1 HR1 HP1
  rewrite [hW]
  clear hW hba
  generalize hg1 : V1.heap.size = g1 at *
  clear hg1
  have HRC := Lib.hid HOK.out.1
  have HCW := Lib.hid HOK.out.2.1
  have hm0 : 0 < c.pl.length := HRC.out.2.2.1.1
  have hn0 : 0 < c.mem.length := HRC.out.2.1.1
  obtain ⟨gq, cq, hvq, hq1, hq2, _⟩ := HP1.out.own hm0
  obtain ⟨hBq, hx1_, hx2_⟩ := slice_eqG hvq
  clear hx1_ hx2_
  have hA9 : Hid ((Value.slice A1 n1 c1).ownBlock ≠ some gq) := row_other HR1.out HP1.out hn0 hBq (HNE1.out (by omega) (by omega))
  have hg1q : g1 ≠ gq := fun e => s3_apart X1.out I1.out.2 (by omega) gq 0 hBq e.symm
  have HGQ : Hid (g1 ≠ gq ∧ w.heap.size ≤ gq) := ⟨hg1q, Nat.le_trans HV0.out hq1⟩
  subst hBq
  clear hvq hq1 hq2 hg1q HNE1
  have HPZ : Hid (RowG s3 48 W1 V0.heap.size (.slice (some ⟨gq, 0, none⟩) m1 d1) (zeroL c.pl 0)) := by show RowG _ _ _ _ _ _; unfold zeroL; simp only [List.take_zero, List.map_nil, List.nil_append, List.drop_zero]; exact HP1.out
  go_wp2_with fail
  go_loopw [9] (fun i wr => ∃ k : Nat, k ≤ m1 ∧ i = .int .i64 k ∧ Hid (RowG s3 48 wr V0.heap.size (.slice (some ⟨gq, 0, none⟩) m1 d1) (zeroL c.pl k)) ∧ Hid (RowG s2 45 wr V0.heap.size (.slice A1 n1 c1) c.mem) ∧ Hid (Blk wr g1 (ctB c A1 n1 c1 (some ⟨gq, 0, none⟩) m1 d1)) ∧ Hid (Below w.heap.size w wr)) (fun i _ => m1 - (intOf i).toNat)
  case atStart => exact ⟨0, Nat.zero_le _, rfl, HPZ.out, HR1.out, X1.out, HB.out⟩
  case round =>
    clear HPZ HP1 HR1 X1 HB I1
    obtain ⟨k, hk, rfl, HPZ, HR1, X1, HB⟩ := hrel
    have z2 := Blk.cell X1.out 2
    simp only [List.getElem?_toArray, List.getElem?_cons_zero, List.getElem?_cons_succ] at z2
    by_cases hlt : k < m1
    · have HK : Hid (k < c.pl.length) := by show k < _; have := HM1.out; omega
      have hki : (k : Int) < (m1 : Int) := by omega
      have hx : (zeroL c.pl k)[k]? = some (atP9 (zeroL c.pl k) k) := atP9_get (by rw [zeroL_len]; exact HK.out)
      rewrite [zeroL_at HK.out] at hx
      have HST := Lib.hid (zeroL_succ HK.out)
      have x2 : wr.cell? ⟨gq, k * 3 + 2, none⟩ = some (.int .i64 (atP9 c.pl k).2.2) := HPZ.out.cell (j := 2) hx rfl
      have xf : wr.frozen? ⟨gq, k * 3 + 2, none⟩ = false := HPZ.out.frozen _
      have HX := Lib.hid hx; clear hx
      generalize atP9 c.pl k = pz at *
      go_wp2_with fail
      go_roundw
      case rel =>
        refine ⟨k + 1, by omega, by go_num, ?_, ?_, ?_, ?_⟩
        · show RowG _ _ _ _ _ _
          rw [HST.out]
          exact (RowG.set HPZ.out (j := 2) (u := .int .i64 0) (y := (pz.1, pz.2.1, 0)) HX.out (by decide) rfl).1
        · exact HR1.out.far (g := gq) (j := k * 3 + 2) hA9.out (.int .i64 0)
        · exact Blk.far X1.out HGQ.out.1 (k * 3 + 2) (.int .i64 0)
        · exact HB.out.setCell (p := ⟨gq, k * 3 + 2, none⟩) HGQ.out.2 (.int .i64 0)
      case measure => simp [intOf]; omega
    · have hke : k = m1 := by omega
      have hki : (m1 : Int) ≤ (k : Int) := by omega
      subst hke
      obtain ⟨c0, hc0⟩ : ∃ c0 : CtR, c0 = ⟨c.level, c.mem, zeroL c.pl c.pl.length⟩ := ⟨_, rfl⟩
      have HST0 : Hid (Still c0) := by show Still c0; rw [hc0]; exact zero_still HRC.out
      have HW0 : Hid (CtW c0) := by show CtW c0; rw [hc0]; exact zero_wf HCW.out
      have HE0 : Hid (∀ p ∈ c0.pl, p.2.1 ≤ 31) := by show ∀ p ∈ c0.pl, _; rw [hc0]; exact zero_ep HEP.out
      have HL0 : Hid (c0.level = c.level ∧ c0.pl.length = k) := by rw [hc0]; exact ⟨rfl, by show (zeroL c.pl c.pl.length).length = k; rw [zeroL_len]; exact HM1.out.symm⟩
      have hi0 : IsCt wr c0 A1 n1 (some ⟨gq, 0, none⟩) k := by
        obtain ⟨_, _, hv1, _, hi1⟩ := HR1.out.parts
        obtain ⟨rfl, hl1, rfl⟩ := slice_eqG hv1
        obtain ⟨_, _, hv2, _, hi2⟩ := HPZ.out.parts
        obtain ⟨hB2, hl2, _⟩ := slice_eqG hv2
        rewrite [← hl1] at hi1
        rewrite [← hl2, ← hB2, HM1.out] at hi2
        rw [hc0]
        refine ⟨hi1, ?_⟩
        rw [HM1.out]
        exact hi2
      have HI0 := Lib.hid hi0
      have HXX : Hid (Blk wr g1 (ctB c0 A1 n1 c1 (some ⟨gq, 0, none⟩) k d1)) := by show Blk _ _ (.cells #[.int .i64 c0.level, _, _] _); rw [HL0.out.1]; exact X1.out
      have hsb := still_begin HST0.out
      obtain ⟨M, hM⟩ : ∃ M, c0.mem.length = M := ⟨_, rfl⟩
      rewrite [hM, HL0.out.2] at hsb
      obtain ⟨q, hq⟩ : ∃ q, k / M = q := ⟨_, rfl⟩
      rewrite [hq] at hsb
      have HSB := Lib.hid hsb
      have HMM : Hid (c0.mem.length = M) := hM
      have hk8 : 1 ≤ k ∧ k ≤ 8 := hm18
      clear hi0 hc0 hsb hM hq HPZ HR1 X1 hk
      go_wp2_with fail
      go_loopw [10] (fun i wr => ∃ j : Nat, j ≤ k ∧ i = .int .i64 j ∧ ∃ ck A n cap B m cm, Hid (Blk wr g1 (ctB ck A n cap B m cm)) ∧ Hid (IsCt wr ck A n B m) ∧ Hid (n ≤ cap ∧ m ≤ cm) ∧ Hid (Still ck ∧ CtW ck ∧ ck.mem.length = M ∧ ck.pl.length = k) ∧ Hid (∀ p ∈ ck.pl, p.2.1 ≤ 31 + (j : Int)) ∧ Hid (EvB ck q (k - j)) ∧ Hid (Below w.heap.size w wr)) (fun i _ => k + 1 - (intOf i).toNat)
      case atStart => exact ⟨0, Nat.zero_le _, rfl, c0, A1, n1, c1, some ⟨gq, 0, none⟩, k, d1, HXX.out, HI0.out, ⟨S1.out.1, S1.out.2⟩, ⟨HST0.out, HW0.out, HMM.out, HL0.out.2⟩, fun p hp => by have := HE0.out p hp; omega, HSB.out.1, HB.out⟩
      case round =>
        clear HXX HI0 HST0 HW0 HE0 HL0 HMM HB S1 z2
        obtain ⟨j, hj, rfl, ck, A2, n2, c2, B2, m2, d2, X2, I2, S2, HCK, HEJ, HEV, HB⟩ := hrel
        have HM2 : Hid (m2 = k) := by show _ = _; rw [I2.out.2.1]; exact HCK.out.2.2.2
        obtain rfl : m2 = k := HM2.out
        have HSM2 : Hid (ck.mem.length ≤ 20 ∧ ck.pl.length ≤ 20) := by have h := HCK.out.1.1.small; exact ⟨by omega, by omega⟩
        have hjk : (j : Int) ≤ (m2 : Int) := by omega
        obtain ⟨s, tt, is, hbal⟩ : ∃ s tt is, balC ck = (s, tt, is) := ⟨_, _, _, rfl⟩
        have HBL := Lib.hid hbal; clear hbal HM2
        have a0 := Blk.cell X2.out 0
        have a1 := Blk.cell X2.out 1
        have a2 := Blk.cell X2.out 2
        simp only [List.getElem?_toArray, List.getElem?_cons_zero, List.getElem?_cons_succ] at a0 a1 a2
        go_wp2_with fail
        have q := (by
          have q := kB ck A2 B2 n2 c2 m2 d2 wr (ctArg I2.out HCK.out.2.1 HSM2.out S2.out.1 S2.out.2)
          rewrite [HBL.out] at q
          exact q)
        ((with_reducible refine q.mono ?_); rintro e V3 ⟨rfl, b⟩)
        clear q a0 a1 a2
        have X2_ := Lib.hid (Blk.below X2.out b); clear X2
        have X2 := X2_; clear X2_
        have I2_ := Lib.hid (I2.out.below b); clear I2
        have I2 := I2_; clear I2_
        have HB_ := Lib.hid (bch HB.out b); clear HB
        have HB := HB_; clear HB_
        clear b
        cases is with
        | true =>
          have hjk2 : j < m2 := by
            refine Nat.lt_of_le_of_ne hj fun e => ?_
            subst e
            exact still_none HCK.out.1 (by have := HEV.out; rw [Nat.sub_self] at this; exact this) HBL.out
          have hst := still_step HCK.out.1 HEJ.out (by omega) HBL.out (q := q) (a := m2 - (j + 1)) (by rw [HCK.out.2.2.1, HCK.out.2.2.2]; exact HSB.out.2.1) (by rw [HCK.out.2.2.1, HCK.out.2.2.2]; exact HSB.out.2.2) (by rw [show m2 - (j + 1) + 1 = m2 - j by omega]; exact HEV.out)
          obtain ⟨i, ow, ep, rfl, hil, hpl, hmt, e1, hr1, e2, hs2, he2, hev2⟩ := hst
          have hil2 : i < m2 := by have := HCK.out.2.2.2; omega
          have hwi : (Lit.int .i64 (i : Int)).wf = true := wf_i (by omega) (by omega)
          have hwt : (Lit.int .i64 tt).wf = true := by obtain ⟨m, hm, e⟩ := hmt; have h := HCK.out.2.1.2.1 m hm; rewrite [e] at h; exact h.1
          have hcal := CtW.plan (s := (i : Int)) (t := tt) HCK.out.2.1 hwt
          rewrite [e1] at hcal
          have hcdl := CtW.commit (s := (i : Int)) hcal
          rewrite [e2] at hcdl
          obtain ⟨ca, hca⟩ : ∃ ca : CtR, ca = setPl ck (i : Int) (ow, ep, tt) := ⟨_, rfl⟩
          obtain ⟨cd, hcd⟩ : ∃ cd : CtR, cd = setPl ck (i : Int) (tt, ep + 1, 0) := ⟨_, rfl⟩
          have HDL : Hid (cd.mem.length = M ∧ cd.pl.length = m2) := by rw [hcd]; exact ⟨HCK.out.2.2.1, by rw [setPl_pl, List.length_set]; exact HCK.out.2.2.2⟩
          simp only [← hca] at e1 hr1 e2 hcal
          simp only [← hcd] at e2 hs2 he2 hev2 hcdl
          have HCA : Hid (CtW ca ∧ RightC ca) := ⟨hcal, hr1⟩
          have HCS : Hid (ca.mem.length ≤ 20 ∧ ca.pl.length ≤ 20) := by have h := hr1.small; exact ⟨by omega, by omega⟩
          have HCD : Hid (CtW cd ∧ Still cd) := ⟨hcdl, hs2⟩
          have HED := Lib.hid he2
          have HVD := Lib.hid hev2
          have HE1 := Lib.hid e1; have HE2 := Lib.hid e2
          clear e1 hr1 e2 hs2 he2 hev2 hca hcd hcal hcdl hpl hmt hil
          have a0 := Blk.cell X2.out 0
          have a1 := Blk.cell X2.out 1
          have a2 := Blk.cell X2.out 2
          simp only [List.getElem?_toArray, List.getElem?_cons_zero, List.getElem?_cons_succ] at a0 a1 a2
          go_wp2_with fail
          have q := (kL ck A2 B2 n2 c2 m2 d2 (i : Int) tt V3 (ctArg I2.out HCK.out.2.1 HSM2.out S2.out.1 S2.out.2) hwi hwt).mono (fun e w' h => h.at HE1.out (lv := (ca).level) rfl)
          ((with_reducible refine q.mono ?_); rintro e V4 ⟨A3, n3, c3, B3, m3, d3, rfl, h1, h2, ct, b⟩)
          clear q a0 a1 a2
          have X2_ := Lib.hid (Blk.below X2.out b); clear X2
          have X2 := X2_; clear X2_
          have I2_ := Lib.hid (I2.out.below b); clear I2
          have I2 := I2_; clear I2_
          have HB_ := Lib.hid (bch HB.out b); clear HB
          have HB := HB_; clear HB_
          clear b
          have I3 := Lib.hid ct
          have S3 : Hid (n3 ≤ c3 ∧ m3 ≤ d3) := ⟨h1, h2⟩
          clear h1 h2 ct
          go_upto_region 13 with fail
          have hba := ba9 V4 (ctB (ca) A3 n3 c3 B3 m3 d3)
          have X3 := Lib.hid (Blk.new V4 (ctB (ca) A3 n3 c3 B3 m3 d3))
          have X2_ := Lib.hid (Blk.below X2.out hba); clear X2
          have X2 := X2_; clear X2_
          have I2_ := Lib.hid (I2.out.below hba); clear I2
          have I2 := I2_; clear I2_
          have I3_ := Lib.hid (I3.out.below hba); clear I3
          have I3 := I3_; clear I3_
          have HB_ := Lib.hid (bch HB.out hba); clear HB
          have HB := HB_; clear HB_
          obtain ⟨W4, hW⟩ : ∃ X, V4.alloc (ctB (ca) A3 n3 c3 B3 m3 d3) = X := ⟨_, rfl⟩
          rewrite [hW] at X3 HB X2 I2 I3
          rewrite [hW]
          clear hW hba
          generalize hg3 : V4.heap.size = g3 at *
          clear hg3
          have a0 := Blk.cell X3.out 0
          have a1 := Blk.cell X3.out 1
          have a2 := Blk.cell X3.out 2
          simp only [List.getElem?_toArray, List.getElem?_cons_zero, List.getElem?_cons_succ] at a0 a1 a2
          go_wp2_with fail
          have q := (kM ca A3 B3 n3 c3 m3 d3 (i : Int) W4 (ctArg I3.out HCA.out.1 HCS.out S3.out.1 S3.out.2) hwi).mono (fun e w' h => h.at HE2.out (lv := (cd).level) rfl)
          ((with_reducible refine q.mono ?_); rintro e V5 ⟨A4, n4, c4, B4, m4, d4, rfl, h1, h2, ct, b⟩)
          clear q a0 a1 a2
          have X2_ := Lib.hid (Blk.below X2.out b); clear X2
          have X2 := X2_; clear X2_
          have I2_ := Lib.hid (I2.out.below b); clear I2
          have I2 := I2_; clear I2_
          have I3_ := Lib.hid (I3.out.below b); clear I3
          have I3 := I3_; clear I3_
          have X3_ := Lib.hid (Blk.below X3.out b); clear X3
          have X3 := X3_; clear X3_
          have HB_ := Lib.hid (bch HB.out b); clear HB
          have HB := HB_; clear HB_
          clear b
          have I4 := Lib.hid ct
          have S4 : Hid (n4 ≤ c4 ∧ m4 ≤ d4) := ⟨h1, h2⟩
          clear h1 h2 ct
          go_upto_region 14 with fail
          have hba := ba9 V5 (ctB (cd) A4 n4 c4 B4 m4 d4)
          have X4 := Lib.hid (Blk.new V5 (ctB (cd) A4 n4 c4 B4 m4 d4))
          have X2_ := Lib.hid (Blk.below X2.out hba); clear X2
          have X2 := X2_; clear X2_
          have I2_ := Lib.hid (I2.out.below hba); clear I2
          have I2 := I2_; clear I2_
          have I3_ := Lib.hid (I3.out.below hba); clear I3
          have I3 := I3_; clear I3_
          have X3_ := Lib.hid (Blk.below X3.out hba); clear X3
          have X3 := X3_; clear X3_
          have I4_ := Lib.hid (I4.out.below hba); clear I4
          have I4 := I4_; clear I4_
          have HB_ := Lib.hid (bch HB.out hba); clear HB
          have HB := HB_; clear HB_
          obtain ⟨W5, hW⟩ : ∃ X, V5.alloc (ctB (cd) A4 n4 c4 B4 m4 d4) = X := ⟨_, rfl⟩
          rewrite [hW] at X4 HB X2 I2 I3 X3 I4
          rewrite [hW]
          clear hW hba
          generalize hg4 : V5.heap.size = g4 at *
          clear hg4
          have ejk : ((j : Int) == (m2 : Int)) = false := by simp; omega
          have ejkn : (j == m2) = false := by simp; omega
          have HM4 : Hid (m4 = m2) := by show _ = _; rw [I4.out.2.1]; exact HDL.out.2
          have p0 := Blk.cell X2.out 0
          have p1 := Blk.cell X2.out 1
          have p2 := Blk.cell X2.out 2
          simp only [List.getElem?_toArray, List.getElem?_cons_zero, List.getElem?_cons_succ] at p0 p1 p2
          have r0 := Blk.cell X4.out 0
          have r1 := Blk.cell X4.out 1
          have r2 := Blk.cell X4.out 2
          simp only [List.getElem?_toArray, List.getElem?_cons_zero, List.getElem?_cons_succ] at r0 r1 r2
          have f0 := Blk.frozen X2.out 0
          have f1 := Blk.frozen X2.out 1
          have f2 := Blk.frozen X2.out 2
          have hA9 := Lib.hid (ct_put X2.out cd A4 n4 c4 B4 m4 d4)
          have hI9 := Lib.hid (isCt_put3 X2.out I4.out cd A4 n4 c4 B4 m4 d4)
          have hB9 := Lib.hid (below_put3 HB.out HG1.out (.int .i64 cd.level) (.slice A4 n4 c4) (.slice B4 m4 d4))
          go_wp2_with fail
          go_roundw
          case rel => exact ⟨j + 1, by omega, by go_num, cd, A4, n4, c4, B4, m4, d4, hA9.out, hI9.out, S4.out, ⟨HCD.out.2, HCD.out.1, HDL.out.1, HDL.out.2⟩, fun p hp => by have := HED.out p hp; omega, HVD.out, hB9.out⟩
          case measure => simp [intOf]; omega
        | false =>
          have HN2 : Hid (n2 = ck.mem.length) := I2.out.1.1
          have hn28 : 1 ≤ n2 ∧ n2 ≤ 8 := by have h := HCK.out.1.1.2.1; have := HN2.out; omega
          have HF8 : Hid (∀ x, loadC ck.pl x ≤ 8) := fun x => by have h : loadC ck.pl x ≤ ck.pl.length := List.countP_le_length; have := HCK.out.2.2.2; omega
          have HPL2 : Hid (m2 = ck.pl.length) := HCK.out.2.2.2.symm
          go_wp2_with fail
          go_loopw [18, 19, 20] (fun a b i wr => ∃ r : Nat, r ≤ n2 ∧ i = .int .i64 r ∧ ∃ lo hi : Nat, a = .int .i64 lo ∧ b = .int .i64 hi ∧ Hid ((r = 0 ∧ lo = 9 ∧ hi = 0) ∨ (0 < r ∧ (∃ x, isMem ck.mem x ∧ lo = loadC ck.pl x) ∧ (∃ y, isMem ck.mem y ∧ hi = loadC ck.pl y))) ∧ Hid (Below V3.heap.size V3 wr)) (fun _ _ i _ => n2 - (intOf i).toNat)
          case atStart => exact ⟨0, Nat.zero_le _, rfl, 9, 0, rfl, rfl, .inl ⟨rfl, rfl, rfl⟩, Below.refl _ _⟩
          case round =>
            obtain ⟨r, hr, rfl, lo, hi, rfl, rfl, HLH, hbw⟩ := hrel
            have z1 := Blk.cell (Blk.below X2.out hbw.out) 1
            simp only [List.getElem?_toArray, List.getElem?_cons_zero, List.getElem?_cons_succ] at z1
            have HLO : Hid (lo ≤ 9 ∧ hi ≤ 8) := by
              rcases HLH.out with ⟨_, rfl, rfl⟩ | ⟨_, ⟨x, _, rfl⟩, ⟨y, _, rfl⟩⟩
              · exact ⟨by omega, by omega⟩
              · exact ⟨by have := HF8.out x; omega, HF8.out y⟩
            by_cases hlt : r < n2
            · have HR : Hid (r < ck.mem.length) := by show r < _; have := HN2.out; omega
              have hri : (r : Int) < (n2 : Int) := by omega
              obtain ⟨bm, offm, hA, hbm, y0, y1⟩ := is2_at (I2.out.below hbw.out).1 (atM9_get HR.out)
              subst hA
              have HMR : Hid (isMem ck.mem (atM9 ck.mem r).1) := isMem_at HR.out
              generalize atM9 ck.mem r = pm at *
              obtain ⟨nm, nb⟩ := pm
              simp only at y0 y1
              have HMN : Hid (isMem ck.mem nm) := HMR.out
              clear HMR y1
              have HY0 : Hid (∀ V, Below wr.heap.size wr V → V.cell? ⟨bm, offm + r * 2, none⟩ = some (.int .i64 nm)) := fun V hb_ => (hb_.cell (p := ⟨bm, offm + r * 2, none⟩) hbm).trans y0
              clear y0 hbm
              obtain ⟨wo, hwo⟩ : ∃ X, X = wr := ⟨_, rfl⟩
              rewrite [← hwo] at hbw HY0 z1
              rewrite [← hwo]
              clear hwo
              go_wp2_with fail
              go_loopw [21, 22] (fun s i wr => ∃ u : Nat, u ≤ m2 ∧ i = .int .i64 u ∧ s = .int .i64 (loadC (ck.pl.take u) nm : Nat) ∧ Hid (Below wo.heap.size wo wr)) (fun _ i _ => m2 - (intOf i).toNat)
              case atStart => exact ⟨0, Nat.zero_le _, rfl, rfl, Below.refl _ _⟩
              case round =>
                clear z1
                obtain ⟨u, hu, rfl, rfl, hbu⟩ := hrel
                have hbv := Lib.hid (bch hbw.out hbu.out)
                have z1 := Blk.cell (Blk.below X2.out hbv.out) 1
                have z2 := Blk.cell (Blk.below X2.out hbv.out) 2
                simp only [List.getElem?_toArray, List.getElem?_cons_zero, List.getElem?_cons_succ] at z1 z2
                by_cases hlu : u < m2
                · have HU : Hid (u < ck.pl.length) := by show u < _; have := HPL2.out; omega
                  have hui : (u : Int) < (m2 : Int) := by omega
                  obtain ⟨bp, offp, hB, hbp, u0, u1, u2⟩ := is3_at (I2.out.below hbv.out).2 (atP9_get HU.out)
                  subst hB
                  have y0 := HY0.out _ hbu.out
                  have HHP : Hid (hasP nm (atP9 ck.pl u) = ((atP9 ck.pl u).1 == nm)) := still_has HCK.out.1 HMN.out (atP9_mem HU.out)
                  have HST := Lib.hid (load_take ck.pl nm u HU.out)
                  have hle : loadC (ck.pl.take u) nm ≤ u := Nat.le_trans List.countP_le_length (by simp; omega)
                  generalize atP9 ck.pl u = pz at *
                  generalize loadC (ck.pl.take u) nm = cn at *
                  obtain ⟨ow, ep, tz⟩ := pz
                  simp only at u0 u1 u2 HHP
                  clear hbp u1 u2
                  go_upto_region 26 with fail
                  by_cases he : ow = nm
                  · have e1 : (ow == nm) = true := by simpa using he
                    have HNX : Hid (loadC (ck.pl.take (u + 1)) nm = cn + 1) := by show _ = _; rw [HST.out, if_pos (by rw [HHP.out]; exact e1)]
                    clear he
                    go_quiet (fail)
                    go_wp2_with fail
                    go_roundw
                    case rel => exact ⟨u + 1, by omega, by go_num, by rw [HNX.out]; go_num, bdn hbu.out _⟩
                    case measure => simp [intOf]; omega
                  · have e1 : (ow == nm) = false := by simpa using he
                    have HNX : Hid (loadC (ck.pl.take (u + 1)) nm = cn) := by show _ = _; rw [HST.out, if_neg (by rw [HHP.out, e1]; simp), Nat.add_zero]
                    clear he
                    go_quiet (fail)
                    go_wp2_with fail
                    go_roundw
                    case rel => exact ⟨u + 1, by omega, by go_num, by rw [HNX.out], bdn hbu.out _⟩
                    case measure => simp [intOf]; omega
                · have hue : u = m2 := by omega
                  have hui : (m2 : Int) ≤ (u : Int) := by omega
                  have HFU : Hid (loadC (ck.pl.take u) nm = loadC ck.pl nm) := by show _ = _; rw [hue, HPL2.out, List.take_length]
                  have HCN := Lib.hid (HF8.out nm)
                  have HFM : Hid (∀ x, x = loadC ck.pl nm → (∃ y, isMem ck.mem y ∧ x = loadC ck.pl y)) := fun x e => ⟨nm, HMN.out, e⟩
                  generalize loadC (ck.pl.take u) nm = cn at *
                  have HFE : Hid (cn = loadC ck.pl nm) := HFU.out
                  have hcn8 : cn ≤ 8 := by have := HCN.out; have := HFE.out; omega
                  have hlo9 := HLO.out.1
                  clear hue hu HFU
                  by_cases g1_ : cn < lo
                  · have a1 : (cn : Int) < (lo : Int) := by omega
                    have a2 : ¬ ((lo : Int) ≤ (cn : Int)) := by omega
                    by_cases g2_ : hi < cn
                    · have a3 : (hi : Int) < (cn : Int) := by omega
                      clear g1_ g2_
                      go_wp2_with fail
                      go_roundw
                      case rel =>
                        refine ⟨r + 1, by omega, by go_num, cn, cn, rfl, rfl, .inr ⟨Nat.succ_pos _, ?_, ?_⟩, bch hbw.out hbu.out⟩
                        · exact HFM.out cn HFE.out
                        · exact HFM.out cn HFE.out
                      case measure => simp [intOf]; omega
                    · have a3 : (cn : Int) ≤ (hi : Int) := by omega
                      clear g1_ g2_
                      go_wp2_with fail
                      go_roundw
                      case rel =>
                        refine ⟨r + 1, by omega, by go_num, cn, hi, rfl, rfl, .inr ⟨Nat.succ_pos _, ?_, ?_⟩, bch hbw.out hbu.out⟩
                        · exact HFM.out cn HFE.out
                        · rcases HLH.out with ⟨_, _, h9⟩ | ⟨_, _, h9⟩
                          · refine HFM.out _ ?_; have := HFE.out; omega
                          · exact h9
                      case measure => simp [intOf]; omega
                  · have a1 : (lo : Int) ≤ (cn : Int) := by omega
                    by_cases g2_ : hi < cn
                    · have a3 : (hi : Int) < (cn : Int) := by omega
                      clear g1_ g2_
                      go_wp2_with fail
                      go_roundw
                      case rel =>
                        refine ⟨r + 1, by omega, by go_num, lo, cn, rfl, rfl, .inr ⟨Nat.succ_pos _, ?_, ?_⟩, bch hbw.out hbu.out⟩
                        · rcases HLH.out with ⟨_, h9, _⟩ | ⟨_, h9, _⟩
                          · exfalso; omega
                          · exact h9
                        · exact HFM.out cn HFE.out
                      case measure => simp [intOf]; omega
                    · have a3 : (cn : Int) ≤ (hi : Int) := by omega
                      clear g1_ g2_
                      go_wp2_with fail
                      go_roundw
                      case rel =>
                        refine ⟨r + 1, by omega, by go_num, lo, hi, rfl, rfl, .inr ⟨Nat.succ_pos _, ?_, ?_⟩, bch hbw.out hbu.out⟩
                        · rcases HLH.out with ⟨_, h9, _⟩ | ⟨_, h9, _⟩
                          · exfalso; omega
                          · exact h9
                        · rcases HLH.out with ⟨_, _, h9⟩ | ⟨_, _, h9⟩
                          · refine HFM.out _ ?_; have := HFE.out; omega
                          · exact h9
                      case measure => simp [intOf]; omega
            · have hre : r = n2 := by omega
              have hri : (n2 : Int) ≤ (r : Int) := by omega
              have HBF := Lib.hid (bch HB.out hbw.out)
              have hdd : hi ≤ lo + 1 := by
                rcases HLH.out with ⟨h0, _, _⟩ | ⟨_, ⟨x, hx, rfl⟩, ⟨y, hy, rfl⟩⟩
                · omega
                · exact still_even HCK.out.1 HBL.out hy hx
              have hwl : IntKind.i64.wrap ((hi : Int) - (lo : Int)) = (hi : Int) - (lo : Int) := IntWalk.i64_in _ (by have := HLO.out; omega)
              have d1 : decide ((hi : Int) - (lo : Int) ≤ 1) = true := decide_eq_true (by omega)
              clear hre hr hdd
              go_wp2_with fail
              go_ret
              exact ⟨rfl, HBF.out⟩
end Go.Proofs.Ytndkmepdnekigaa
