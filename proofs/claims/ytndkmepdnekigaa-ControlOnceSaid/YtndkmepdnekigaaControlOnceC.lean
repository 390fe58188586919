import Derived.Test.YtndkmepdnekigaaCtAwake
import Derived.Test.YtndkmepdnekigaaCtIn
import Derived.Test.YtndkmepdnekigaaCtSame
/-
  Finalised twice is finalised once; who joined has no shard, and is the only one more. (The law 'ControlOnce' over what is asked of the program.)
-/
namespace Go.Proofs.Ytndkmepdnekigaa
open Go.RowKit
set_option linter.unusedVariables false
set_option linter.unusedSimpArgs false

set_option maxRecDepth 100000 in
set_option maxHeartbeats 40000000 in
theorem controlOnce_core (kR : RightC9) (kN : NewC9) (kJ : JoinC9) (kP : ReportC9) (kF : FinalC9) (kL : PlanC9) (kM : CommitC9) (kC : CancelC9) (kB : BalC9) (x y : Int) (A : Option Addr) (n cap : Nat) (f : Nat → Nat → Int) (z : Int) (w : World) (wx : (Lit.int .i64 x).wf = true) (wy : (Lit.int .i64 y).wf = true) (wr0 : IsRaw w A n 3 f) (wz : (Lit.int .i64 z).wf = true) :
    Calls Try.prog 7 #[.int .i64 x, .int .i64 y, .slice A n cap, .int .i64 z] w fun e w' => e = .returned (.bool true) ∧ Below w.heap.size w w' := by
  have qa := awake18_any kR kN kJ kP kF kL kM kC kB w
  go_enter Try.func7, Try.ntmps7
  go_wp2_with fail
  ((with_reducible refine qa.mono ?_); rintro e V0 ⟨rfl, b⟩)
  have HB := Lib.hid b
  have qc := control_any x y A n cap f V0 wx wy (wr0.below b)
  have HOK : Hid (CtOk (ctlC x y f n)) := ctlC_ok x y f n
  have HEP : Hid (∀ p ∈ (ctlC x y f n).pl, p.2.1 ≤ 31) := ctlC_ep x y f n
  generalize ctlC x y f n = c at *
  clear b qa wr0
  go_wp2_with fail
  ((with_reducible refine qc.mono ?_); rintro e V1 ⟨A1, n1, c1, B1, m1, d1, rfl, hr1, hp1, hne1, b⟩)
  clear qc
  obtain ⟨_, _, hv1, hk1, hi1⟩ := hr1.parts
  obtain ⟨rfl, hl1, rfl⟩ := slice_eqG hv1
  obtain ⟨_, _, hv2, hk2, hi2⟩ := hp1.parts
  obtain ⟨rfl, hl2, rfl⟩ := slice_eqG hv2
  rewrite [← hl1] at hi1
  rewrite [← hl2] at hi2
  have I1 : Hid (IsCt V1 c A1 n1 B1 m1) := ⟨hi1, hi2⟩
  have S1 : Hid (n1 ≤ c1 ∧ m1 ≤ d1) := ⟨by omega, by omega⟩
  have HN1 : Hid (n1 = c.mem.length) := hl1
  have HM1 : Hid (m1 = c.pl.length) := hl2
  have hn18 : 1 ≤ n1 ∧ n1 ≤ 8 := by have := HOK.out.1.2.1; omega
  have hm18 : 1 ≤ m1 ∧ m1 ≤ 8 := by have := HOK.out.1.2.2.1; omega
  have HR1 := Lib.hid hr1; have HP1 := Lib.hid hp1; have HNE1 := Lib.hid hne1
  clear hv1 hv2 hk1 hk2 hi1 hi2 hl1 hl2 hr1 hp1 hne1
  have HBx := Lib.hid (bch HB.out b); clear HB
  have HB := HBx; clear HBx b
  go_upto_region 3 with fail
  have hba := ba9 V1 (ctB c A1 n1 c1 B1 m1 d1)
  have X1 := Lib.hid (Blk.new V1 (ctB c A1 n1 c1 B1 m1 d1))
  have I1_ := Lib.hid (I1.out.below hba); clear I1
  have I1 := I1_; clear I1_
  have HR1_ := Lib.hid (HR1.out.below hba); clear HR1
  have HR1 := HR1_; clear HR1_
  have HP1_ := Lib.hid (HP1.out.below hba); clear HP1
  have HP1 := HP1_; clear HP1_
  have HB_ := Lib.hid (bch HB.out hba); clear HB
  have HB := HB_; clear HB_
  obtain ⟨W1, hW⟩ : ∃ X, V1.alloc (ctB c A1 n1 c1 B1 m1 d1) = X := ⟨_, rfl⟩
  rewrite [hW] at X1 HB I1 HR1 HP1
  rewrite [hW]
  clear hW hba
  generalize hg1 : V1.heap.size = g1 at *
  clear hg1
  have HRC := Lib.hid HOK.out.1
  have HCW := Lib.hid HOK.out.2.1
  have HSM : Hid (c.mem.length ≤ 20 ∧ c.pl.length ≤ 20) := by have h := HOK.out.1.small; exact ⟨by omega, by omega⟩
  clear HNE1 HR1 HP1 HEP
  have hqn := pickN_lt z 50 (by decide)
  have qj := pick_nat z 50 (by decide) (by decide) wz
  generalize pickN z 50 = jq at *
  have HFA : Hid (¬ isMem c.mem (50 + (jq : Int))) := HOK.out.far (by omega)
  have HJQ : Hid (jq < 50) := by show _ < _; omega
  have hjqi : (jq : Int) < 50 := by omega
  obtain ⟨cf, zf, hf1, hf2⟩ : ∃ cf zf, finalC c = (cf, zf) ∧ finalC cf = (cf, zf) := by
    by_cases ha : ∀ m ∈ c.mem, m.2 = 2
    · have h1 := gate_yes HRC.out ha
      exact ⟨_, _, h1.1, (gate_yes h1.2 ha).1⟩
    · have h1 := gate_no HRC.out ha
      exact ⟨_, _, h1.1, h1.1⟩
  have HFW : Hid (CtW cf) := by have h := CtW.final HCW.out; rewrite [hf1] at h; exact h
  have HFS : Hid (cf.mem.length ≤ 20 ∧ cf.pl.length ≤ 20) := by
    have h : cf.mem.length ≤ 8 ∧ cf.pl.length ≤ 8 := by have h := (final_right HRC.out).small; rewrite [hf1] at h; exact h
    exact ⟨by omega, by omega⟩
  have HE1 := Lib.hid hf1
  have HE2 := Lib.hid hf2
  clear hf1 hf2
  have a0 := Blk.cell X1.out 0
  have a1 := Blk.cell X1.out 1
  have a2 := Blk.cell X1.out 2
  simp only [List.getElem?_toArray, List.getElem?_cons_zero, List.getElem?_cons_succ] at a0 a1 a2
  go_wp2_with fail
  have q := (kF c A1 B1 n1 c1 m1 d1  W1 (ctArg I1.out HCW.out HSM.out S1.out.1 S1.out.2) ).mono (fun e w' h => h.at HE1.out (lv := (cf).level) rfl)
  ((with_reducible refine q.mono ?_); rintro e V3 ⟨A2, n2, c2, B2, m2, d2, rfl, h1, h2, ct, b⟩)
  clear q a0 a1 a2
  have I1_ := Lib.hid (I1.out.below b); clear I1
  have I1 := I1_; clear I1_
  have X1_ := Lib.hid (Blk.below X1.out b); clear X1
  have X1 := X1_; clear X1_
  have HB_ := Lib.hid (bch HB.out b); clear HB
  have HB := HB_; clear HB_
  clear b
  have I2 := Lib.hid ct
  have S2 : Hid (n2 ≤ c2 ∧ m2 ≤ d2) := ⟨h1, h2⟩
  clear h1 h2 ct
  go_upto_region 4 with fail
  have hba := ba9 V3 (ctB (cf) A2 n2 c2 B2 m2 d2)
  have X2 := Lib.hid (Blk.new V3 (ctB (cf) A2 n2 c2 B2 m2 d2))
  have I1_ := Lib.hid (I1.out.below hba); clear I1
  have I1 := I1_; clear I1_
  have X1_ := Lib.hid (Blk.below X1.out hba); clear X1
  have X1 := X1_; clear X1_
  have I2_ := Lib.hid (I2.out.below hba); clear I2
  have I2 := I2_; clear I2_
  have HB_ := Lib.hid (bch HB.out hba); clear HB
  have HB := HB_; clear HB_
  obtain ⟨W3, hW⟩ : ∃ X, V3.alloc (ctB (cf) A2 n2 c2 B2 m2 d2) = X := ⟨_, rfl⟩
  rewrite [hW] at X2 HB I1 X1 I2
  rewrite [hW]
  clear hW hba
  generalize hg2 : V3.heap.size = g2 at *
  clear hg2
  have a0 := Blk.cell X2.out 0
  have a1 := Blk.cell X2.out 1
  have a2 := Blk.cell X2.out 2
  simp only [List.getElem?_toArray, List.getElem?_cons_zero, List.getElem?_cons_succ] at a0 a1 a2
  go_wp2_with fail
  have q := (kF cf A2 B2 n2 c2 m2 d2  W3 (ctArg I2.out HFW.out HFS.out S2.out.1 S2.out.2) ).mono (fun e w' h => h.at HE2.out (lv := (cf).level) rfl)
  ((with_reducible refine q.mono ?_); rintro e V4 ⟨A3, n3, c3, B3, m3, d3, rfl, h1, h2, ct, b⟩)
  clear q a0 a1 a2
  have I1_ := Lib.hid (I1.out.below b); clear I1
  have I1 := I1_; clear I1_
  have X1_ := Lib.hid (Blk.below X1.out b); clear X1
  have X1 := X1_; clear X1_
  have I2_ := Lib.hid (I2.out.below b); clear I2
  have I2 := I2_; clear I2_
  have X2_ := Lib.hid (Blk.below X2.out b); clear X2
  have X2 := X2_; clear X2_
  have HB_ := Lib.hid (bch HB.out b); clear HB
  have HB := HB_; clear HB_
  clear b
  have I3 := Lib.hid ct
  have S3 : Hid (n3 ≤ c3 ∧ m3 ≤ d3) := ⟨h1, h2⟩
  clear h1 h2 ct
  go_upto_region 5 with fail
  have hba := ba9 V4 (ctB (cf) A3 n3 c3 B3 m3 d3)
  have X3 := Lib.hid (Blk.new V4 (ctB (cf) A3 n3 c3 B3 m3 d3))
  have I1_ := Lib.hid (I1.out.below hba); clear I1
  have I1 := I1_; clear I1_
  have X1_ := Lib.hid (Blk.below X1.out hba); clear X1
  have X1 := X1_; clear X1_
  have I2_ := Lib.hid (I2.out.below hba); clear I2
  have I2 := I2_; clear I2_
  have X2_ := Lib.hid (Blk.below X2.out hba); clear X2
  have X2 := X2_; clear X2_
  have I3_ := Lib.hid (I3.out.below hba); clear I3
  have I3 := I3_; clear I3_
  have HB_ := Lib.hid (bch HB.out hba); clear HB
  have HB := HB_; clear HB_
  obtain ⟨W4, hW⟩ : ∃ X, V4.alloc (ctB (cf) A3 n3 c3 B3 m3 d3) = X := ⟨_, rfl⟩
  rewrite [hW] at X3 HB I1 X1 I2 X2 I3
  rewrite [hW]
  clear hW hba
  generalize hg3 : V4.heap.size = g3 at *
  clear hg3
  have a0 := Blk.cell X2.out 0
  have a1 := Blk.cell X2.out 1
  have a2 := Blk.cell X2.out 2
  simp only [List.getElem?_toArray, List.getElem?_cons_zero, List.getElem?_cons_succ] at a0 a1 a2
  have b0 := Blk.cell X3.out 0
  have b1 := Blk.cell X3.out 1
  have b2 := Blk.cell X3.out 2
  simp only [List.getElem?_toArray, List.getElem?_cons_zero, List.getElem?_cons_succ] at b0 b1 b2
  go_wp2_with fail
  have q := by
    have q := refsamec_any cf cf A2 B2 A3 B3 n2 c2 m2 d2 n3 c3 m3 d3 W4 I2.out I3.out
    rewrite [show decide (cf = cf) = true from decide_eq_true rfl] at q
    exact q
  ((with_reducible refine q.mono ?_); rintro e V5 ⟨rfl, b⟩)
  clear q a0 a1 a2 b0 b1 b2
  have I1_ := Lib.hid (I1.out.below b); clear I1
  have I1 := I1_; clear I1_
  have X1_ := Lib.hid (Blk.below X1.out b); clear X1
  have X1 := X1_; clear X1_
  have I2_ := Lib.hid (I2.out.below b); clear I2
  have I2 := I2_; clear I2_
  have X2_ := Lib.hid (Blk.below X2.out b); clear X2
  have X2 := X2_; clear X2_
  have I3_ := Lib.hid (I3.out.below b); clear I3
  have I3 := I3_; clear I3_
  have X3_ := Lib.hid (Blk.below X3.out b); clear X3
  have X3 := X3_; clear X3_
  have HB_ := Lib.hid (bch HB.out b); clear HB
  have HB := HB_; clear HB_
  clear b
  clear X2 X3 I2 I3 S2 S3
  go_wp2_with fail
  ((with_reducible refine (qj _).mono ?_); rintro e V6 ⟨rfl, rfl⟩)
  clear qj
  have hjn := join_new HRC.out (x := 50 + (jq : Int)) (b := 2) (by omega) (by have := HJQ.out; omega) HFA.out (.inr rfl) rfl
  have HJN := Lib.hid hjn
  clear hjn
  by_cases h8 : 8 ≤ c.mem.length
  · have HEJ : Hid (joinC c (50 + (jq : Int)) 2 = (c, 50)) := by show _ = _; rw [HJN.out, if_pos h8]
    have e8 : ((n1 : Int) == 8) = true := by have := HN1.out; simp; omega
    have e8n : (n1 == 8) = true := by have := HN1.out; simp; omega
    clear h8 HJN
    have a0 := Blk.cell X1.out 0
    have a1 := Blk.cell X1.out 1
    have a2 := Blk.cell X1.out 2
    simp only [List.getElem?_toArray, List.getElem?_cons_zero, List.getElem?_cons_succ] at a0 a1 a2
    go_wp2_with fail
    have q := (kJ c A1 B1 n1 c1 m1 d1 (50 + (jq : Int)) 2 V5 (ctArg I1.out HCW.out HSM.out S1.out.1 S1.out.2) (wf_i (by omega) (by have := HJQ.out; omega)) (wf_i (t := 2) (by decide) (by decide))).mono (fun e w' h => h.at HEJ.out (lv := (c).level) rfl)
    ((with_reducible refine q.mono ?_); rintro e V7 ⟨A4, n4, c4, B4, m4, d4, rfl, h1, h2, ct, b⟩)
    clear q a0 a1 a2
    have I1_ := Lib.hid (I1.out.below b); clear I1
    have I1 := I1_; clear I1_
    have X1_ := Lib.hid (Blk.below X1.out b); clear X1
    have X1 := X1_; clear X1_
    have HB_ := Lib.hid (bch HB.out b); clear HB
    have HB := HB_; clear HB_
    clear b
    have I4 := Lib.hid ct
    have S4 : Hid (n4 ≤ c4 ∧ m4 ≤ d4) := ⟨h1, h2⟩
    clear h1 h2 ct
    go_upto_region 9 with fail
    have hba := ba9 V7 (ctB (c) A4 n4 c4 B4 m4 d4)
    have X4 := Lib.hid (Blk.new V7 (ctB (c) A4 n4 c4 B4 m4 d4))
    have I1_ := Lib.hid (I1.out.below hba); clear I1
    have I1 := I1_; clear I1_
    have X1_ := Lib.hid (Blk.below X1.out hba); clear X1
    have X1 := X1_; clear X1_
    have I4_ := Lib.hid (I4.out.below hba); clear I4
    have I4 := I4_; clear I4_
    have HB_ := Lib.hid (bch HB.out hba); clear HB
    have HB := HB_; clear HB_
    obtain ⟨W7, hW⟩ : ∃ X, V7.alloc (ctB (c) A4 n4 c4 B4 m4 d4) = X := ⟨_, rfl⟩
    rewrite [hW] at X4 HB I1 X1 I4
    rewrite [hW]
    clear hW hba
    generalize hg4 : V7.heap.size = g4 at *
    clear hg4
    have p1 := Blk.cell X1.out 1
    simp only [List.getElem?_toArray, List.getElem?_cons_zero, List.getElem?_cons_succ] at p1
    go_wp2_with fail
    go_ret
    exact ⟨rfl, HB.out⟩
  · obtain ⟨cj, hcj⟩ : ∃ cj : CtR, cj = ⟨c.level, insM c.mem (50 + (jq : Int), 2), c.pl⟩ := ⟨_, rfl⟩
    have hej : joinC c (50 + (jq : Int)) 2 = (cj, 0) := by rewrite [HJN.out, if_neg h8, hcj]; rfl
    have HCJ : Hid (RightC cj ∧ CtW cj) := by
      have h := join_right (x := 50 + (jq : Int)) (b := 2) HRC.out
      have h2 := CtW.join (x := 50 + (jq : Int)) (b := 2) HCW.out (wf_i (by omega) (by have := HJQ.out; omega)) (wf_i (by decide) (by decide))
      rewrite [hej] at h h2
      exact ⟨h, h2⟩
    have HJS : Hid (cj.mem.length ≤ 20 ∧ cj.pl.length ≤ 20) := by have h := HCJ.out.1.small; exact ⟨by omega, by omega⟩
    have HPARTS : Hid (cj.level = c.level ∧ cj.mem = insM c.mem (50 + (jq : Int), 2) ∧ cj.pl = c.pl) := by rewrite [hcj]; exact ⟨rfl, rfl, rfl⟩
    have HEA : Hid (joinC cj (50 + (jq : Int)) 2 = (cj, 1)) := by
      show _ = _
      unfold joinC
      rewrite [if_pos (.inr (.inr (.inr (.inr (by rw [HPARTS.out.2.1]; exact ⟨_, ins_mem.2 (.inl rfl), rfl⟩)))))]; rfl
    have HEJ := Lib.hid hej
    clear hej hcj h8 HJN
    have a0 := Blk.cell X1.out 0
    have a1 := Blk.cell X1.out 1
    have a2 := Blk.cell X1.out 2
    simp only [List.getElem?_toArray, List.getElem?_cons_zero, List.getElem?_cons_succ] at a0 a1 a2
    go_wp2_with fail
    have q := (kJ c A1 B1 n1 c1 m1 d1 (50 + (jq : Int)) 2 V5 (ctArg I1.out HCW.out HSM.out S1.out.1 S1.out.2) (wf_i (by omega) (by have := HJQ.out; omega)) (wf_i (t := 2) (by decide) (by decide))).mono (fun e w' h => h.at HEJ.out (lv := (cj).level) rfl)
    ((with_reducible refine q.mono ?_); rintro e V7 ⟨A4, n4, c4, B4, m4, d4, rfl, h1, h2, ct, b⟩)
    clear q a0 a1 a2
    have I1_ := Lib.hid (I1.out.below b); clear I1
    have I1 := I1_; clear I1_
    have X1_ := Lib.hid (Blk.below X1.out b); clear X1
    have X1 := X1_; clear X1_
    have HB_ := Lib.hid (bch HB.out b); clear HB
    have HB := HB_; clear HB_
    clear b
    have I4 := Lib.hid ct
    have S4 : Hid (n4 ≤ c4 ∧ m4 ≤ d4) := ⟨h1, h2⟩
    clear h1 h2 ct
    go_upto_region 9 with fail
    have hba := ba9 V7 (ctB (cj) A4 n4 c4 B4 m4 d4)
    have X4 := Lib.hid (Blk.new V7 (ctB (cj) A4 n4 c4 B4 m4 d4))
    have I1_ := Lib.hid (I1.out.below hba); clear I1
    have I1 := I1_; clear I1_
    have X1_ := Lib.hid (Blk.below X1.out hba); clear X1
    have X1 := X1_; clear X1_
    have I4_ := Lib.hid (I4.out.below hba); clear I4
    have I4 := I4_; clear I4_
    have HB_ := Lib.hid (bch HB.out hba); clear HB
    have HB := HB_; clear HB_
    obtain ⟨W7, hW⟩ : ∃ X, V7.alloc (ctB (cj) A4 n4 c4 B4 m4 d4) = X := ⟨_, rfl⟩
    rewrite [hW] at X4 HB I1 X1 I4
    rewrite [hW]
    clear hW hba
    generalize hg4 : V7.heap.size = g4 at *
    clear hg4
    have HN4 : Hid (n4 = cj.mem.length) := I4.out.1.1
    have HNN : Hid (n4 = n1 + 1) := by show _ = _; rw [HN4.out, HPARTS.out.2.1, ins_len, HN1.out]
    have hn48 : n4 ≤ 20 := by have := HJS.out.1; have := HN4.out; omega
    go_wp2_with fail
    go_loopw [18, 19] (fun s i wr => ∃ k : Nat, k ≤ n4 ∧ i = .int .i64 k ∧ s = .int .i64 (cntM cj.mem (50 + (jq : Int), 2) k : Nat) ∧ Hid (Below W7.heap.size W7 wr)) (fun _ i _ => n4 - (intOf i).toNat)
    case atStart => exact ⟨0, Nat.zero_le _, rfl, rfl, Below.refl _ _⟩
    case round =>
      obtain ⟨k, hk, rfl, rfl, hbw⟩ := hrel
      have z1 := Blk.cell (Blk.below X4.out hbw.out) 1
      simp only [List.getElem?_toArray, List.getElem?_cons_zero, List.getElem?_cons_succ] at z1
      by_cases hlt : k < n4
      · have HK : Hid (k < cj.mem.length) := by show k < _; have := HN4.out; omega
        have hki : (k : Int) < (n4 : Int) := by omega
        obtain ⟨b, off, hA, hbb, y0, y1⟩ := is2_at (I4.out.below hbw.out).1 (atM9_get HK.out)
        subst hA
        have HST : Hid (cntM cj.mem (50 + (jq : Int), 2) (k + 1) = cntM cj.mem (50 + (jq : Int), 2) k + (if atM9 cj.mem k = (50 + (jq : Int), 2) then 1 else 0)) := cntM_succ HK.out
        have hle : cntM cj.mem (50 + (jq : Int), 2) k ≤ k := cntM_le _ _ _
        generalize atM9 cj.mem k = pm at *
        generalize cntM cj.mem (50 + (jq : Int), 2) k = cn at *
        have eW := eqMb pm (50 + (jq : Int), 2)
        have gW := guardMb
        obtain ⟨nm, nb⟩ := pm
        simp only at y0 y1
        by_cases he : nm = 50 + (jq : Int) ∧ nb = 2
        · obtain ⟨rfl, rfl⟩ := he
          have HS2 : Hid (cntM cj.mem (50 + (jq : Int), 2) (k + 1) = cn + 1) := by show _ = _; rw [HST.out, if_pos rfl]
          go_wp2_with fail
          go_roundw
          case rel => exact ⟨k + 1, by omega, by go_num, by rw [HS2.out]; go_num, hbw.out⟩
          case measure => simp [intOf]; omega
        · have hne : ((nm, nb) : MbR) ≠ (50 + (jq : Int), 2) := fun h => he ⟨congrArg Prod.fst h, congrArg Prod.snd h⟩
          have HS2 : Hid (cntM cj.mem (50 + (jq : Int), 2) (k + 1) = cn) := by show _ = _; rw [HST.out, if_neg hne, Nat.add_zero]
          have eN : decide (((nm, nb) : MbR) = (50 + (jq : Int), 2)) = false := decide_eq_false hne
          rewrite [eN] at eW
          clear he hne eN
          go_wp2_with fail
          go_roundw
          case rel => exact ⟨k + 1, by omega, by go_num, by rw [HS2.out], hbw.out⟩
          case measure => simp [intOf]; omega
      · have hke : k = n4 := by omega
        have hki : (n4 : Int) ≤ (k : Int) := by omega
        have HC1 : Hid (cntM cj.mem (50 + (jq : Int), 2) k = 1) := by
          show _ = _
          rw [hke, HN4.out, HPARTS.out.2.1]
          exact cntM_ins HFA.out
        generalize cntM cj.mem (50 + (jq : Int), 2) k = cn at *
        obtain rfl : cn = 1 := HC1.out
        clear hke hk HC1
        have hb9 := hbw.out
        clear hbw z1
        have I1_ := Lib.hid (I1.out.below hb9); clear I1
        have I1 := I1_; clear I1_
        have X1_ := Lib.hid (Blk.below X1.out hb9); clear X1
        have X1 := X1_; clear X1_
        have I4_ := Lib.hid (I4.out.below hb9); clear I4
        have I4 := I4_; clear I4_
        have X4_ := Lib.hid (Blk.below X4.out hb9); clear X4
        have X4 := X4_; clear X4_
        have HB_ := Lib.hid (bch HB.out hb9); clear HB
        have HB := HB_; clear HB_
        clear hb9
        obtain ⟨W8, hW⟩ : ∃ X, X = wr := ⟨_, rfl⟩
        rewrite [← hW] at HB I1 X1 I4 X4
        rewrite [← hW]
        clear hW
        have a0 := Blk.cell X4.out 0
        have a1 := Blk.cell X4.out 1
        have a2 := Blk.cell X4.out 2
        simp only [List.getElem?_toArray, List.getElem?_cons_zero, List.getElem?_cons_succ] at a0 a1 a2
        go_wp2_with fail
        have q := (kJ cj A4 B4 n4 c4 m4 d4 (50 + (jq : Int)) 2 W8 (ctArg I4.out HCJ.out.2 HJS.out S4.out.1 S4.out.2) (wf_i (by omega) (by have := HJQ.out; omega)) (wf_i (t := 2) (by decide) (by decide))).mono (fun e w' h => h.at HEA.out (lv := (cj).level) rfl)
        ((with_reducible refine q.mono ?_); rintro e V9 ⟨A5, n5, c5, B5, m5, d5, rfl, h1, h2, ct, b⟩)
        clear q a0 a1 a2
        have I1_ := Lib.hid (I1.out.below b); clear I1
        have I1 := I1_; clear I1_
        have X1_ := Lib.hid (Blk.below X1.out b); clear X1
        have X1 := X1_; clear X1_
        have I4_ := Lib.hid (I4.out.below b); clear I4
        have I4 := I4_; clear I4_
        have X4_ := Lib.hid (Blk.below X4.out b); clear X4
        have X4 := X4_; clear X4_
        have HB_ := Lib.hid (bch HB.out b); clear HB
        have HB := HB_; clear HB_
        clear b
        have I5 := Lib.hid ct
        have S5 : Hid (n5 ≤ c5 ∧ m5 ≤ d5) := ⟨h1, h2⟩
        clear h1 h2 ct
        go_upto_region 18 with fail
        have hba := ba9 V9 (ctB (cj) A5 n5 c5 B5 m5 d5)
        have X5 := Lib.hid (Blk.new V9 (ctB (cj) A5 n5 c5 B5 m5 d5))
        have I1_ := Lib.hid (I1.out.below hba); clear I1
        have I1 := I1_; clear I1_
        have X1_ := Lib.hid (Blk.below X1.out hba); clear X1
        have X1 := X1_; clear X1_
        have I4_ := Lib.hid (I4.out.below hba); clear I4
        have I4 := I4_; clear I4_
        have X4_ := Lib.hid (Blk.below X4.out hba); clear X4
        have X4 := X4_; clear X4_
        have I5_ := Lib.hid (I5.out.below hba); clear I5
        have I5 := I5_; clear I5_
        have HB_ := Lib.hid (bch HB.out hba); clear HB
        have HB := HB_; clear HB_
        obtain ⟨W9, hW⟩ : ∃ X, V9.alloc (ctB (cj) A5 n5 c5 B5 m5 d5) = X := ⟨_, rfl⟩
        rewrite [hW] at X5 HB I1 X1 I4 X4 I5
        rewrite [hW]
        clear hW hba
        generalize hg5 : V9.heap.size = g5 at *
        clear hg5
        have p0 := Blk.cell X4.out 0
        have p1 := Blk.cell X4.out 1
        have p2 := Blk.cell X4.out 2
        simp only [List.getElem?_toArray, List.getElem?_cons_zero, List.getElem?_cons_succ] at p0 p1 p2
        go_upto_region 19 with fail
        clear p0 p1 p2
        have HGK0 : Hid (w.heap.size ≤ W9.heap.size) := HB.out.size
        have HG1K : Hid (g1 ≠ W9.heap.size) := Nat.ne_of_lt (Blk.lt X1.out)
        have HG4K : Hid (g4 ≠ W9.heap.size) := Nat.ne_of_lt (Blk.lt X4.out)
        have hba := ba9 W9 (.cells #[.int .i64 cj.level, .slice A4 n4 c4, .slice B4 m4 d4] 26)
        have XK := Lib.hid (Blk.new W9 (.cells #[.int .i64 cj.level, .slice A4 n4 c4, .slice B4 m4 d4] 26))
        have I1_ := Lib.hid (I1.out.below hba); clear I1
        have I1 := I1_; clear I1_
        have X1_ := Lib.hid (Blk.below X1.out hba); clear X1
        have X1 := X1_; clear X1_
        have I4_ := Lib.hid (I4.out.below hba); clear I4
        have I4 := I4_; clear I4_
        have X4_ := Lib.hid (Blk.below X4.out hba); clear X4
        have X4 := X4_; clear X4_
        have I5_ := Lib.hid (I5.out.below hba); clear I5
        have I5 := I5_; clear I5_
        have X5_ := Lib.hid (Blk.below X5.out hba); clear X5
        have X5 := X5_; clear X5_
        have HB_ := Lib.hid (bch HB.out hba); clear HB
        have HB := HB_; clear HB_
        obtain ⟨W10, hW⟩ : ∃ X, W9.alloc (.cells #[.int .i64 cj.level, .slice A4 n4 c4, .slice B4 m4 d4] 26) = X := ⟨_, rfl⟩
        rewrite [hW] at XK HB I1 X1 I4 X4 I5 X5
        rewrite [hW]
        clear hW hba
        generalize hgk : W9.heap.size = gk at *
        clear hgk
        have k0 := Blk.cell XK.out 0
        have k1 := Blk.cell XK.out 1
        have k2 := Blk.cell XK.out 2
        simp only [List.getElem?_toArray, List.getElem?_cons_zero, List.getElem?_cons_succ] at k0 k1 k2
        have r1 := Blk.cell X1.out 1
        simp only [List.getElem?_toArray, List.getElem?_cons_zero, List.getElem?_cons_succ] at r1
        have fk := Blk.frozen XK.out 1
        have HGK : Hid (w.heap.size ≤ gk) := by show _ ≤ _; exact HGK0.out
        have HX1N : Hid (g1 ≠ gk) := HG1K.out
        have HX4N : Hid (g4 ≠ gk) := HG4K.out
        go_upto_region 20 with fail
        have hk1 := Blk.set XK.out 1 (.slice A1 n1 c1) #[.int .i64 cj.level, .slice A1 n1 c1, .slice B4 m4 d4] rfl
        have hx4 := Blk.far X4.out HX4N.out 1 (.slice A1 n1 c1)
        have hx1 := Blk.far X1.out HX1N.out 1 (.slice A1 n1 c1)
        have hi1 := isCt_set (q := 1) XK.out I1.out (.slice A1 n1 c1)
        have hi4 := isCt_set (q := 1) XK.out I4.out (.slice A1 n1 c1)
        have hbk := HB.out.setCell (p := ⟨gk, 1, none⟩) HGK.out (.slice A1 n1 c1)
        obtain ⟨W11, hW⟩ : ∃ X, W10.setCell ⟨gk, 1, none⟩ (.slice A1 n1 c1) = X := ⟨_, rfl⟩
        rewrite [hW] at hk1 hx4 hx1 hi1 hi4 hbk
        rewrite [hW]
        clear hW XK X4 X1 I1 I4 HB k0 k1 k2 r1 fk X5 I5 S5
        have XK := Lib.hid hk1; have X4 := Lib.hid hx4; have X1 := Lib.hid hx1; have I1 := Lib.hid hi1; have I4 := Lib.hid hi4; have HB := Lib.hid hbk
        clear hk1 hx4 hx1 hi1 hi4 hbk
        have IK : Hid (IsCt W11 (⟨cj.level, c.mem, cj.pl⟩ : CtR) A1 n1 B4 m4) := ⟨I1.out.1, I4.out.2⟩
        have HKC : Hid ((⟨cj.level, c.mem, cj.pl⟩ : CtR) = c) := by show _ = _; rw [HPARTS.out.1, HPARTS.out.2.2]
        have p1 := Blk.cell X4.out 1
        simp only [List.getElem?_toArray, List.getElem?_cons_zero, List.getElem?_cons_succ] at p1
        have r1 := Blk.cell X1.out 1
        simp only [List.getElem?_toArray, List.getElem?_cons_zero, List.getElem?_cons_succ] at r1
        have enn : ((n4 : Int) == (n1 : Int) + 1) = true := by have := HNN.out; simp; omega
        have hwn : IntKind.i64.wrap ((n1 : Int) + 1) = (n1 : Int) + 1 := IntWalk.i64_in _ (by omega)
        have a0 := Blk.cell XK.out 0
        have a1 := Blk.cell XK.out 1
        have a2 := Blk.cell XK.out 2
        simp only [List.getElem?_toArray, List.getElem?_cons_zero, List.getElem?_cons_succ] at a0 a1 a2
        have b0 := Blk.cell X1.out 0
        have b1 := Blk.cell X1.out 1
        have b2 := Blk.cell X1.out 2
        simp only [List.getElem?_toArray, List.getElem?_cons_zero, List.getElem?_cons_succ] at b0 b1 b2
        go_wp2_with fail
        have q := (by
          have q := refsamec_any (⟨cj.level, c.mem, cj.pl⟩ : CtR) c A1 B4 A1 B1 n1 c1 m4 d4 n1 c1 m1 d1 W11 IK.out I1.out
          rewrite [show decide ((⟨cj.level, c.mem, cj.pl⟩ : CtR) = c) = true from decide_eq_true HKC.out] at q
          exact q)
        ((with_reducible refine q.mono ?_); rintro e V12 ⟨rfl, b⟩)
        clear q a0 a1 a2 b0 b1 b2
        have XK_ := Lib.hid (Blk.below XK.out b); clear XK
        have XK := XK_; clear XK_
        have X4_ := Lib.hid (Blk.below X4.out b); clear X4
        have X4 := X4_; clear X4_
        have X1_ := Lib.hid (Blk.below X1.out b); clear X1
        have X1 := X1_; clear X1_
        have I1_ := Lib.hid (I1.out.below b); clear I1
        have I1 := I1_; clear I1_
        have I4_ := Lib.hid (I4.out.below b); clear I4
        have I4 := I4_; clear I4_
        have IK_ := Lib.hid (IK.out.below b); clear IK
        have IK := IK_; clear IK_
        have HB_ := Lib.hid (bch HB.out b); clear HB
        have HB := HB_; clear HB_
        clear b
        clear p1 r1
        have a0 := Blk.cell X4.out 0
        have a1 := Blk.cell X4.out 1
        have a2 := Blk.cell X4.out 2
        simp only [List.getElem?_toArray, List.getElem?_cons_zero, List.getElem?_cons_succ] at a0 a1 a2
        go_wp2_with fail
        have q := (by
          have q := kR cj A4 B4 n4 c4 m4 d4 V12 (ctArg I4.out HCJ.out.2 HJS.out S4.out.1 S4.out.2)
          rewrite [show rightC cj = true from decide_eq_true HCJ.out.1] at q
          exact q)
        ((with_reducible refine q.mono ?_); rintro e V13 ⟨rfl, b⟩)
        clear q a0 a1 a2
        have XK_ := Lib.hid (Blk.below XK.out b); clear XK
        have XK := XK_; clear XK_
        have X4_ := Lib.hid (Blk.below X4.out b); clear X4
        have X4 := X4_; clear X4_
        have X1_ := Lib.hid (Blk.below X1.out b); clear X1
        have X1 := X1_; clear X1_
        have I1_ := Lib.hid (I1.out.below b); clear I1
        have I1 := I1_; clear I1_
        have I4_ := Lib.hid (I4.out.below b); clear I4
        have I4 := I4_; clear I4_
        have IK_ := Lib.hid (IK.out.below b); clear IK
        have IK := IK_; clear IK_
        have HB_ := Lib.hid (bch HB.out b); clear HB
        have HB := HB_; clear HB_
        clear b
        go_wp2_with fail
        go_ret
        exact ⟨rfl, HB.out⟩
end Go.Proofs.Ytndkmepdnekigaa
