import Derived.Test.YtndkmepdnekigaaCtAwake
import Derived.Test.YtndkmepdnekigaaCtIn
import Derived.Test.YtndkmepdnekigaaCtSame
import Derived.Test.YtndkmepdnekigaaCtBal
import Derived.Test.YtndkmepdnekigaaCtJoin
import Derived.Test.YtndkmepdnekigaaCtNew
import Derived.Test.YtndkmepdnekigaaCtPlan
import Derived.Test.YtndkmepdnekigaaCtFinal
import Derived.Test.YtndkmepdnekigaaCtCommit
/-
  What may be, and what each command does, is as the document says. (The law 'ControlTells' over what is asked of the program.)
-/
namespace Go.Proofs.Ytndkmepdnekigaa
open Go.RowKit
set_option linter.unusedVariables false
set_option linter.unusedSimpArgs false

theorem own_ct {V : World} {b : Nat} {c : CtR} {A B : Option Addr} {n cap m cm : Nat} (h1 : RowG s2 45 V b (.slice A n cap) c.mem) (h2 : RowG s3 48 V b (.slice B m cm) c.pl) : IsCt V c A n B m ∧ n ≤ cap ∧ m ≤ cm := by
  obtain ⟨_, _, e1, hc1, i1⟩ := h1.parts
  obtain ⟨rfl, rfl, rfl⟩ := slice_eqG e1
  obtain ⟨_, _, e2, hc2, i2⟩ := h2.parts
  obtain ⟨rfl, rfl, rfl⟩ := slice_eqG e2
  exact ⟨⟨i1, i2⟩, hc1, hc2⟩
/-- What a controller's element in a list of controllers is. -/
def CtEl (V : World) (L j : Nat) (ck : CtR) (A : Option Addr) (n cap : Nat) (B : Option Addr) (m cm : Nat) : Prop :=
  CtArg V ck A n cap B m cm ∧ ∀ V', Below V.heap.size V V' → V'.cell? ⟨L, j * 3, none⟩ = some (.int .i64 ck.level) ∧ V'.cell? ⟨L, j * 3 + 1, none⟩ = some (.slice A n cap) ∧ V'.cell? ⟨L, j * 3 + 2, none⟩ = some (.slice B m cm)
set_option maxRecDepth 100000 in
set_option maxHeartbeats 80000000 in
theorem controlTells_core (kR : RightC9) (kN : NewC9) (kJ : JoinC9) (kP : ReportC9) (kF : FinalC9) (kL : PlanC9) (kM : CommitC9) (kC : CancelC9) (kB : BalC9) (x y : Int) (A : Option Addr) (n cap : Nat) (f : Nat → Nat → Int) (cc : CtR) (Ac : Option Addr) (nc capc : Nat) (Bc : Option Addr) (mc cmc : Nat) (z1 z2 : Int) (w : World) (wx : (Lit.int .i64 x).wf = true) (wy : (Lit.int .i64 y).wf = true) (wr0 : IsRaw w A n 3 f) (wc0 : CtArg w cc Ac nc capc Bc mc cmc) (wz1 : (Lit.int .i64 z1).wf = true) (wz2 : (Lit.int .i64 z2).wf = true) :
    Calls Try.prog 3 #[.int .i64 x, .int .i64 y, .slice A n cap, ctV cc Ac nc capc Bc mc cmc, .int .i64 z1, .int .i64 z2] w fun e w' => e = .returned (.bool true) ∧ Below w.heap.size w w' := by
  have X90 := Blk.new w (ctB cc Ac nc capc Bc mc cmc)
  have hb00 := ba9 w (ctB cc Ac nc capc Bc mc cmc)
  obtain ⟨W0, hW⟩ : ∃ W, w.alloc (ctB cc Ac nc capc Bc mc cmc) = W := ⟨_, rfl⟩
  rewrite [hW] at X90 hb00
  have HW := Lib.hid hW; clear hW
  have X9 := Lib.hid X90; have HB := Lib.hid hb00; clear X90 hb00
  have WR := Lib.hid wr0; have WC := Lib.hid wc0; clear wr0 wc0
  go_enter Try.func3, Try.ntmps3
  go_upto_region 1 with fail
  rewrite [HW.out]
  clear HW
  go_wp2_with fail
  have q := awake18_any kR kN kJ kP kF kL kM kC kB W0
  ((with_reducible refine q.mono ?_); rintro e V1 ⟨rfl, b⟩)
  clear q
  have X9_ := Lib.hid (Blk.below X9.out b); clear X9
  have X9 := X9_; clear X9_
  have HB_ := Lib.hid (bch HB.out b); clear HB
  have HB := HB_; clear HB_
  clear b
  obtain ⟨k0, hk0⟩ : ∃ k, newC z1 z2 y = k := ⟨_, rfl⟩
  go_wp2_with fail
  have q := (by
    have q := kN z1 z2 y V1 wz1 wz2 wy
    rewrite [hk0] at q
    exact q)
  ((with_reducible refine q.mono ?_); rintro e V2a ⟨Ap1, np1, cp1, Bp1, mp1, dp1, rfl, h1, h2, ct, b⟩)
  clear q
  have X9_ := Lib.hid (Blk.below X9.out b); clear X9
  have X9 := X9_; clear X9_
  have HB_ := Lib.hid (bch HB.out b); clear HB
  have HB := HB_; clear HB_
  clear b
  have Ip1 := Lib.hid ct
  clear h1 h2 ct
  go_wp2_with fail
  have q := (by
    have q := refnew9_any z1 z2 y V2a wz1 wz2 wy
    rewrite [hk0] at q
    exact q)
  ((with_reducible refine q.mono ?_); rintro e V2b ⟨Aq1, nq1, cq1, Bq1, mq1, dq1, rfl, hr_, hp_, _, b⟩)
  clear q
  have X9_ := Lib.hid (Blk.below X9.out b); clear X9
  have X9 := X9_; clear X9_
  have Ip1_ := Lib.hid (Ip1.out.below b); clear Ip1
  have Ip1 := Ip1_; clear Ip1_
  have HB_ := Lib.hid (bch HB.out b); clear HB
  have HB := HB_; clear HB_
  clear b
  have Iq1 := Lib.hid (own_ct hr_ hp_).1
  clear hr_ hp_
  go_wp2_with fail
  have q := by
    have q := refsamec_any k0 k0 Ap1 Bp1 Aq1 Bq1 np1 cp1 mp1 dp1 nq1 cq1 mq1 dq1 V2b Ip1.out Iq1.out
    rewrite [show decide (k0 = k0) = true from decide_eq_true rfl] at q
    exact q
  ((with_reducible refine q.mono ?_); rintro e V3 ⟨rfl, b⟩)
  clear q
  have X9_ := Lib.hid (Blk.below X9.out b); clear X9
  have X9 := X9_; clear X9_
  have Ip1_ := Lib.hid (Ip1.out.below b); clear Ip1
  have Ip1 := Ip1_; clear Ip1_
  have Iq1_ := Lib.hid (Iq1.out.below b); clear Iq1
  have Iq1 := Iq1_; clear Iq1_
  have HB_ := Lib.hid (bch HB.out b); clear HB
  have HB := HB_; clear HB_
  clear b
  clear Ip1 Iq1 hk0
  have qa1 : Hid (∀ W, Calls Try.prog 14 #[.int .i64 z1, .int .i64 10] W fun e w' => e = .returned (.int .i64 (pickN z1 10)) ∧ W = w') := fun W => pick_nat z1 10 (by decide) (by decide) wz1 W
  have ha1 := pickN_lt z1 10 (by decide)
  generalize pickN z1 10 = a1 at *
  have qa2 : Hid (∀ W, Calls Try.prog 14 #[.int .i64 z2, .int .i64 9] W fun e w' => e = .returned (.int .i64 (pickN z2 9)) ∧ W = w') := fun W => pick_nat z2 9 (by decide) (by decide) wz2 W
  have ha2 := pickN_lt z2 9 (by decide)
  generalize pickN z2 9 = a2 at *
  have qa3 : Hid (∀ W, Calls Try.prog 14 #[.int .i64 y, .int .i64 4] W fun e w' => e = .returned (.int .i64 (pickN y 4)) ∧ W = w') := fun W => pick_nat y 4 (by decide) (by decide) wy W
  have ha3 := pickN_lt y 4 (by decide)
  generalize pickN y 4 = a3 at *
  have qa4 : Hid (∀ W, Calls Try.prog 14 #[.int .i64 z1, .int .i64 8] W fun e w' => e = .returned (.int .i64 (pickN z1 8)) ∧ W = w') := fun W => pick_nat z1 8 (by decide) (by decide) wz1 W
  have ha4 := pickN_lt z1 8 (by decide)
  generalize pickN z1 8 = a4 at *
  have qa5 : Hid (∀ W, Calls Try.prog 14 #[.int .i64 z2, .int .i64 10] W fun e w' => e = .returned (.int .i64 (pickN z2 10)) ∧ W = w') := fun W => pick_nat z2 10 (by decide) (by decide) wz2 W
  have ha5 := pickN_lt z2 10 (by decide)
  generalize pickN z2 10 = a5 at *
  have qa6 : Hid (∀ W, Calls Try.prog 14 #[.int .i64 z2, .int .i64 2] W fun e w' => e = .returned (.int .i64 (pickN z2 2)) ∧ W = w') := fun W => pick_nat z2 2 (by decide) (by decide) wz2 W
  have ha6 := pickN_lt z2 2 (by decide)
  generalize pickN z2 2 = a6 at *
  obtain ⟨k1, hk1⟩ : ∃ k, newC (a1 : Int) (a2 : Int) (a3 : Int) = k := ⟨_, rfl⟩
  go_wp2_with fail
  ((with_reducible refine (qa1.out _).mono ?_); rintro e Vp ⟨rfl, rfl⟩)
  go_wp2_with fail
  ((with_reducible refine (qa2.out _).mono ?_); rintro e Vp ⟨rfl, rfl⟩)
  go_wp2_with fail
  ((with_reducible refine (qa3.out _).mono ?_); rintro e Vp ⟨rfl, rfl⟩)
  go_wp2_with fail
  have q := (by
    have q := kN (a1 : Int) (a2 : Int) (a3 : Int) V3 (wf_i (by omega) (by omega)) (wf_i (by omega) (by omega)) (wf_i (by omega) (by omega))
    rewrite [hk1] at q
    exact q)
  ((with_reducible refine q.mono ?_); rintro e V4a ⟨Ap2, np2, cp2, Bp2, mp2, dp2, rfl, h1, h2, ct, b⟩)
  clear q
  have X9_ := Lib.hid (Blk.below X9.out b); clear X9
  have X9 := X9_; clear X9_
  have HB_ := Lib.hid (bch HB.out b); clear HB
  have HB := HB_; clear HB_
  clear b
  have Ip2 := Lib.hid ct
  clear h1 h2 ct
  go_wp2_with fail
  ((with_reducible refine (qa1.out _).mono ?_); rintro e Vp ⟨rfl, rfl⟩)
  go_wp2_with fail
  ((with_reducible refine (qa2.out _).mono ?_); rintro e Vp ⟨rfl, rfl⟩)
  go_wp2_with fail
  ((with_reducible refine (qa3.out _).mono ?_); rintro e Vp ⟨rfl, rfl⟩)
  go_wp2_with fail
  have q := (by
    have q := refnew9_any (a1 : Int) (a2 : Int) (a3 : Int) V4a (wf_i (by omega) (by omega)) (wf_i (by omega) (by omega)) (wf_i (by omega) (by omega))
    rewrite [hk1] at q
    exact q)
  ((with_reducible refine q.mono ?_); rintro e V4b ⟨Aq2, nq2, cq2, Bq2, mq2, dq2, rfl, hr_, hp_, _, b⟩)
  clear q
  have X9_ := Lib.hid (Blk.below X9.out b); clear X9
  have X9 := X9_; clear X9_
  have Ip2_ := Lib.hid (Ip2.out.below b); clear Ip2
  have Ip2 := Ip2_; clear Ip2_
  have HB_ := Lib.hid (bch HB.out b); clear HB
  have HB := HB_; clear HB_
  clear b
  have Iq2 := Lib.hid (own_ct hr_ hp_).1
  clear hr_ hp_
  go_wp2_with fail
  have q := by
    have q := refsamec_any k1 k1 Ap2 Bp2 Aq2 Bq2 np2 cp2 mp2 dp2 nq2 cq2 mq2 dq2 V4b Ip2.out Iq2.out
    rewrite [show decide (k1 = k1) = true from decide_eq_true rfl] at q
    exact q
  ((with_reducible refine q.mono ?_); rintro e V5 ⟨rfl, b⟩)
  clear q
  have X9_ := Lib.hid (Blk.below X9.out b); clear X9
  have X9 := X9_; clear X9_
  have Ip2_ := Lib.hid (Ip2.out.below b); clear Ip2
  have Ip2 := Ip2_; clear Ip2_
  have Iq2_ := Lib.hid (Iq2.out.below b); clear Iq2
  have Iq2 := Iq2_; clear Iq2_
  have HB_ := Lib.hid (bch HB.out b); clear HB
  have HB := HB_; clear HB_
  clear b
  clear Ip2 Iq2 hk1
  have HOK : Hid (CtOk (ctlC x y f n)) := ctlC_ok x y f n
  have QC : Hid (∀ W_, (Blk W_ w.heap.size (ctB cc Ac nc capc Bc mc cmc) ∧ Below V5.heap.size V5 W_) → Calls Try.prog 15 #[.int .i64 x, .int .i64 y, .slice A n cap] W_ (OwnPost W_ (ctlC x y f n))) := fun W_ h_ => control_any x y A n cap f W_ wx wy (WR.out.below (bch HB.out h_.2))
  generalize ctlC x y f n = c at *
  go_upto_region 4 with fail
  refine wp_region_noPanic ?_
  refine wp_region_held_drew (S := (fun W_ => Blk W_ w.heap.size (ctB cc Ac nc capc Bc mc cmc) ∧ Below V5.heap.size V5 W_)) (by kernel_rfl) (⟨X9.out.drew, (Below.refl _ _).drew⟩) (fun hHeld => ?_)
  refine wpAnyH_take (i := 0) (v := ?_) rfl (by kernel_rfl) (by kernel_rfl) (by kernel_rfl) (fun _ _ _ h => h) (Or.inl ⟨by rfl, ?_⟩) (by assumption) ?_
  rotate_left
  · (intro w hSw; (try dsimp only at hSw); go_simp; (try with_reducible rfl))
  simp only [Act.put, List.getElem_toArray, List.getElem_cons_zero, List.setIfInBounds_toArray, List.set_cons_zero, List.set_cons_succ]
  refine wpAnyH_take (i := 1) (v := ?_) rfl (by kernel_rfl) (by kernel_rfl) (by kernel_rfl) (fun _ _ _ h => h) (Or.inl ⟨by rfl, ?_⟩) (by assumption) ?_
  rotate_left
  · (intro w hSw; (try dsimp only at hSw); go_simp; (try with_reducible rfl))
  simp only [Act.put, List.getElem_toArray, List.getElem_cons_zero, List.getElem_cons_succ, List.setIfInBounds_toArray, List.set_cons_zero, List.set_cons_succ]
  refine wpAnyH_take (i := 2) (v := ?_) rfl (by kernel_rfl) (by kernel_rfl) (by kernel_rfl) (fun _ _ _ h => h) (Or.inl ⟨by rfl, ?_⟩) (by assumption) ?_
  rotate_left
  · (intro w hSw; (try dsimp only at hSw); go_simp; (try with_reducible rfl))
  simp only [Act.put, List.getElem_toArray, List.getElem_cons_zero, List.getElem_cons_succ, List.setIfInBounds_toArray, List.set_cons_zero, List.set_cons_succ]
  refine wpAnyH_take (i := 4) (v := ?_) rfl (by kernel_rfl) (by kernel_rfl) (by kernel_rfl) (fun _ _ _ h => h) (Or.inl ⟨by rfl, ?_⟩) (by assumption) ?_
  rotate_left
  · (intro w hSw; (try dsimp only at hSw); (have v0 := Blk.cell hSw.1 0); (have v1 := Blk.cell hSw.1 1); (have v2 := Blk.cell hSw.1 2); simp only [List.getElem?_toArray, List.getElem?_cons_zero, List.getElem?_cons_succ] at v0 v1 v2; go_simp; (try with_reducible rfl))
  simp only [Act.put, List.getElem_toArray, List.getElem_cons_zero, List.getElem_cons_succ, List.setIfInBounds_toArray, List.set_cons_zero, List.set_cons_succ]
  refine wpAnyH_take (i := 7) (v := ?_) rfl (by kernel_rfl) (by kernel_rfl) (by kernel_rfl) (fun _ _ _ h => h) (Or.inl ⟨by rfl, ?_⟩) (by assumption) ?_
  rotate_left
  · (intro w hSw; (try dsimp only at hSw); go_simp; (try with_reducible rfl))
  simp only [Act.put, List.getElem_toArray, List.getElem_cons_zero, List.getElem_cons_succ, List.setIfInBounds_toArray, List.set_cons_zero, List.set_cons_succ]
  refine wpAnyH_ready (rs := [3]) (by kernel_rfl) (by simp) ?_
  refine AllReadyH.cons rfl (fun K hK => ?_) AllReadyH.nil
  rw [if_pos (by rfl)]
  go_simp
  ((with_reducible refine (QC.out _ hHeld).mono ?_); rintro e V6 ⟨A1, n1, c1, B1, m1, d1, rfl, hr1, hp1, _, b⟩)
  have hct := own_ct hr1 hp1
  refine hK.out _ _ (⟨Blk.below hHeld.1 b, bch hHeld.2 b⟩) (fun hHeld2 => ?_)
  clear hK K hHeld
  have hHeld := hHeld2; clear hHeld2
  have hh6 := hHeld
  refine wpAnyH_ready (rs := [5]) (by kernel_rfl) (by simp) ?_
  refine AllReadyH.cons rfl (fun K hK => ?_) AllReadyH.nil
  rw [if_pos (by rfl)]
  go_simp
  refine hK.out _ _ (⟨Blk.below hHeld.1 (ba9 _ _), bch hHeld.2 (ba9 _ _)⟩) (fun hHeld2 => ?_)
  clear hK K hHeld
  have hHeld := hHeld2; clear hHeld2
  refine wpAnyH_take (i := 6) (v := ?_) rfl (by kernel_rfl) (by kernel_rfl) (by kernel_rfl) (fun _ _ _ h => h) (Or.inl ⟨by rfl, ?_⟩) (by assumption) ?_
  rotate_left
  · (intro w hSw; (try dsimp only at hSw); go_simp; (try with_reducible rfl))
  simp only [Act.put, List.getElem_toArray, List.getElem_cons_zero, List.getElem_cons_succ, List.setIfInBounds_toArray, List.set_cons_zero, List.set_cons_succ]
  refine wpAnyH_done (by kernel_rfl) ?_ _
  refine NoPanic.normal ?_
  have hLB := Blk.new V6 (.cells #[.int .i64 c.level, .slice A1 n1 c1, .slice B1 m1 d1, .int .i64 cc.level, .slice Ac nc capc, .slice Bc mc cmc] 26)
  have hba := ba9 V6 (.cells #[.int .i64 c.level, .slice A1 n1 c1, .slice B1 m1 d1, .int .i64 cc.level, .slice Ac nc capc, .slice Bc mc cmc] 26)
  have HB7 := Lib.hid (bch (bch HB.out hh6.2) hba)
  have hel : ∀ j, j < 2 → ∃ ck A n cap B m cm, CtEl (V6.alloc (.cells #[.int .i64 c.level, .slice A1 n1 c1, .slice B1 m1 d1, .int .i64 cc.level, .slice Ac nc capc, .slice Bc mc cmc] 26)) V6.heap.size j ck A n cap B m cm := fun j hj => by
    rcases (by omega : j = 0 ∨ j = 1) with rfl | rfl
    · refine ⟨c, A1, n1, c1, B1, m1, d1, ctArg (hct.1.below hba) HOK.out.2.1 (by have h := HOK.out.1.small; exact ⟨by omega, by omega⟩) hct.2.1 hct.2.2, fun V' hb_ => ?_⟩
      have h9 := Blk.below hLB hb_
      exact ⟨Blk.cell h9 0, Blk.cell h9 1, Blk.cell h9 2⟩
    · refine ⟨cc, Ac, nc, capc, Bc, mc, cmc, ⟨WC.out.1.below HB7.out, WC.out.2⟩, fun V' hb_ => ?_⟩
      have h9 := Blk.below hLB hb_
      exact ⟨Blk.cell h9 3, Blk.cell h9 4, Blk.cell h9 5⟩
  obtain ⟨W7, hW⟩ : ∃ X, V6.alloc (.cells #[.int .i64 c.level, .slice A1 n1 c1, .slice B1 m1 d1, .int .i64 cc.level, .slice Ac nc capc, .slice Bc mc cmc] 26) = X := ⟨_, rfl⟩
  rewrite [hW] at HB7
  simp only [hW] at hel
  rewrite [hW]
  have HEL := Lib.hid hel
  clear hel hW hba hLB hh6 hct hr1 hp1 b hHeld QC HB X9 WR WC HOK
  generalize hgl : V6.heap.size = gl at *
  clear hgl
  go_wp2_with fail
  go_loopw [64] (fun i wr => ∃ j : Nat, j ≤ 2 ∧ i = .int .i64 j ∧ Hid (Below W7.heap.size W7 wr)) (fun i _ => 2 - (intOf i).toNat)
  case atStart => exact ⟨0, Nat.zero_le _, rfl, Below.refl _ _⟩
  case round =>
    obtain ⟨j, hj, rfl, HBW⟩ := hrel
    by_cases hlt : j < 2
    · have hji : (j : Int) < 2 := by omega
      obtain ⟨ck, AK, nK, cK, BK, mK, dK, hEL⟩ := HEL.out j hlt
      have HCK := Lib.hid hEL.1
      obtain ⟨u0, u1, u2⟩ := hEL.2 _ HBW.out
      clear hEL
      have HGKL : Hid (W7.heap.size ≤ wr.heap.size) := HBW.out.size
      have IK : Hid (IsCt wr ck AK nK BK mK) := HCK.out.1.below HBW.out
      have HCW := Lib.hid HCK.out.2.1
      have SK : Hid (nK ≤ cK ∧ mK ≤ dK) := ⟨HCK.out.2.2.1, HCK.out.2.2.2.1⟩
      have HN6 : Hid (nK * 16 ≤ 140737488351232 ∧ mK * 24 ≤ 140737488351232) := HCK.out.2.2.2.2
      have HNL : Hid (nK = ck.mem.length ∧ mK = ck.pl.length) := ⟨IK.out.1.1, IK.out.2.1⟩
      clear HCK
      go_upto_region 7 with fail
      clear u0 u1 u2
      have hba := ba9 wr (ctB ck AK nK cK BK mK dK)
      have XK := Lib.hid (Blk.new wr (ctB ck AK nK cK BK mK dK))
      have IK_ := Lib.hid (IK.out.below hba); clear IK
      have IK := IK_; clear IK_
      have HBW_ := Lib.hid (bch HBW.out hba); clear HBW
      have HBW := HBW_; clear HBW_
      obtain ⟨R0, hW⟩ : ∃ X, wr.alloc (ctB ck AK nK cK BK mK dK) = X := ⟨_, rfl⟩
      rewrite [hW] at XK HBW IK
      rewrite [hW]
      clear hW hba
      have HGK : Hid (W7.heap.size ≤ wr.heap.size) := HGKL.out
      clear HGKL
      generalize hgk : wr.heap.size = gk at *
      clear hgk
      have p1 := Blk.cell XK.out 1
      have p2 := Blk.cell XK.out 2
      simp only [List.getElem?_toArray, List.getElem?_cons_zero, List.getElem?_cons_succ] at p1 p2
      by_cases hn20 : nK ≤ 20
      · have hn20i : (nK : Int) ≤ 20 := by omega
        by_cases hm20 : mK ≤ 20
        · have hm20i : (mK : Int) ≤ 20 := by omega
          have HSK : Hid (ck.mem.length ≤ 20 ∧ ck.pl.length ≤ 20) := by have := HNL.out; exact ⟨by omega, by omega⟩
          have HKP : Hid (∀ V : World, Below R0.heap.size R0 V → (V.cell? ⟨gk, 0, none⟩ = some (.int .i64 ck.level) ∧ V.cell? ⟨gk, 1, none⟩ = some (.slice AK nK cK) ∧ V.cell? ⟨gk, 2, none⟩ = some (.slice BK mK dK) ∧ Below R0.heap.size R0 V)) := fun V hb_ => by
            have hx := Blk.below XK.out hb_
            exact ⟨Blk.cell hx 0, Blk.cell hx 1, Blk.cell hx 2, hb_⟩
          have HQ1 : Hid (∀ V : World, (V.cell? ⟨gk, 0, none⟩ = some (.int .i64 ck.level) ∧ V.cell? ⟨gk, 1, none⟩ = some (.slice AK nK cK) ∧ V.cell? ⟨gk, 2, none⟩ = some (.slice BK mK dK) ∧ Below R0.heap.size R0 V) → Calls Try.prog 16 #[ctV ck AK nK cK BK mK dK] V fun e w' => e = .returned (.bool (rightC ck)) ∧ Below V.heap.size V w') := fun V h_ => kR ck AK BK nK cK mK dK V (ctArg (IK.out.below h_.2.2.2) HCW.out HSK.out SK.out.1 SK.out.2)
          have HQ2 : Hid (∀ V : World, (V.cell? ⟨gk, 0, none⟩ = some (.int .i64 ck.level) ∧ V.cell? ⟨gk, 1, none⟩ = some (.slice AK nK cK) ∧ V.cell? ⟨gk, 2, none⟩ = some (.slice BK mK dK) ∧ Below R0.heap.size R0 V) → Calls Try.prog 17 #[ctV ck AK nK cK BK mK dK] V fun e w' => e = .returned (.bool (rightC ck)) ∧ Below V.heap.size V w') := fun V h_ => refright9_any ck AK BK nK cK mK dK V (IK.out.below h_.2.2.2)
          generalize hrb : rightC ck = rb at *
          clear hrb
          go_upto_region 8 with fail
          clear p1 p2
          go_region_held3 (fun V => V.cell? ⟨gk, 0, none⟩ = some (.int .i64 ck.level) ∧ V.cell? ⟨gk, 1, none⟩ = some (.slice AK nK cK) ∧ V.cell? ⟨gk, 2, none⟩ = some (.slice BK mK dK) ∧ Below R0.heap.size R0 V) (first | exact HKP.out _ (Below.refl _ _).drew | exact HKP.out _ (bch (And.right (And.right (And.right (by assumption)))) (by assumption))) (first | ((with_reducible refine ((HQ1.out _ (by assumption)).mono ?_)); rintro e w' ⟨rfl, bq⟩) | ((with_reducible refine ((HQ2.out _ (by assumption)).mono ?_)); rintro e w' ⟨rfl, bq⟩))
          rename_i hH
          have hb9 := hH.2.2.2
          clear hH HQ1 HQ2 HKP
          have IK_ := Lib.hid (IK.out.below hb9); clear IK
          have IK := IK_; clear IK_
          have XK_ := Lib.hid (Blk.below XK.out hb9); clear XK
          have XK := XK_; clear XK_
          have HBW_ := Lib.hid (bch HBW.out hb9); clear HBW
          have HBW := HBW_; clear HBW_
          clear hb9
          obtain ⟨R1, hW⟩ : ∃ X, X = w' := ⟨_, rfl⟩
          rewrite [← hW] at HBW IK XK
          rewrite [← hW]
          clear hW
          obtain ⟨kf, zf, hkf⟩ : ∃ k z, finalC ck = (k, z) := ⟨_, _, rfl⟩
          have Hkf := Lib.hid hkf; clear hkf
          have a0 := Blk.cell XK.out 0
          have a1 := Blk.cell XK.out 1
          have a2 := Blk.cell XK.out 2
          simp only [List.getElem?_toArray, List.getElem?_cons_zero, List.getElem?_cons_succ] at a0 a1 a2
          go_wp2_with fail
          have q := ((kF ck AK BK nK cK mK dK R1 (ctArg IK.out HCW.out HSK.out SK.out.1 SK.out.2))).mono (fun e w' h => h.at Hkf.out (lv := (kf).level) rfl)
          ((with_reducible refine q.mono ?_); rintro e R2 ⟨Aa, na, ca, Ba, ma, da, rfl, h1, h2, ct, b⟩)
          clear q a0 a1 a2
          have IK_ := Lib.hid (IK.out.below b); clear IK
          have IK := IK_; clear IK_
          have XK_ := Lib.hid (Blk.below XK.out b); clear XK
          have XK := XK_; clear XK_
          have HBW_ := Lib.hid (bch HBW.out b); clear HBW
          have HBW := HBW_; clear HBW_
          clear b
          have Ia := Lib.hid ct
          clear h1 h2 ct
          have HLa : Hid (gk < R2.heap.size) := Blk.lt XK.out
          go_upto_region 11 with fail
          have hba := ba9 R2 (ctB (kf) Aa na ca Ba ma da)
          have Xa := Lib.hid (Blk.new R2 (ctB (kf) Aa na ca Ba ma da))
          have IK_ := Lib.hid (IK.out.below hba); clear IK
          have IK := IK_; clear IK_
          have XK_ := Lib.hid (Blk.below XK.out hba); clear XK
          have XK := XK_; clear XK_
          have Ia_ := Lib.hid (Ia.out.below hba); clear Ia
          have Ia := Ia_; clear Ia_
          have HBW_ := Lib.hid (bch HBW.out hba); clear HBW
          have HBW := HBW_; clear HBW_
          obtain ⟨R3, hW⟩ : ∃ X, R2.alloc (ctB (kf) Aa na ca Ba ma da) = X := ⟨_, rfl⟩
          rewrite [hW] at Xa HBW IK XK Ia
          rewrite [hW]
          clear hW hba
          generalize hga : R2.heap.size = ga at *
          clear hga
          have a0 := Blk.cell XK.out 0
          have a1 := Blk.cell XK.out 1
          have a2 := Blk.cell XK.out 2
          simp only [List.getElem?_toArray, List.getElem?_cons_zero, List.getElem?_cons_succ] at a0 a1 a2
          go_wp2_with fail
          have q := (((reffinal9_any ck AK BK nK cK mK dK R3 IK.out HN6.out.1 HN6.out.2).mono (fun e w' h => CtOwnP.post (c := ck) h))).mono (fun e w' h => h.at Hkf.out (lv := (kf).level) rfl)
          ((with_reducible refine q.mono ?_); rintro e R4 ⟨Ab, nb, cb, Bb, mb, db, rfl, h1, h2, ct, b⟩)
          clear q a0 a1 a2
          have IK_ := Lib.hid (IK.out.below b); clear IK
          have IK := IK_; clear IK_
          have XK_ := Lib.hid (Blk.below XK.out b); clear XK
          have XK := XK_; clear XK_
          have Ia_ := Lib.hid (Ia.out.below b); clear Ia
          have Ia := Ia_; clear Ia_
          have Xa_ := Lib.hid (Blk.below Xa.out b); clear Xa
          have Xa := Xa_; clear Xa_
          have HBW_ := Lib.hid (bch HBW.out b); clear HBW
          have HBW := HBW_; clear HBW_
          clear b
          have Ib := Lib.hid ct
          clear h1 h2 ct
          have HLb : Hid (ga < R4.heap.size) := Blk.lt Xa.out
          go_upto_region 12 with fail
          have hba := ba9 R4 (ctB (kf) Ab nb cb Bb mb db)
          have Xb := Lib.hid (Blk.new R4 (ctB (kf) Ab nb cb Bb mb db))
          have IK_ := Lib.hid (IK.out.below hba); clear IK
          have IK := IK_; clear IK_
          have XK_ := Lib.hid (Blk.below XK.out hba); clear XK
          have XK := XK_; clear XK_
          have Ia_ := Lib.hid (Ia.out.below hba); clear Ia
          have Ia := Ia_; clear Ia_
          have Xa_ := Lib.hid (Blk.below Xa.out hba); clear Xa
          have Xa := Xa_; clear Xa_
          have Ib_ := Lib.hid (Ib.out.below hba); clear Ib
          have Ib := Ib_; clear Ib_
          have HBW_ := Lib.hid (bch HBW.out hba); clear HBW
          have HBW := HBW_; clear HBW_
          obtain ⟨R5, hW⟩ : ∃ X, R4.alloc (ctB (kf) Ab nb cb Bb mb db) = X := ⟨_, rfl⟩
          rewrite [hW] at Xb HBW IK XK Ia Xa Ib
          rewrite [hW]
          clear hW hba
          generalize hgb : R4.heap.size = gb at *
          clear hgb
          obtain ⟨bs, bt, bi, hbal⟩ : ∃ s t i, balC ck = (s, t, i) := ⟨_, _, _, rfl⟩
          have HBL := Lib.hid hbal; clear hbal
          have a0 := Blk.cell XK.out 0
          have a1 := Blk.cell XK.out 1
          have a2 := Blk.cell XK.out 2
          simp only [List.getElem?_toArray, List.getElem?_cons_zero, List.getElem?_cons_succ] at a0 a1 a2
          go_wp2_with fail
          have q := (by
            have q := kB ck AK BK nK cK mK dK R5 (ctArg IK.out HCW.out HSK.out SK.out.1 SK.out.2)
            rewrite [HBL.out] at q
            exact q)
          ((with_reducible refine q.mono ?_); rintro e R6 ⟨rfl, b⟩)
          clear q a0 a1 a2
          have IK_ := Lib.hid (IK.out.below b); clear IK
          have IK := IK_; clear IK_
          have XK_ := Lib.hid (Blk.below XK.out b); clear XK
          have XK := XK_; clear XK_
          have Ia_ := Lib.hid (Ia.out.below b); clear Ia
          have Ia := Ia_; clear Ia_
          have Xa_ := Lib.hid (Blk.below Xa.out b); clear Xa
          have Xa := Xa_; clear Xa_
          have Ib_ := Lib.hid (Ib.out.below b); clear Ib
          have Ib := Ib_; clear Ib_
          have Xb_ := Lib.hid (Blk.below Xb.out b); clear Xb
          have Xb := Xb_; clear Xb_
          have HBW_ := Lib.hid (bch HBW.out b); clear HBW
          have HBW := HBW_; clear HBW_
          clear b
          have a0 := Blk.cell XK.out 0
          have a1 := Blk.cell XK.out 1
          have a2 := Blk.cell XK.out 2
          simp only [List.getElem?_toArray, List.getElem?_cons_zero, List.getElem?_cons_succ] at a0 a1 a2
          go_wp2_with fail
          have q := (by
            have q := refbal9_any ck AK BK nK cK mK dK R6 IK.out HN6.out.1 HN6.out.2
            rewrite [HBL.out] at q
            exact q)
          ((with_reducible refine q.mono ?_); rintro e R7 ⟨rfl, b⟩)
          clear q a0 a1 a2
          have IK_ := Lib.hid (IK.out.below b); clear IK
          have IK := IK_; clear IK_
          have XK_ := Lib.hid (Blk.below XK.out b); clear XK
          have XK := XK_; clear XK_
          have Ia_ := Lib.hid (Ia.out.below b); clear Ia
          have Ia := Ia_; clear Ia_
          have Xa_ := Lib.hid (Blk.below Xa.out b); clear Xa
          have Xa := Xa_; clear Xa_
          have Ib_ := Lib.hid (Ib.out.below b); clear Ib
          have Ib := Ib_; clear Ib_
          have Xb_ := Lib.hid (Blk.below Xb.out b); clear Xb
          have Xb := Xb_; clear Xb_
          have HBW_ := Lib.hid (bch HBW.out b); clear HBW
          have HBW := HBW_; clear HBW_
          clear b
          have a0 := Blk.cell Xa.out 0
          have a1 := Blk.cell Xa.out 1
          have a2 := Blk.cell Xa.out 2
          simp only [List.getElem?_toArray, List.getElem?_cons_zero, List.getElem?_cons_succ] at a0 a1 a2
          have b0 := Blk.cell Xb.out 0
          have b1 := Blk.cell Xb.out 1
          have b2 := Blk.cell Xb.out 2
          simp only [List.getElem?_toArray, List.getElem?_cons_zero, List.getElem?_cons_succ] at b0 b1 b2
          go_wp2_with fail
          have q := by
            have q := refsamec_any kf kf Aa Ba Ab Bb na ca ma da nb cb mb db R7 Ia.out Ib.out
            rewrite [show decide (kf = kf) = true from decide_eq_true rfl] at q
            exact q
          ((with_reducible refine q.mono ?_); rintro e R8 ⟨rfl, b⟩)
          clear q a0 a1 a2 b0 b1 b2
          have IK_ := Lib.hid (IK.out.below b); clear IK
          have IK := IK_; clear IK_
          have XK_ := Lib.hid (Blk.below XK.out b); clear XK
          have XK := XK_; clear XK_
          have Ia_ := Lib.hid (Ia.out.below b); clear Ia
          have Ia := Ia_; clear Ia_
          have Xa_ := Lib.hid (Blk.below Xa.out b); clear Xa
          have Xa := Xa_; clear Xa_
          have Ib_ := Lib.hid (Ib.out.below b); clear Ib
          have Ib := Ib_; clear Ib_
          have Xb_ := Lib.hid (Blk.below Xb.out b); clear Xb
          have Xb := Xb_; clear Xb_
          have HBW_ := Lib.hid (bch HBW.out b); clear HBW
          have HBW := HBW_; clear HBW_
          clear b
          clear Ia Ib Hkf HBL
          have hw5 : IntKind.i64.wrap (1 + (a5 : Int)) = 1 + (a5 : Int) := IntWalk.i64_in _ (by omega)
          have hw1 : IntKind.i64.wrap (1 + (a1 : Int)) = 1 + (a1 : Int) := IntWalk.i64_in _ (by omega)
          have hw6 : IntKind.i64.wrap (1 + (a6 : Int)) = 1 + (a6 : Int) := IntWalk.i64_in _ (by omega)
          go_wp2_with fail
          ((with_reducible refine (qa4.out _).mono ?_); rintro e Vp ⟨rfl, rfl⟩)
          go_wp2_with fail
          ((with_reducible refine (qa5.out _).mono ?_); rintro e Vp ⟨rfl, rfl⟩)
          go_wp2_with fail
          ((with_reducible refine (qa1.out _).mono ?_); rintro e Vp ⟨rfl, rfl⟩)
          go_wp2_with fail
          ((with_reducible refine (qa6.out _).mono ?_); rintro e Vp ⟨rfl, rfl⟩)
          go_wp2_with fail
          have HLx : Hid (gb < R8.heap.size) := Blk.lt Xb.out
          clear hw5 hw1 hw6 qa4 qa5 qa1 qa6 qa2 qa3
          have hba := ba9 R8 (.cells #[.int .i64 z1, .int .i64 z2, .int .i64 (a4 : Int), .int .i64 (1 + (a5 : Int)), .int .i64 (1 + (a1 : Int)), .int .i64 (1 + (a6 : Int))] 39)
          have XX := Lib.hid (Blk.new R8 (.cells #[.int .i64 z1, .int .i64 z2, .int .i64 (a4 : Int), .int .i64 (1 + (a5 : Int)), .int .i64 (1 + (a1 : Int)), .int .i64 (1 + (a6 : Int))] 39))
          have IK_ := Lib.hid (IK.out.below hba); clear IK
          have IK := IK_; clear IK_
          have XK_ := Lib.hid (Blk.below XK.out hba); clear XK
          have XK := XK_; clear XK_
          have Xa_ := Lib.hid (Blk.below Xa.out hba); clear Xa
          have Xa := Xa_; clear Xa_
          have Xb_ := Lib.hid (Blk.below Xb.out hba); clear Xb
          have Xb := Xb_; clear Xb_
          have HBW_ := Lib.hid (bch HBW.out hba); clear HBW
          have HBW := HBW_; clear HBW_
          obtain ⟨R9, hW⟩ : ∃ X, R8.alloc (.cells #[.int .i64 z1, .int .i64 z2, .int .i64 (a4 : Int), .int .i64 (1 + (a5 : Int)), .int .i64 (1 + (a1 : Int)), .int .i64 (1 + (a6 : Int))] 39) = X := ⟨_, rfl⟩
          rewrite [hW] at XX HBW IK XK Xa Xb
          rewrite [hW]
          clear hW hba
          generalize hgx : R8.heap.size = gx at *
          clear hgx
          have HG : Hid (gk < ga ∧ ga < gb ∧ gb < gx ∧ W7.heap.size ≤ gk) := ⟨HLa.out, HLb.out, HLx.out, HGK.out⟩
          have HX2 : Hid (∀ q, q < 3 → ∃ xa xb : Int, (Lit.int .i64 xa).wf = true ∧ (Lit.int .i64 xb).wf = true ∧ ∀ V', Blk V' gx (.cells #[.int .i64 z1, .int .i64 z2, .int .i64 (a4 : Int), .int .i64 (1 + (a5 : Int)), .int .i64 (1 + (a1 : Int)), .int .i64 (1 + (a6 : Int))] 39) → V'.cell? ⟨gx, q * 2, none⟩ = some (.int .i64 xa) ∧ V'.cell? ⟨gx, q * 2 + 1, none⟩ = some (.int .i64 xb)) := fun q hq => by
            rcases (by omega : q = 0 ∨ q = 1 ∨ q = 2) with rfl | rfl | rfl
            · exact ⟨z1, z2, wz1, wz2, fun V' h_ => ⟨Blk.cell h_ 0, Blk.cell h_ 1⟩⟩
            · exact ⟨(a4 : Int), 1 + (a5 : Int), wf_i (by omega) (by omega), wf_i (by omega) (by omega), fun V' h_ => ⟨Blk.cell h_ 2, Blk.cell h_ 3⟩⟩
            · exact ⟨1 + (a1 : Int), 1 + (a6 : Int), wf_i (by omega) (by omega), wf_i (by omega) (by omega), fun V' h_ => ⟨Blk.cell h_ 4, Blk.cell h_ 5⟩⟩
          clear HLa HLb HLx HGK
          go_loopw [147] (fun i wr => ∃ jj : Nat, jj ≤ 3 ∧ i = .int .i64 jj ∧ ∃ ka Aa na ca Ba ma da kb Ab nb cb Bb mb db, Hid (Blk wr ga (ctB ka Aa na ca Ba ma da)) ∧ Hid (Blk wr gb (ctB kb Ab nb cb Bb mb db)) ∧ Hid (Blk wr gk (ctB ck AK nK cK BK mK dK)) ∧ Hid (Blk wr gx (.cells #[.int .i64 z1, .int .i64 z2, .int .i64 (a4 : Int), .int .i64 (1 + (a5 : Int)), .int .i64 (1 + (a1 : Int)), .int .i64 (1 + (a6 : Int))] 39)) ∧ Hid (IsCt wr ck AK nK BK mK) ∧ Hid (Below W7.heap.size W7 wr)) (fun i _ => 3 - (intOf i).toNat)
          case atStart => exact ⟨0, Nat.zero_le _, rfl, kf, Aa, na, ca, Ba, ma, da, kf, Ab, nb, cb, Bb, mb, db, Xa.out, Xb.out, XK.out, XX.out, IK.out, HBW.out⟩
          case round =>
            clear Xa Xb XK XX IK HBW
            obtain ⟨jj, hj3, rfl, ka, Aa, na, ca, Ba, ma, da, kb, Ab, nb, cb, Bb, mb, db, Xa, Xb, XK, XX, IK, HBW⟩ := hrel
            by_cases hl3 : jj < 3
            · have hj3i : (jj : Int) < 3 := by omega
              obtain ⟨xa, xb, wxa, wxb, hcx⟩ := HX2.out jj hl3
              obtain ⟨u0, u1⟩ := hcx wr XX.out
              clear hcx
              have HLq : Hid (gx < wr.heap.size) := Blk.lt XX.out
              go_upto_region 19 with fail
              clear u0 u1
              as_aux_lemma =>
                have hba := ba9 wr (.cells #[.int .i64 xa, .int .i64 xb] 39)
                have XQ := Lib.hid (Blk.new wr (.cells #[.int .i64 xa, .int .i64 xb] 39))
                have Xa_ := Lib.hid (Blk.below Xa.out hba); clear Xa
                have Xa := Xa_; clear Xa_
                have Xb_ := Lib.hid (Blk.below Xb.out hba); clear Xb
                have Xb := Xb_; clear Xb_
                have XK_ := Lib.hid (Blk.below XK.out hba); clear XK
                have XK := XK_; clear XK_
                have XX_ := Lib.hid (Blk.below XX.out hba); clear XX
                have XX := XX_; clear XX_
                have IK_ := Lib.hid (IK.out.below hba); clear IK
                have IK := IK_; clear IK_
                have HBW_ := Lib.hid (bch HBW.out hba); clear HBW
                have HBW := HBW_; clear HBW_
                obtain ⟨T0, hW⟩ : ∃ X, wr.alloc (.cells #[.int .i64 xa, .int .i64 xb] 39) = X := ⟨_, rfl⟩
                rewrite [hW] at XQ HBW Xa Xb XK XX IK
                rewrite [hW]
                clear hW hba
                generalize hgq : wr.heap.size = gq at *
                clear hgq
                obtain ⟨k1_, e1_, hk1_⟩ : ∃ k z, joinC ck xa xb = (k, z) := ⟨_, _, rfl⟩
                have Hk1_ := Lib.hid hk1_; clear hk1_
                have q0 := Blk.cell XQ.out 0
                have q1 := Blk.cell XQ.out 1
                simp only [List.getElem?_toArray, List.getElem?_cons_zero, List.getElem?_cons_succ] at q0 q1
                have a0 := Blk.cell XK.out 0
                have a1 := Blk.cell XK.out 1
                have a2 := Blk.cell XK.out 2
                simp only [List.getElem?_toArray, List.getElem?_cons_zero, List.getElem?_cons_succ] at a0 a1 a2
                go_wp2_with fail
                have q := ((kJ ck AK BK nK cK mK dK xa xb T0 (ctArg IK.out HCW.out HSK.out SK.out.1 SK.out.2) wxa wxb)).mono (fun e w' h => h.at Hk1_.out (lv := (k1_).level) rfl)
                ((with_reducible refine q.mono ?_); rintro e T1a ⟨Ap1_, np1_, cp1_, Bp1_, mp1_, dp1_, rfl, h1, h2, ct, b⟩)
                clear q a0 a1 a2
                have Xa_ := Lib.hid (Blk.below Xa.out b); clear Xa
                have Xa := Xa_; clear Xa_
                have Xb_ := Lib.hid (Blk.below Xb.out b); clear Xb
                have Xb := Xb_; clear Xb_
                have XK_ := Lib.hid (Blk.below XK.out b); clear XK
                have XK := XK_; clear XK_
                have XX_ := Lib.hid (Blk.below XX.out b); clear XX
                have XX := XX_; clear XX_
                have IK_ := Lib.hid (IK.out.below b); clear IK
                have IK := IK_; clear IK_
                have XQ_ := Lib.hid (Blk.below XQ.out b); clear XQ
                have XQ := XQ_; clear XQ_
                have HBW_ := Lib.hid (bch HBW.out b); clear HBW
                have HBW := HBW_; clear HBW_
                clear b
                clear q0 q1
                have Ip1_ := Lib.hid ct
                clear h1 h2 ct
                have y0 := Blk.cell Xa.out 0
                have y1 := Blk.cell Xa.out 1
                have y2 := Blk.cell Xa.out 2
                simp only [List.getElem?_toArray, List.getElem?_cons_zero, List.getElem?_cons_succ] at y0 y1 y2
                have f0 := Blk.frozen Xa.out 0
                have f1 := Blk.frozen Xa.out 1
                have f2 := Blk.frozen Xa.out 2
                go_upto_region 20 with fail
                clear y0 y1 y2 f0 f1 f2
                have h9_0 := ct_put Xa.out k1_ Ap1_ np1_ cp1_ Bp1_ mp1_ dp1_
                have h9_1 := blk_put3 Xb.out (show gb ≠ ga by have h1 := HG.out; have h2 := HLq.out; omega) (.int .i64 k1_.level) (.slice Ap1_ np1_ cp1_) (.slice Bp1_ mp1_ dp1_)
                have h9_2 := blk_put3 XK.out (show gk ≠ ga by have h1 := HG.out; have h2 := HLq.out; omega) (.int .i64 k1_.level) (.slice Ap1_ np1_ cp1_) (.slice Bp1_ mp1_ dp1_)
                have h9_3 := blk_put3 XX.out (show gx ≠ ga by have h1 := HG.out; have h2 := HLq.out; omega) (.int .i64 k1_.level) (.slice Ap1_ np1_ cp1_) (.slice Bp1_ mp1_ dp1_)
                have h9_4 := blk_put3 XQ.out (show gq ≠ ga by have h1 := HG.out; have h2 := HLq.out; omega) (.int .i64 k1_.level) (.slice Ap1_ np1_ cp1_) (.slice Bp1_ mp1_ dp1_)
                have h9_i := isCt_put3 Xa.out IK.out k1_ Ap1_ np1_ cp1_ Bp1_ mp1_ dp1_
                have h9_Ip1_ := isCt_put3 Xa.out Ip1_.out k1_ Ap1_ np1_ cp1_ Bp1_ mp1_ dp1_
                have h9_b := below_put3 HBW.out (show W7.heap.size ≤ ga by have h1 := HG.out; omega) (.int .i64 k1_.level) (.slice Ap1_ np1_ cp1_) (.slice Bp1_ mp1_ dp1_)
                obtain ⟨T1b, hW⟩ : ∃ X, put3 T1a ga (.int .i64 k1_.level) (.slice Ap1_ np1_ cp1_) (.slice Bp1_ mp1_ dp1_) = X := ⟨_, rfl⟩
                rewrite [hW] at h9_0 h9_1 h9_2 h9_3 h9_4 h9_i h9_Ip1_ h9_b
                have hW2 : ((T1a.setCell ⟨ga, 0, none⟩ (.int .i64 k1_.level)).setCell ⟨ga, 1, none⟩ (.slice Ap1_ np1_ cp1_)).setCell ⟨ga, 2, none⟩ (.slice Bp1_ mp1_ dp1_) = T1b := hW
                rewrite [hW2]
                clear hW hW2 Xa Xb XK XX XQ IK Ip1_ HBW
                have Xa := Lib.hid h9_0
                have Xb := Lib.hid h9_1
                have XK := Lib.hid h9_2
                have XX := Lib.hid h9_3
                have XQ := Lib.hid h9_4
                have IK := Lib.hid h9_i
                have Ip1_ := Lib.hid h9_Ip1_
                have HBW := Lib.hid h9_b
                clear h9_0 h9_1 h9_2 h9_3 h9_4 h9_i h9_Ip1_ h9_b
                have q0 := Blk.cell XQ.out 0
                have q1 := Blk.cell XQ.out 1
                simp only [List.getElem?_toArray, List.getElem?_cons_zero, List.getElem?_cons_succ] at q0 q1
                have a0 := Blk.cell XK.out 0
                have a1 := Blk.cell XK.out 1
                have a2 := Blk.cell XK.out 2
                simp only [List.getElem?_toArray, List.getElem?_cons_zero, List.getElem?_cons_succ] at a0 a1 a2
                go_wp2_with fail
                have q := (((refjoin9_any ck AK BK nK cK mK dK xa xb T1b IK.out HN6.out.1 HN6.out.2).mono (fun e w' h => CtOwnP.post (c := ck) h))).mono (fun e w' h => h.at Hk1_.out (lv := (k1_).level) rfl)
                ((with_reducible refine q.mono ?_); rintro e T1c ⟨Ao1_, no1_, co1_, Bo1_, mo1_, do1_, rfl, h1, h2, ct, b⟩)
                clear q a0 a1 a2
                have Xa_ := Lib.hid (Blk.below Xa.out b); clear Xa
                have Xa := Xa_; clear Xa_
                have Xb_ := Lib.hid (Blk.below Xb.out b); clear Xb
                have Xb := Xb_; clear Xb_
                have XK_ := Lib.hid (Blk.below XK.out b); clear XK
                have XK := XK_; clear XK_
                have XX_ := Lib.hid (Blk.below XX.out b); clear XX
                have XX := XX_; clear XX_
                have IK_ := Lib.hid (IK.out.below b); clear IK
                have IK := IK_; clear IK_
                have XQ_ := Lib.hid (Blk.below XQ.out b); clear XQ
                have XQ := XQ_; clear XQ_
                have Ip1__ := Lib.hid (Ip1_.out.below b); clear Ip1_
                have Ip1_ := Ip1__; clear Ip1__
                have HBW_ := Lib.hid (bch HBW.out b); clear HBW
                have HBW := HBW_; clear HBW_
                clear b
                clear q0 q1
                have Io1_ := Lib.hid ct
                clear h1 h2 ct
                have y0 := Blk.cell Xb.out 0
                have y1 := Blk.cell Xb.out 1
                have y2 := Blk.cell Xb.out 2
                simp only [List.getElem?_toArray, List.getElem?_cons_zero, List.getElem?_cons_succ] at y0 y1 y2
                have f0 := Blk.frozen Xb.out 0
                have f1 := Blk.frozen Xb.out 1
                have f2 := Blk.frozen Xb.out 2
                go_upto_region 21 with fail
                clear y0 y1 y2 f0 f1 f2
                have h9_0 := ct_put Xb.out k1_ Ao1_ no1_ co1_ Bo1_ mo1_ do1_
                have h9_1 := blk_put3 Xa.out (show ga ≠ gb by have h1 := HG.out; have h2 := HLq.out; omega) (.int .i64 k1_.level) (.slice Ao1_ no1_ co1_) (.slice Bo1_ mo1_ do1_)
                have h9_2 := blk_put3 XK.out (show gk ≠ gb by have h1 := HG.out; have h2 := HLq.out; omega) (.int .i64 k1_.level) (.slice Ao1_ no1_ co1_) (.slice Bo1_ mo1_ do1_)
                have h9_3 := blk_put3 XX.out (show gx ≠ gb by have h1 := HG.out; have h2 := HLq.out; omega) (.int .i64 k1_.level) (.slice Ao1_ no1_ co1_) (.slice Bo1_ mo1_ do1_)
                have h9_4 := blk_put3 XQ.out (show gq ≠ gb by have h1 := HG.out; have h2 := HLq.out; omega) (.int .i64 k1_.level) (.slice Ao1_ no1_ co1_) (.slice Bo1_ mo1_ do1_)
                have h9_i := isCt_put3 Xb.out IK.out k1_ Ao1_ no1_ co1_ Bo1_ mo1_ do1_
                have h9_Ip1_ := isCt_put3 Xb.out Ip1_.out k1_ Ao1_ no1_ co1_ Bo1_ mo1_ do1_
                have h9_Io1_ := isCt_put3 Xb.out Io1_.out k1_ Ao1_ no1_ co1_ Bo1_ mo1_ do1_
                have h9_b := below_put3 HBW.out (show W7.heap.size ≤ gb by have h1 := HG.out; omega) (.int .i64 k1_.level) (.slice Ao1_ no1_ co1_) (.slice Bo1_ mo1_ do1_)
                obtain ⟨T1d, hW⟩ : ∃ X, put3 T1c gb (.int .i64 k1_.level) (.slice Ao1_ no1_ co1_) (.slice Bo1_ mo1_ do1_) = X := ⟨_, rfl⟩
                rewrite [hW] at h9_0 h9_1 h9_2 h9_3 h9_4 h9_i h9_Ip1_ h9_Io1_ h9_b
                have hW2 : ((T1c.setCell ⟨gb, 0, none⟩ (.int .i64 k1_.level)).setCell ⟨gb, 1, none⟩ (.slice Ao1_ no1_ co1_)).setCell ⟨gb, 2, none⟩ (.slice Bo1_ mo1_ do1_) = T1d := hW
                rewrite [hW2]
                clear hW hW2 Xb Xa XK XX XQ IK Ip1_ Io1_ HBW
                have Xb := Lib.hid h9_0
                have Xa := Lib.hid h9_1
                have XK := Lib.hid h9_2
                have XX := Lib.hid h9_3
                have XQ := Lib.hid h9_4
                have IK := Lib.hid h9_i
                have Ip1_ := Lib.hid h9_Ip1_
                have Io1_ := Lib.hid h9_Io1_
                have HBW := Lib.hid h9_b
                clear h9_0 h9_1 h9_2 h9_3 h9_4 h9_i h9_Ip1_ h9_Io1_ h9_b
                have a0 := Blk.cell Xa.out 0
                have a1 := Blk.cell Xa.out 1
                have a2 := Blk.cell Xa.out 2
                simp only [List.getElem?_toArray, List.getElem?_cons_zero, List.getElem?_cons_succ] at a0 a1 a2
                have b0 := Blk.cell Xb.out 0
                have b1 := Blk.cell Xb.out 1
                have b2 := Blk.cell Xb.out 2
                simp only [List.getElem?_toArray, List.getElem?_cons_zero, List.getElem?_cons_succ] at b0 b1 b2
                go_wp2_with fail
                have q := by
                  have q := refsamec_any k1_ k1_ Ap1_ Bp1_ Ao1_ Bo1_ np1_ cp1_ mp1_ dp1_ no1_ co1_ mo1_ do1_ T1d Ip1_.out Io1_.out
                  rewrite [show decide (k1_ = k1_) = true from decide_eq_true rfl] at q
                  exact q
                ((with_reducible refine q.mono ?_); rintro e T1e ⟨rfl, b⟩)
                clear q a0 a1 a2 b0 b1 b2
                have Xa_ := Lib.hid (Blk.below Xa.out b); clear Xa
                have Xa := Xa_; clear Xa_
                have Xb_ := Lib.hid (Blk.below Xb.out b); clear Xb
                have Xb := Xb_; clear Xb_
                have XK_ := Lib.hid (Blk.below XK.out b); clear XK
                have XK := XK_; clear XK_
                have XX_ := Lib.hid (Blk.below XX.out b); clear XX
                have XX := XX_; clear XX_
                have IK_ := Lib.hid (IK.out.below b); clear IK
                have IK := IK_; clear IK_
                have XQ_ := Lib.hid (Blk.below XQ.out b); clear XQ
                have XQ := XQ_; clear XQ_
                have Ip1__ := Lib.hid (Ip1_.out.below b); clear Ip1_
                have Ip1_ := Ip1__; clear Ip1__
                have Io1__ := Lib.hid (Io1_.out.below b); clear Io1_
                have Io1_ := Io1__; clear Io1__
                have HBW_ := Lib.hid (bch HBW.out b); clear HBW
                have HBW := HBW_; clear HBW_
                clear b
                go_upto_region 23 with fail
                clear Ip1_ Io1_ Hk1_
                obtain ⟨k2_, e2_, hk2_⟩ : ∃ k z, reportC ck xa xb = (k, z) := ⟨_, _, rfl⟩
                have Hk2_ := Lib.hid hk2_; clear hk2_
                have q0 := Blk.cell XQ.out 0
                have q1 := Blk.cell XQ.out 1
                simp only [List.getElem?_toArray, List.getElem?_cons_zero, List.getElem?_cons_succ] at q0 q1
                have a0 := Blk.cell XK.out 0
                have a1 := Blk.cell XK.out 1
                have a2 := Blk.cell XK.out 2
                simp only [List.getElem?_toArray, List.getElem?_cons_zero, List.getElem?_cons_succ] at a0 a1 a2
                go_wp2_with fail
                have q := ((kP ck AK BK nK cK mK dK xa xb T1e (ctArg IK.out HCW.out HSK.out SK.out.1 SK.out.2) wxa wxb)).mono (fun e w' h => h.at Hk2_.out (lv := (k2_).level) rfl)
                ((with_reducible refine q.mono ?_); rintro e T2a ⟨Ap2_, np2_, cp2_, Bp2_, mp2_, dp2_, rfl, h1, h2, ct, b⟩)
                clear q a0 a1 a2
                have Xa_ := Lib.hid (Blk.below Xa.out b); clear Xa
                have Xa := Xa_; clear Xa_
                have Xb_ := Lib.hid (Blk.below Xb.out b); clear Xb
                have Xb := Xb_; clear Xb_
                have XK_ := Lib.hid (Blk.below XK.out b); clear XK
                have XK := XK_; clear XK_
                have XX_ := Lib.hid (Blk.below XX.out b); clear XX
                have XX := XX_; clear XX_
                have IK_ := Lib.hid (IK.out.below b); clear IK
                have IK := IK_; clear IK_
                have XQ_ := Lib.hid (Blk.below XQ.out b); clear XQ
                have XQ := XQ_; clear XQ_
                have HBW_ := Lib.hid (bch HBW.out b); clear HBW
                have HBW := HBW_; clear HBW_
                clear b
                clear q0 q1
                have Ip2_ := Lib.hid ct
                clear h1 h2 ct
                have y0 := Blk.cell Xa.out 0
                have y1 := Blk.cell Xa.out 1
                have y2 := Blk.cell Xa.out 2
                simp only [List.getElem?_toArray, List.getElem?_cons_zero, List.getElem?_cons_succ] at y0 y1 y2
                have f0 := Blk.frozen Xa.out 0
                have f1 := Blk.frozen Xa.out 1
                have f2 := Blk.frozen Xa.out 2
                go_upto_region 24 with fail
                clear y0 y1 y2 f0 f1 f2
                have h9_0 := ct_put Xa.out k2_ Ap2_ np2_ cp2_ Bp2_ mp2_ dp2_
                have h9_1 := blk_put3 Xb.out (show gb ≠ ga by have h1 := HG.out; have h2 := HLq.out; omega) (.int .i64 k2_.level) (.slice Ap2_ np2_ cp2_) (.slice Bp2_ mp2_ dp2_)
                have h9_2 := blk_put3 XK.out (show gk ≠ ga by have h1 := HG.out; have h2 := HLq.out; omega) (.int .i64 k2_.level) (.slice Ap2_ np2_ cp2_) (.slice Bp2_ mp2_ dp2_)
                have h9_3 := blk_put3 XX.out (show gx ≠ ga by have h1 := HG.out; have h2 := HLq.out; omega) (.int .i64 k2_.level) (.slice Ap2_ np2_ cp2_) (.slice Bp2_ mp2_ dp2_)
                have h9_4 := blk_put3 XQ.out (show gq ≠ ga by have h1 := HG.out; have h2 := HLq.out; omega) (.int .i64 k2_.level) (.slice Ap2_ np2_ cp2_) (.slice Bp2_ mp2_ dp2_)
                have h9_i := isCt_put3 Xa.out IK.out k2_ Ap2_ np2_ cp2_ Bp2_ mp2_ dp2_
                have h9_Ip2_ := isCt_put3 Xa.out Ip2_.out k2_ Ap2_ np2_ cp2_ Bp2_ mp2_ dp2_
                have h9_b := below_put3 HBW.out (show W7.heap.size ≤ ga by have h1 := HG.out; omega) (.int .i64 k2_.level) (.slice Ap2_ np2_ cp2_) (.slice Bp2_ mp2_ dp2_)
                obtain ⟨T2b, hW⟩ : ∃ X, put3 T2a ga (.int .i64 k2_.level) (.slice Ap2_ np2_ cp2_) (.slice Bp2_ mp2_ dp2_) = X := ⟨_, rfl⟩
                rewrite [hW] at h9_0 h9_1 h9_2 h9_3 h9_4 h9_i h9_Ip2_ h9_b
                have hW2 : ((T2a.setCell ⟨ga, 0, none⟩ (.int .i64 k2_.level)).setCell ⟨ga, 1, none⟩ (.slice Ap2_ np2_ cp2_)).setCell ⟨ga, 2, none⟩ (.slice Bp2_ mp2_ dp2_) = T2b := hW
                rewrite [hW2]
                clear hW hW2 Xa Xb XK XX XQ IK Ip2_ HBW
                have Xa := Lib.hid h9_0
                have Xb := Lib.hid h9_1
                have XK := Lib.hid h9_2
                have XX := Lib.hid h9_3
                have XQ := Lib.hid h9_4
                have IK := Lib.hid h9_i
                have Ip2_ := Lib.hid h9_Ip2_
                have HBW := Lib.hid h9_b
                clear h9_0 h9_1 h9_2 h9_3 h9_4 h9_i h9_Ip2_ h9_b
                have q0 := Blk.cell XQ.out 0
                have q1 := Blk.cell XQ.out 1
                simp only [List.getElem?_toArray, List.getElem?_cons_zero, List.getElem?_cons_succ] at q0 q1
                have a0 := Blk.cell XK.out 0
                have a1 := Blk.cell XK.out 1
                have a2 := Blk.cell XK.out 2
                simp only [List.getElem?_toArray, List.getElem?_cons_zero, List.getElem?_cons_succ] at a0 a1 a2
                go_wp2_with fail
                have q := (((refreport9_any ck AK BK nK cK mK dK xa xb T2b IK.out HN6.out.1 HN6.out.2).mono (fun e w' h => CtOwnP.post (c := ck) h))).mono (fun e w' h => h.at Hk2_.out (lv := (k2_).level) rfl)
                ((with_reducible refine q.mono ?_); rintro e T2c ⟨Ao2_, no2_, co2_, Bo2_, mo2_, do2_, rfl, h1, h2, ct, b⟩)
                clear q a0 a1 a2
                have Xa_ := Lib.hid (Blk.below Xa.out b); clear Xa
                have Xa := Xa_; clear Xa_
                have Xb_ := Lib.hid (Blk.below Xb.out b); clear Xb
                have Xb := Xb_; clear Xb_
                have XK_ := Lib.hid (Blk.below XK.out b); clear XK
                have XK := XK_; clear XK_
                have XX_ := Lib.hid (Blk.below XX.out b); clear XX
                have XX := XX_; clear XX_
                have IK_ := Lib.hid (IK.out.below b); clear IK
                have IK := IK_; clear IK_
                have XQ_ := Lib.hid (Blk.below XQ.out b); clear XQ
                have XQ := XQ_; clear XQ_
                have Ip2__ := Lib.hid (Ip2_.out.below b); clear Ip2_
                have Ip2_ := Ip2__; clear Ip2__
                have HBW_ := Lib.hid (bch HBW.out b); clear HBW
                have HBW := HBW_; clear HBW_
                clear b
                clear q0 q1
                have Io2_ := Lib.hid ct
                clear h1 h2 ct
                have y0 := Blk.cell Xb.out 0
                have y1 := Blk.cell Xb.out 1
                have y2 := Blk.cell Xb.out 2
                simp only [List.getElem?_toArray, List.getElem?_cons_zero, List.getElem?_cons_succ] at y0 y1 y2
                have f0 := Blk.frozen Xb.out 0
                have f1 := Blk.frozen Xb.out 1
                have f2 := Blk.frozen Xb.out 2
                go_upto_region 25 with fail
                clear y0 y1 y2 f0 f1 f2
                have h9_0 := ct_put Xb.out k2_ Ao2_ no2_ co2_ Bo2_ mo2_ do2_
                have h9_1 := blk_put3 Xa.out (show ga ≠ gb by have h1 := HG.out; have h2 := HLq.out; omega) (.int .i64 k2_.level) (.slice Ao2_ no2_ co2_) (.slice Bo2_ mo2_ do2_)
                have h9_2 := blk_put3 XK.out (show gk ≠ gb by have h1 := HG.out; have h2 := HLq.out; omega) (.int .i64 k2_.level) (.slice Ao2_ no2_ co2_) (.slice Bo2_ mo2_ do2_)
                have h9_3 := blk_put3 XX.out (show gx ≠ gb by have h1 := HG.out; have h2 := HLq.out; omega) (.int .i64 k2_.level) (.slice Ao2_ no2_ co2_) (.slice Bo2_ mo2_ do2_)
                have h9_4 := blk_put3 XQ.out (show gq ≠ gb by have h1 := HG.out; have h2 := HLq.out; omega) (.int .i64 k2_.level) (.slice Ao2_ no2_ co2_) (.slice Bo2_ mo2_ do2_)
                have h9_i := isCt_put3 Xb.out IK.out k2_ Ao2_ no2_ co2_ Bo2_ mo2_ do2_
                have h9_Ip2_ := isCt_put3 Xb.out Ip2_.out k2_ Ao2_ no2_ co2_ Bo2_ mo2_ do2_
                have h9_Io2_ := isCt_put3 Xb.out Io2_.out k2_ Ao2_ no2_ co2_ Bo2_ mo2_ do2_
                have h9_b := below_put3 HBW.out (show W7.heap.size ≤ gb by have h1 := HG.out; omega) (.int .i64 k2_.level) (.slice Ao2_ no2_ co2_) (.slice Bo2_ mo2_ do2_)
                obtain ⟨T2d, hW⟩ : ∃ X, put3 T2c gb (.int .i64 k2_.level) (.slice Ao2_ no2_ co2_) (.slice Bo2_ mo2_ do2_) = X := ⟨_, rfl⟩
                rewrite [hW] at h9_0 h9_1 h9_2 h9_3 h9_4 h9_i h9_Ip2_ h9_Io2_ h9_b
                have hW2 : ((T2c.setCell ⟨gb, 0, none⟩ (.int .i64 k2_.level)).setCell ⟨gb, 1, none⟩ (.slice Ao2_ no2_ co2_)).setCell ⟨gb, 2, none⟩ (.slice Bo2_ mo2_ do2_) = T2d := hW
                rewrite [hW2]
                clear hW hW2 Xb Xa XK XX XQ IK Ip2_ Io2_ HBW
                have Xb := Lib.hid h9_0
                have Xa := Lib.hid h9_1
                have XK := Lib.hid h9_2
                have XX := Lib.hid h9_3
                have XQ := Lib.hid h9_4
                have IK := Lib.hid h9_i
                have Ip2_ := Lib.hid h9_Ip2_
                have Io2_ := Lib.hid h9_Io2_
                have HBW := Lib.hid h9_b
                clear h9_0 h9_1 h9_2 h9_3 h9_4 h9_i h9_Ip2_ h9_Io2_ h9_b
                have a0 := Blk.cell Xa.out 0
                have a1 := Blk.cell Xa.out 1
                have a2 := Blk.cell Xa.out 2
                simp only [List.getElem?_toArray, List.getElem?_cons_zero, List.getElem?_cons_succ] at a0 a1 a2
                have b0 := Blk.cell Xb.out 0
                have b1 := Blk.cell Xb.out 1
                have b2 := Blk.cell Xb.out 2
                simp only [List.getElem?_toArray, List.getElem?_cons_zero, List.getElem?_cons_succ] at b0 b1 b2
                go_wp2_with fail
                have q := by
                  have q := refsamec_any k2_ k2_ Ap2_ Bp2_ Ao2_ Bo2_ np2_ cp2_ mp2_ dp2_ no2_ co2_ mo2_ do2_ T2d Ip2_.out Io2_.out
                  rewrite [show decide (k2_ = k2_) = true from decide_eq_true rfl] at q
                  exact q
                ((with_reducible refine q.mono ?_); rintro e T2e ⟨rfl, b⟩)
                clear q a0 a1 a2 b0 b1 b2
                have Xa_ := Lib.hid (Blk.below Xa.out b); clear Xa
                have Xa := Xa_; clear Xa_
                have Xb_ := Lib.hid (Blk.below Xb.out b); clear Xb
                have Xb := Xb_; clear Xb_
                have XK_ := Lib.hid (Blk.below XK.out b); clear XK
                have XK := XK_; clear XK_
                have XX_ := Lib.hid (Blk.below XX.out b); clear XX
                have XX := XX_; clear XX_
                have IK_ := Lib.hid (IK.out.below b); clear IK
                have IK := IK_; clear IK_
                have XQ_ := Lib.hid (Blk.below XQ.out b); clear XQ
                have XQ := XQ_; clear XQ_
                have Ip2__ := Lib.hid (Ip2_.out.below b); clear Ip2_
                have Ip2_ := Ip2__; clear Ip2__
                have Io2__ := Lib.hid (Io2_.out.below b); clear Io2_
                have Io2_ := Io2__; clear Io2__
                have HBW_ := Lib.hid (bch HBW.out b); clear HBW
                have HBW := HBW_; clear HBW_
                clear b
                go_upto_region 27 with fail
                clear Ip2_ Io2_ Hk2_
                as_aux_lemma =>
                  obtain ⟨k3_, e3_, hk3_⟩ : ∃ k z, planC ck xa xb = (k, z) := ⟨_, _, rfl⟩
                  have Hk3_ := Lib.hid hk3_; clear hk3_
                  have q0 := Blk.cell XQ.out 0
                  have q1 := Blk.cell XQ.out 1
                  simp only [List.getElem?_toArray, List.getElem?_cons_zero, List.getElem?_cons_succ] at q0 q1
                  have a0 := Blk.cell XK.out 0
                  have a1 := Blk.cell XK.out 1
                  have a2 := Blk.cell XK.out 2
                  simp only [List.getElem?_toArray, List.getElem?_cons_zero, List.getElem?_cons_succ] at a0 a1 a2
                  go_wp2_with fail
                  have q := ((kL ck AK BK nK cK mK dK xa xb T2e (ctArg IK.out HCW.out HSK.out SK.out.1 SK.out.2) wxa wxb)).mono (fun e w' h => h.at Hk3_.out (lv := (k3_).level) rfl)
                  ((with_reducible refine q.mono ?_); rintro e T3a ⟨Ap3_, np3_, cp3_, Bp3_, mp3_, dp3_, rfl, h1, h2, ct, b⟩)
                  clear q a0 a1 a2
                  have Xa_ := Lib.hid (Blk.below Xa.out b); clear Xa
                  have Xa := Xa_; clear Xa_
                  have Xb_ := Lib.hid (Blk.below Xb.out b); clear Xb
                  have Xb := Xb_; clear Xb_
                  have XK_ := Lib.hid (Blk.below XK.out b); clear XK
                  have XK := XK_; clear XK_
                  have XX_ := Lib.hid (Blk.below XX.out b); clear XX
                  have XX := XX_; clear XX_
                  have IK_ := Lib.hid (IK.out.below b); clear IK
                  have IK := IK_; clear IK_
                  have XQ_ := Lib.hid (Blk.below XQ.out b); clear XQ
                  have XQ := XQ_; clear XQ_
                  have HBW_ := Lib.hid (bch HBW.out b); clear HBW
                  have HBW := HBW_; clear HBW_
                  clear b
                  clear q0 q1
                  have Ip3_ := Lib.hid ct
                  clear h1 h2 ct
                  have y0 := Blk.cell Xa.out 0
                  have y1 := Blk.cell Xa.out 1
                  have y2 := Blk.cell Xa.out 2
                  simp only [List.getElem?_toArray, List.getElem?_cons_zero, List.getElem?_cons_succ] at y0 y1 y2
                  have f0 := Blk.frozen Xa.out 0
                  have f1 := Blk.frozen Xa.out 1
                  have f2 := Blk.frozen Xa.out 2
                  go_upto_region 28 with fail
                  clear y0 y1 y2 f0 f1 f2
                  have h9_0 := ct_put Xa.out k3_ Ap3_ np3_ cp3_ Bp3_ mp3_ dp3_
                  have h9_1 := blk_put3 Xb.out (show gb ≠ ga by have h1 := HG.out; have h2 := HLq.out; omega) (.int .i64 k3_.level) (.slice Ap3_ np3_ cp3_) (.slice Bp3_ mp3_ dp3_)
                  have h9_2 := blk_put3 XK.out (show gk ≠ ga by have h1 := HG.out; have h2 := HLq.out; omega) (.int .i64 k3_.level) (.slice Ap3_ np3_ cp3_) (.slice Bp3_ mp3_ dp3_)
                  have h9_3 := blk_put3 XX.out (show gx ≠ ga by have h1 := HG.out; have h2 := HLq.out; omega) (.int .i64 k3_.level) (.slice Ap3_ np3_ cp3_) (.slice Bp3_ mp3_ dp3_)
                  have h9_4 := blk_put3 XQ.out (show gq ≠ ga by have h1 := HG.out; have h2 := HLq.out; omega) (.int .i64 k3_.level) (.slice Ap3_ np3_ cp3_) (.slice Bp3_ mp3_ dp3_)
                  have h9_i := isCt_put3 Xa.out IK.out k3_ Ap3_ np3_ cp3_ Bp3_ mp3_ dp3_
                  have h9_Ip3_ := isCt_put3 Xa.out Ip3_.out k3_ Ap3_ np3_ cp3_ Bp3_ mp3_ dp3_
                  have h9_b := below_put3 HBW.out (show W7.heap.size ≤ ga by have h1 := HG.out; omega) (.int .i64 k3_.level) (.slice Ap3_ np3_ cp3_) (.slice Bp3_ mp3_ dp3_)
                  obtain ⟨T3b, hW⟩ : ∃ X, put3 T3a ga (.int .i64 k3_.level) (.slice Ap3_ np3_ cp3_) (.slice Bp3_ mp3_ dp3_) = X := ⟨_, rfl⟩
                  rewrite [hW] at h9_0 h9_1 h9_2 h9_3 h9_4 h9_i h9_Ip3_ h9_b
                  have hW2 : ((T3a.setCell ⟨ga, 0, none⟩ (.int .i64 k3_.level)).setCell ⟨ga, 1, none⟩ (.slice Ap3_ np3_ cp3_)).setCell ⟨ga, 2, none⟩ (.slice Bp3_ mp3_ dp3_) = T3b := hW
                  rewrite [hW2]
                  clear hW hW2 Xa Xb XK XX XQ IK Ip3_ HBW
                  have Xa := Lib.hid h9_0
                  have Xb := Lib.hid h9_1
                  have XK := Lib.hid h9_2
                  have XX := Lib.hid h9_3
                  have XQ := Lib.hid h9_4
                  have IK := Lib.hid h9_i
                  have Ip3_ := Lib.hid h9_Ip3_
                  have HBW := Lib.hid h9_b
                  clear h9_0 h9_1 h9_2 h9_3 h9_4 h9_i h9_Ip3_ h9_b
                  have q0 := Blk.cell XQ.out 0
                  have q1 := Blk.cell XQ.out 1
                  simp only [List.getElem?_toArray, List.getElem?_cons_zero, List.getElem?_cons_succ] at q0 q1
                  have a0 := Blk.cell XK.out 0
                  have a1 := Blk.cell XK.out 1
                  have a2 := Blk.cell XK.out 2
                  simp only [List.getElem?_toArray, List.getElem?_cons_zero, List.getElem?_cons_succ] at a0 a1 a2
                  go_wp2_with fail
                  have q := (((refplan9_any ck AK BK nK cK mK dK xa xb T3b IK.out HN6.out.1 HN6.out.2).mono (fun e w' h => CtOwnP.post (c := ck) h))).mono (fun e w' h => h.at Hk3_.out (lv := (k3_).level) rfl)
                  ((with_reducible refine q.mono ?_); rintro e T3c ⟨Ao3_, no3_, co3_, Bo3_, mo3_, do3_, rfl, h1, h2, ct, b⟩)
                  clear q a0 a1 a2
                  have Xa_ := Lib.hid (Blk.below Xa.out b); clear Xa
                  have Xa := Xa_; clear Xa_
                  have Xb_ := Lib.hid (Blk.below Xb.out b); clear Xb
                  have Xb := Xb_; clear Xb_
                  have XK_ := Lib.hid (Blk.below XK.out b); clear XK
                  have XK := XK_; clear XK_
                  have XX_ := Lib.hid (Blk.below XX.out b); clear XX
                  have XX := XX_; clear XX_
                  have IK_ := Lib.hid (IK.out.below b); clear IK
                  have IK := IK_; clear IK_
                  have XQ_ := Lib.hid (Blk.below XQ.out b); clear XQ
                  have XQ := XQ_; clear XQ_
                  have Ip3__ := Lib.hid (Ip3_.out.below b); clear Ip3_
                  have Ip3_ := Ip3__; clear Ip3__
                  have HBW_ := Lib.hid (bch HBW.out b); clear HBW
                  have HBW := HBW_; clear HBW_
                  clear b
                  clear q0 q1
                  have Io3_ := Lib.hid ct
                  clear h1 h2 ct
                  have y0 := Blk.cell Xb.out 0
                  have y1 := Blk.cell Xb.out 1
                  have y2 := Blk.cell Xb.out 2
                  simp only [List.getElem?_toArray, List.getElem?_cons_zero, List.getElem?_cons_succ] at y0 y1 y2
                  have f0 := Blk.frozen Xb.out 0
                  have f1 := Blk.frozen Xb.out 1
                  have f2 := Blk.frozen Xb.out 2
                  go_upto_region 29 with fail
                  clear y0 y1 y2 f0 f1 f2
                  have h9_0 := ct_put Xb.out k3_ Ao3_ no3_ co3_ Bo3_ mo3_ do3_
                  have h9_1 := blk_put3 Xa.out (show ga ≠ gb by have h1 := HG.out; have h2 := HLq.out; omega) (.int .i64 k3_.level) (.slice Ao3_ no3_ co3_) (.slice Bo3_ mo3_ do3_)
                  have h9_2 := blk_put3 XK.out (show gk ≠ gb by have h1 := HG.out; have h2 := HLq.out; omega) (.int .i64 k3_.level) (.slice Ao3_ no3_ co3_) (.slice Bo3_ mo3_ do3_)
                  have h9_3 := blk_put3 XX.out (show gx ≠ gb by have h1 := HG.out; have h2 := HLq.out; omega) (.int .i64 k3_.level) (.slice Ao3_ no3_ co3_) (.slice Bo3_ mo3_ do3_)
                  have h9_4 := blk_put3 XQ.out (show gq ≠ gb by have h1 := HG.out; have h2 := HLq.out; omega) (.int .i64 k3_.level) (.slice Ao3_ no3_ co3_) (.slice Bo3_ mo3_ do3_)
                  have h9_i := isCt_put3 Xb.out IK.out k3_ Ao3_ no3_ co3_ Bo3_ mo3_ do3_
                  have h9_Ip3_ := isCt_put3 Xb.out Ip3_.out k3_ Ao3_ no3_ co3_ Bo3_ mo3_ do3_
                  have h9_Io3_ := isCt_put3 Xb.out Io3_.out k3_ Ao3_ no3_ co3_ Bo3_ mo3_ do3_
                  have h9_b := below_put3 HBW.out (show W7.heap.size ≤ gb by have h1 := HG.out; omega) (.int .i64 k3_.level) (.slice Ao3_ no3_ co3_) (.slice Bo3_ mo3_ do3_)
                  obtain ⟨T3d, hW⟩ : ∃ X, put3 T3c gb (.int .i64 k3_.level) (.slice Ao3_ no3_ co3_) (.slice Bo3_ mo3_ do3_) = X := ⟨_, rfl⟩
                  rewrite [hW] at h9_0 h9_1 h9_2 h9_3 h9_4 h9_i h9_Ip3_ h9_Io3_ h9_b
                  have hW2 : ((T3c.setCell ⟨gb, 0, none⟩ (.int .i64 k3_.level)).setCell ⟨gb, 1, none⟩ (.slice Ao3_ no3_ co3_)).setCell ⟨gb, 2, none⟩ (.slice Bo3_ mo3_ do3_) = T3d := hW
                  rewrite [hW2]
                  clear hW hW2 Xb Xa XK XX XQ IK Ip3_ Io3_ HBW
                  have Xb := Lib.hid h9_0
                  have Xa := Lib.hid h9_1
                  have XK := Lib.hid h9_2
                  have XX := Lib.hid h9_3
                  have XQ := Lib.hid h9_4
                  have IK := Lib.hid h9_i
                  have Ip3_ := Lib.hid h9_Ip3_
                  have Io3_ := Lib.hid h9_Io3_
                  have HBW := Lib.hid h9_b
                  clear h9_0 h9_1 h9_2 h9_3 h9_4 h9_i h9_Ip3_ h9_Io3_ h9_b
                  have a0 := Blk.cell Xa.out 0
                  have a1 := Blk.cell Xa.out 1
                  have a2 := Blk.cell Xa.out 2
                  simp only [List.getElem?_toArray, List.getElem?_cons_zero, List.getElem?_cons_succ] at a0 a1 a2
                  have b0 := Blk.cell Xb.out 0
                  have b1 := Blk.cell Xb.out 1
                  have b2 := Blk.cell Xb.out 2
                  simp only [List.getElem?_toArray, List.getElem?_cons_zero, List.getElem?_cons_succ] at b0 b1 b2
                  go_wp2_with fail
                  have q := by
                    have q := refsamec_any k3_ k3_ Ap3_ Bp3_ Ao3_ Bo3_ np3_ cp3_ mp3_ dp3_ no3_ co3_ mo3_ do3_ T3d Ip3_.out Io3_.out
                    rewrite [show decide (k3_ = k3_) = true from decide_eq_true rfl] at q
                    exact q
                  ((with_reducible refine q.mono ?_); rintro e T3e ⟨rfl, b⟩)
                  clear q a0 a1 a2 b0 b1 b2
                  have Xa_ := Lib.hid (Blk.below Xa.out b); clear Xa
                  have Xa := Xa_; clear Xa_
                  have Xb_ := Lib.hid (Blk.below Xb.out b); clear Xb
                  have Xb := Xb_; clear Xb_
                  have XK_ := Lib.hid (Blk.below XK.out b); clear XK
                  have XK := XK_; clear XK_
                  have XX_ := Lib.hid (Blk.below XX.out b); clear XX
                  have XX := XX_; clear XX_
                  have IK_ := Lib.hid (IK.out.below b); clear IK
                  have IK := IK_; clear IK_
                  have XQ_ := Lib.hid (Blk.below XQ.out b); clear XQ
                  have XQ := XQ_; clear XQ_
                  have Ip3__ := Lib.hid (Ip3_.out.below b); clear Ip3_
                  have Ip3_ := Ip3__; clear Ip3__
                  have Io3__ := Lib.hid (Io3_.out.below b); clear Io3_
                  have Io3_ := Io3__; clear Io3__
                  have HBW_ := Lib.hid (bch HBW.out b); clear HBW
                  have HBW := HBW_; clear HBW_
                  clear b
                  go_upto_region 31 with fail
                  clear Ip3_ Io3_ Hk3_
                  obtain ⟨k4_, e4_, hk4_⟩ : ∃ k z, commitC ck xa = (k, z) := ⟨_, _, rfl⟩
                  have Hk4_ := Lib.hid hk4_; clear hk4_
                  have q0 := Blk.cell XQ.out 0
                  have q1 := Blk.cell XQ.out 1
                  simp only [List.getElem?_toArray, List.getElem?_cons_zero, List.getElem?_cons_succ] at q0 q1
                  have a0 := Blk.cell XK.out 0
                  have a1 := Blk.cell XK.out 1
                  have a2 := Blk.cell XK.out 2
                  simp only [List.getElem?_toArray, List.getElem?_cons_zero, List.getElem?_cons_succ] at a0 a1 a2
                  go_wp2_with fail
                  have q := ((kM ck AK BK nK cK mK dK xa T3e (ctArg IK.out HCW.out HSK.out SK.out.1 SK.out.2) wxa)).mono (fun e w' h => h.at Hk4_.out (lv := (k4_).level) rfl)
                  ((with_reducible refine q.mono ?_); rintro e T4a ⟨Ap4_, np4_, cp4_, Bp4_, mp4_, dp4_, rfl, h1, h2, ct, b⟩)
                  clear q a0 a1 a2
                  have Xa_ := Lib.hid (Blk.below Xa.out b); clear Xa
                  have Xa := Xa_; clear Xa_
                  have Xb_ := Lib.hid (Blk.below Xb.out b); clear Xb
                  have Xb := Xb_; clear Xb_
                  have XK_ := Lib.hid (Blk.below XK.out b); clear XK
                  have XK := XK_; clear XK_
                  have XX_ := Lib.hid (Blk.below XX.out b); clear XX
                  have XX := XX_; clear XX_
                  have IK_ := Lib.hid (IK.out.below b); clear IK
                  have IK := IK_; clear IK_
                  have XQ_ := Lib.hid (Blk.below XQ.out b); clear XQ
                  have XQ := XQ_; clear XQ_
                  have HBW_ := Lib.hid (bch HBW.out b); clear HBW
                  have HBW := HBW_; clear HBW_
                  clear b
                  clear q0 q1
                  have Ip4_ := Lib.hid ct
                  clear h1 h2 ct
                  have y0 := Blk.cell Xa.out 0
                  have y1 := Blk.cell Xa.out 1
                  have y2 := Blk.cell Xa.out 2
                  simp only [List.getElem?_toArray, List.getElem?_cons_zero, List.getElem?_cons_succ] at y0 y1 y2
                  have f0 := Blk.frozen Xa.out 0
                  have f1 := Blk.frozen Xa.out 1
                  have f2 := Blk.frozen Xa.out 2
                  go_upto_region 32 with fail
                  clear y0 y1 y2 f0 f1 f2
                  have h9_0 := ct_put Xa.out k4_ Ap4_ np4_ cp4_ Bp4_ mp4_ dp4_
                  have h9_1 := blk_put3 Xb.out (show gb ≠ ga by have h1 := HG.out; have h2 := HLq.out; omega) (.int .i64 k4_.level) (.slice Ap4_ np4_ cp4_) (.slice Bp4_ mp4_ dp4_)
                  have h9_2 := blk_put3 XK.out (show gk ≠ ga by have h1 := HG.out; have h2 := HLq.out; omega) (.int .i64 k4_.level) (.slice Ap4_ np4_ cp4_) (.slice Bp4_ mp4_ dp4_)
                  have h9_3 := blk_put3 XX.out (show gx ≠ ga by have h1 := HG.out; have h2 := HLq.out; omega) (.int .i64 k4_.level) (.slice Ap4_ np4_ cp4_) (.slice Bp4_ mp4_ dp4_)
                  have h9_4 := blk_put3 XQ.out (show gq ≠ ga by have h1 := HG.out; have h2 := HLq.out; omega) (.int .i64 k4_.level) (.slice Ap4_ np4_ cp4_) (.slice Bp4_ mp4_ dp4_)
                  have h9_i := isCt_put3 Xa.out IK.out k4_ Ap4_ np4_ cp4_ Bp4_ mp4_ dp4_
                  have h9_Ip4_ := isCt_put3 Xa.out Ip4_.out k4_ Ap4_ np4_ cp4_ Bp4_ mp4_ dp4_
                  have h9_b := below_put3 HBW.out (show W7.heap.size ≤ ga by have h1 := HG.out; omega) (.int .i64 k4_.level) (.slice Ap4_ np4_ cp4_) (.slice Bp4_ mp4_ dp4_)
                  obtain ⟨T4b, hW⟩ : ∃ X, put3 T4a ga (.int .i64 k4_.level) (.slice Ap4_ np4_ cp4_) (.slice Bp4_ mp4_ dp4_) = X := ⟨_, rfl⟩
                  rewrite [hW] at h9_0 h9_1 h9_2 h9_3 h9_4 h9_i h9_Ip4_ h9_b
                  have hW2 : ((T4a.setCell ⟨ga, 0, none⟩ (.int .i64 k4_.level)).setCell ⟨ga, 1, none⟩ (.slice Ap4_ np4_ cp4_)).setCell ⟨ga, 2, none⟩ (.slice Bp4_ mp4_ dp4_) = T4b := hW
                  rewrite [hW2]
                  clear hW hW2 Xa Xb XK XX XQ IK Ip4_ HBW
                  have Xa := Lib.hid h9_0
                  have Xb := Lib.hid h9_1
                  have XK := Lib.hid h9_2
                  have XX := Lib.hid h9_3
                  have XQ := Lib.hid h9_4
                  have IK := Lib.hid h9_i
                  have Ip4_ := Lib.hid h9_Ip4_
                  have HBW := Lib.hid h9_b
                  clear h9_0 h9_1 h9_2 h9_3 h9_4 h9_i h9_Ip4_ h9_b
                  have q0 := Blk.cell XQ.out 0
                  have q1 := Blk.cell XQ.out 1
                  simp only [List.getElem?_toArray, List.getElem?_cons_zero, List.getElem?_cons_succ] at q0 q1
                  have a0 := Blk.cell XK.out 0
                  have a1 := Blk.cell XK.out 1
                  have a2 := Blk.cell XK.out 2
                  simp only [List.getElem?_toArray, List.getElem?_cons_zero, List.getElem?_cons_succ] at a0 a1 a2
                  go_wp2_with fail
                  have q := (((refcommit9_any ck AK BK nK cK mK dK xa T4b IK.out HCW.out HN6.out.1 HN6.out.2).mono (fun e w' h => CtOwnP.post (c := ck) h))).mono (fun e w' h => h.at Hk4_.out (lv := (k4_).level) rfl)
                  ((with_reducible refine q.mono ?_); rintro e T4c ⟨Ao4_, no4_, co4_, Bo4_, mo4_, do4_, rfl, h1, h2, ct, b⟩)
                  clear q a0 a1 a2
                  have Xa_ := Lib.hid (Blk.below Xa.out b); clear Xa
                  have Xa := Xa_; clear Xa_
                  have Xb_ := Lib.hid (Blk.below Xb.out b); clear Xb
                  have Xb := Xb_; clear Xb_
                  have XK_ := Lib.hid (Blk.below XK.out b); clear XK
                  have XK := XK_; clear XK_
                  have XX_ := Lib.hid (Blk.below XX.out b); clear XX
                  have XX := XX_; clear XX_
                  have IK_ := Lib.hid (IK.out.below b); clear IK
                  have IK := IK_; clear IK_
                  have XQ_ := Lib.hid (Blk.below XQ.out b); clear XQ
                  have XQ := XQ_; clear XQ_
                  have Ip4__ := Lib.hid (Ip4_.out.below b); clear Ip4_
                  have Ip4_ := Ip4__; clear Ip4__
                  have HBW_ := Lib.hid (bch HBW.out b); clear HBW
                  have HBW := HBW_; clear HBW_
                  clear b
                  clear q0 q1
                  have Io4_ := Lib.hid ct
                  clear h1 h2 ct
                  have y0 := Blk.cell Xb.out 0
                  have y1 := Blk.cell Xb.out 1
                  have y2 := Blk.cell Xb.out 2
                  simp only [List.getElem?_toArray, List.getElem?_cons_zero, List.getElem?_cons_succ] at y0 y1 y2
                  have f0 := Blk.frozen Xb.out 0
                  have f1 := Blk.frozen Xb.out 1
                  have f2 := Blk.frozen Xb.out 2
                  go_upto_region 33 with fail
                  clear y0 y1 y2 f0 f1 f2
                  have h9_0 := ct_put Xb.out k4_ Ao4_ no4_ co4_ Bo4_ mo4_ do4_
                  have h9_1 := blk_put3 Xa.out (show ga ≠ gb by have h1 := HG.out; have h2 := HLq.out; omega) (.int .i64 k4_.level) (.slice Ao4_ no4_ co4_) (.slice Bo4_ mo4_ do4_)
                  have h9_2 := blk_put3 XK.out (show gk ≠ gb by have h1 := HG.out; have h2 := HLq.out; omega) (.int .i64 k4_.level) (.slice Ao4_ no4_ co4_) (.slice Bo4_ mo4_ do4_)
                  have h9_3 := blk_put3 XX.out (show gx ≠ gb by have h1 := HG.out; have h2 := HLq.out; omega) (.int .i64 k4_.level) (.slice Ao4_ no4_ co4_) (.slice Bo4_ mo4_ do4_)
                  have h9_4 := blk_put3 XQ.out (show gq ≠ gb by have h1 := HG.out; have h2 := HLq.out; omega) (.int .i64 k4_.level) (.slice Ao4_ no4_ co4_) (.slice Bo4_ mo4_ do4_)
                  have h9_i := isCt_put3 Xb.out IK.out k4_ Ao4_ no4_ co4_ Bo4_ mo4_ do4_
                  have h9_Ip4_ := isCt_put3 Xb.out Ip4_.out k4_ Ao4_ no4_ co4_ Bo4_ mo4_ do4_
                  have h9_Io4_ := isCt_put3 Xb.out Io4_.out k4_ Ao4_ no4_ co4_ Bo4_ mo4_ do4_
                  have h9_b := below_put3 HBW.out (show W7.heap.size ≤ gb by have h1 := HG.out; omega) (.int .i64 k4_.level) (.slice Ao4_ no4_ co4_) (.slice Bo4_ mo4_ do4_)
                  obtain ⟨T4d, hW⟩ : ∃ X, put3 T4c gb (.int .i64 k4_.level) (.slice Ao4_ no4_ co4_) (.slice Bo4_ mo4_ do4_) = X := ⟨_, rfl⟩
                  rewrite [hW] at h9_0 h9_1 h9_2 h9_3 h9_4 h9_i h9_Ip4_ h9_Io4_ h9_b
                  have hW2 : ((T4c.setCell ⟨gb, 0, none⟩ (.int .i64 k4_.level)).setCell ⟨gb, 1, none⟩ (.slice Ao4_ no4_ co4_)).setCell ⟨gb, 2, none⟩ (.slice Bo4_ mo4_ do4_) = T4d := hW
                  rewrite [hW2]
                  clear hW hW2 Xb Xa XK XX XQ IK Ip4_ Io4_ HBW
                  have Xb := Lib.hid h9_0
                  have Xa := Lib.hid h9_1
                  have XK := Lib.hid h9_2
                  have XX := Lib.hid h9_3
                  have XQ := Lib.hid h9_4
                  have IK := Lib.hid h9_i
                  have Ip4_ := Lib.hid h9_Ip4_
                  have Io4_ := Lib.hid h9_Io4_
                  have HBW := Lib.hid h9_b
                  clear h9_0 h9_1 h9_2 h9_3 h9_4 h9_i h9_Ip4_ h9_Io4_ h9_b
                  have a0 := Blk.cell Xa.out 0
                  have a1 := Blk.cell Xa.out 1
                  have a2 := Blk.cell Xa.out 2
                  simp only [List.getElem?_toArray, List.getElem?_cons_zero, List.getElem?_cons_succ] at a0 a1 a2
                  have b0 := Blk.cell Xb.out 0
                  have b1 := Blk.cell Xb.out 1
                  have b2 := Blk.cell Xb.out 2
                  simp only [List.getElem?_toArray, List.getElem?_cons_zero, List.getElem?_cons_succ] at b0 b1 b2
                  go_wp2_with fail
                  have q := by
                    have q := refsamec_any k4_ k4_ Ap4_ Bp4_ Ao4_ Bo4_ np4_ cp4_ mp4_ dp4_ no4_ co4_ mo4_ do4_ T4d Ip4_.out Io4_.out
                    rewrite [show decide (k4_ = k4_) = true from decide_eq_true rfl] at q
                    exact q
                  ((with_reducible refine q.mono ?_); rintro e T4e ⟨rfl, b⟩)
                  clear q a0 a1 a2 b0 b1 b2
                  have Xa_ := Lib.hid (Blk.below Xa.out b); clear Xa
                  have Xa := Xa_; clear Xa_
                  have Xb_ := Lib.hid (Blk.below Xb.out b); clear Xb
                  have Xb := Xb_; clear Xb_
                  have XK_ := Lib.hid (Blk.below XK.out b); clear XK
                  have XK := XK_; clear XK_
                  have XX_ := Lib.hid (Blk.below XX.out b); clear XX
                  have XX := XX_; clear XX_
                  have IK_ := Lib.hid (IK.out.below b); clear IK
                  have IK := IK_; clear IK_
                  have XQ_ := Lib.hid (Blk.below XQ.out b); clear XQ
                  have XQ := XQ_; clear XQ_
                  have Ip4__ := Lib.hid (Ip4_.out.below b); clear Ip4_
                  have Ip4_ := Ip4__; clear Ip4__
                  have Io4__ := Lib.hid (Io4_.out.below b); clear Io4_
                  have Io4_ := Io4__; clear Io4__
                  have HBW_ := Lib.hid (bch HBW.out b); clear HBW
                  have HBW := HBW_; clear HBW_
                  clear b
                  go_upto_region 35 with fail
                  clear Ip4_ Io4_ Hk4_
                  as_aux_lemma =>
                    obtain ⟨k5_, e5_, hk5_⟩ : ∃ k z, cancelC ck xa = (k, z) := ⟨_, _, rfl⟩
                    have Hk5_ := Lib.hid hk5_; clear hk5_
                    have q0 := Blk.cell XQ.out 0
                    have q1 := Blk.cell XQ.out 1
                    simp only [List.getElem?_toArray, List.getElem?_cons_zero, List.getElem?_cons_succ] at q0 q1
                    have a0 := Blk.cell XK.out 0
                    have a1 := Blk.cell XK.out 1
                    have a2 := Blk.cell XK.out 2
                    simp only [List.getElem?_toArray, List.getElem?_cons_zero, List.getElem?_cons_succ] at a0 a1 a2
                    go_wp2_with fail
                    have q := ((kC ck AK BK nK cK mK dK xa T4e (ctArg IK.out HCW.out HSK.out SK.out.1 SK.out.2) wxa)).mono (fun e w' h => h.at Hk5_.out (lv := (k5_).level) rfl)
                    ((with_reducible refine q.mono ?_); rintro e T5a ⟨Ap5_, np5_, cp5_, Bp5_, mp5_, dp5_, rfl, h1, h2, ct, b⟩)
                    clear q a0 a1 a2
                    have Xa_ := Lib.hid (Blk.below Xa.out b); clear Xa
                    have Xa := Xa_; clear Xa_
                    have Xb_ := Lib.hid (Blk.below Xb.out b); clear Xb
                    have Xb := Xb_; clear Xb_
                    have XK_ := Lib.hid (Blk.below XK.out b); clear XK
                    have XK := XK_; clear XK_
                    have XX_ := Lib.hid (Blk.below XX.out b); clear XX
                    have XX := XX_; clear XX_
                    have IK_ := Lib.hid (IK.out.below b); clear IK
                    have IK := IK_; clear IK_
                    have XQ_ := Lib.hid (Blk.below XQ.out b); clear XQ
                    have XQ := XQ_; clear XQ_
                    have HBW_ := Lib.hid (bch HBW.out b); clear HBW
                    have HBW := HBW_; clear HBW_
                    clear b
                    clear q0 q1
                    have Ip5_ := Lib.hid ct
                    clear h1 h2 ct
                    have y0 := Blk.cell Xa.out 0
                    have y1 := Blk.cell Xa.out 1
                    have y2 := Blk.cell Xa.out 2
                    simp only [List.getElem?_toArray, List.getElem?_cons_zero, List.getElem?_cons_succ] at y0 y1 y2
                    have f0 := Blk.frozen Xa.out 0
                    have f1 := Blk.frozen Xa.out 1
                    have f2 := Blk.frozen Xa.out 2
                    go_upto_region 36 with fail
                    clear y0 y1 y2 f0 f1 f2
                    have h9_0 := ct_put Xa.out k5_ Ap5_ np5_ cp5_ Bp5_ mp5_ dp5_
                    have h9_1 := blk_put3 Xb.out (show gb ≠ ga by have h1 := HG.out; have h2 := HLq.out; omega) (.int .i64 k5_.level) (.slice Ap5_ np5_ cp5_) (.slice Bp5_ mp5_ dp5_)
                    have h9_2 := blk_put3 XK.out (show gk ≠ ga by have h1 := HG.out; have h2 := HLq.out; omega) (.int .i64 k5_.level) (.slice Ap5_ np5_ cp5_) (.slice Bp5_ mp5_ dp5_)
                    have h9_3 := blk_put3 XX.out (show gx ≠ ga by have h1 := HG.out; have h2 := HLq.out; omega) (.int .i64 k5_.level) (.slice Ap5_ np5_ cp5_) (.slice Bp5_ mp5_ dp5_)
                    have h9_4 := blk_put3 XQ.out (show gq ≠ ga by have h1 := HG.out; have h2 := HLq.out; omega) (.int .i64 k5_.level) (.slice Ap5_ np5_ cp5_) (.slice Bp5_ mp5_ dp5_)
                    have h9_i := isCt_put3 Xa.out IK.out k5_ Ap5_ np5_ cp5_ Bp5_ mp5_ dp5_
                    have h9_Ip5_ := isCt_put3 Xa.out Ip5_.out k5_ Ap5_ np5_ cp5_ Bp5_ mp5_ dp5_
                    have h9_b := below_put3 HBW.out (show W7.heap.size ≤ ga by have h1 := HG.out; omega) (.int .i64 k5_.level) (.slice Ap5_ np5_ cp5_) (.slice Bp5_ mp5_ dp5_)
                    obtain ⟨T5b, hW⟩ : ∃ X, put3 T5a ga (.int .i64 k5_.level) (.slice Ap5_ np5_ cp5_) (.slice Bp5_ mp5_ dp5_) = X := ⟨_, rfl⟩
                    rewrite [hW] at h9_0 h9_1 h9_2 h9_3 h9_4 h9_i h9_Ip5_ h9_b
                    have hW2 : ((T5a.setCell ⟨ga, 0, none⟩ (.int .i64 k5_.level)).setCell ⟨ga, 1, none⟩ (.slice Ap5_ np5_ cp5_)).setCell ⟨ga, 2, none⟩ (.slice Bp5_ mp5_ dp5_) = T5b := hW
                    rewrite [hW2]
                    clear hW hW2 Xa Xb XK XX XQ IK Ip5_ HBW
                    have Xa := Lib.hid h9_0
                    have Xb := Lib.hid h9_1
                    have XK := Lib.hid h9_2
                    have XX := Lib.hid h9_3
                    have XQ := Lib.hid h9_4
                    have IK := Lib.hid h9_i
                    have Ip5_ := Lib.hid h9_Ip5_
                    have HBW := Lib.hid h9_b
                    clear h9_0 h9_1 h9_2 h9_3 h9_4 h9_i h9_Ip5_ h9_b
                    have q0 := Blk.cell XQ.out 0
                    have q1 := Blk.cell XQ.out 1
                    simp only [List.getElem?_toArray, List.getElem?_cons_zero, List.getElem?_cons_succ] at q0 q1
                    have a0 := Blk.cell XK.out 0
                    have a1 := Blk.cell XK.out 1
                    have a2 := Blk.cell XK.out 2
                    simp only [List.getElem?_toArray, List.getElem?_cons_zero, List.getElem?_cons_succ] at a0 a1 a2
                    go_wp2_with fail
                    have q := (((refcancel9_any ck AK BK nK cK mK dK xa T5b IK.out HN6.out.1 HN6.out.2).mono (fun e w' h => CtOwnP.post (c := ck) h))).mono (fun e w' h => h.at Hk5_.out (lv := (k5_).level) rfl)
                    ((with_reducible refine q.mono ?_); rintro e T5c ⟨Ao5_, no5_, co5_, Bo5_, mo5_, do5_, rfl, h1, h2, ct, b⟩)
                    clear q a0 a1 a2
                    have Xa_ := Lib.hid (Blk.below Xa.out b); clear Xa
                    have Xa := Xa_; clear Xa_
                    have Xb_ := Lib.hid (Blk.below Xb.out b); clear Xb
                    have Xb := Xb_; clear Xb_
                    have XK_ := Lib.hid (Blk.below XK.out b); clear XK
                    have XK := XK_; clear XK_
                    have XX_ := Lib.hid (Blk.below XX.out b); clear XX
                    have XX := XX_; clear XX_
                    have IK_ := Lib.hid (IK.out.below b); clear IK
                    have IK := IK_; clear IK_
                    have XQ_ := Lib.hid (Blk.below XQ.out b); clear XQ
                    have XQ := XQ_; clear XQ_
                    have Ip5__ := Lib.hid (Ip5_.out.below b); clear Ip5_
                    have Ip5_ := Ip5__; clear Ip5__
                    have HBW_ := Lib.hid (bch HBW.out b); clear HBW
                    have HBW := HBW_; clear HBW_
                    clear b
                    clear q0 q1
                    have Io5_ := Lib.hid ct
                    clear h1 h2 ct
                    have y0 := Blk.cell Xb.out 0
                    have y1 := Blk.cell Xb.out 1
                    have y2 := Blk.cell Xb.out 2
                    simp only [List.getElem?_toArray, List.getElem?_cons_zero, List.getElem?_cons_succ] at y0 y1 y2
                    have f0 := Blk.frozen Xb.out 0
                    have f1 := Blk.frozen Xb.out 1
                    have f2 := Blk.frozen Xb.out 2
                    go_upto_region 37 with fail
                    clear y0 y1 y2 f0 f1 f2
                    have h9_0 := ct_put Xb.out k5_ Ao5_ no5_ co5_ Bo5_ mo5_ do5_
                    have h9_1 := blk_put3 Xa.out (show ga ≠ gb by have h1 := HG.out; have h2 := HLq.out; omega) (.int .i64 k5_.level) (.slice Ao5_ no5_ co5_) (.slice Bo5_ mo5_ do5_)
                    have h9_2 := blk_put3 XK.out (show gk ≠ gb by have h1 := HG.out; have h2 := HLq.out; omega) (.int .i64 k5_.level) (.slice Ao5_ no5_ co5_) (.slice Bo5_ mo5_ do5_)
                    have h9_3 := blk_put3 XX.out (show gx ≠ gb by have h1 := HG.out; have h2 := HLq.out; omega) (.int .i64 k5_.level) (.slice Ao5_ no5_ co5_) (.slice Bo5_ mo5_ do5_)
                    have h9_4 := blk_put3 XQ.out (show gq ≠ gb by have h1 := HG.out; have h2 := HLq.out; omega) (.int .i64 k5_.level) (.slice Ao5_ no5_ co5_) (.slice Bo5_ mo5_ do5_)
                    have h9_i := isCt_put3 Xb.out IK.out k5_ Ao5_ no5_ co5_ Bo5_ mo5_ do5_
                    have h9_Ip5_ := isCt_put3 Xb.out Ip5_.out k5_ Ao5_ no5_ co5_ Bo5_ mo5_ do5_
                    have h9_Io5_ := isCt_put3 Xb.out Io5_.out k5_ Ao5_ no5_ co5_ Bo5_ mo5_ do5_
                    have h9_b := below_put3 HBW.out (show W7.heap.size ≤ gb by have h1 := HG.out; omega) (.int .i64 k5_.level) (.slice Ao5_ no5_ co5_) (.slice Bo5_ mo5_ do5_)
                    obtain ⟨T5d, hW⟩ : ∃ X, put3 T5c gb (.int .i64 k5_.level) (.slice Ao5_ no5_ co5_) (.slice Bo5_ mo5_ do5_) = X := ⟨_, rfl⟩
                    rewrite [hW] at h9_0 h9_1 h9_2 h9_3 h9_4 h9_i h9_Ip5_ h9_Io5_ h9_b
                    have hW2 : ((T5c.setCell ⟨gb, 0, none⟩ (.int .i64 k5_.level)).setCell ⟨gb, 1, none⟩ (.slice Ao5_ no5_ co5_)).setCell ⟨gb, 2, none⟩ (.slice Bo5_ mo5_ do5_) = T5d := hW
                    rewrite [hW2]
                    clear hW hW2 Xb Xa XK XX XQ IK Ip5_ Io5_ HBW
                    have Xb := Lib.hid h9_0
                    have Xa := Lib.hid h9_1
                    have XK := Lib.hid h9_2
                    have XX := Lib.hid h9_3
                    have XQ := Lib.hid h9_4
                    have IK := Lib.hid h9_i
                    have Ip5_ := Lib.hid h9_Ip5_
                    have Io5_ := Lib.hid h9_Io5_
                    have HBW := Lib.hid h9_b
                    clear h9_0 h9_1 h9_2 h9_3 h9_4 h9_i h9_Ip5_ h9_Io5_ h9_b
                    have a0 := Blk.cell Xa.out 0
                    have a1 := Blk.cell Xa.out 1
                    have a2 := Blk.cell Xa.out 2
                    simp only [List.getElem?_toArray, List.getElem?_cons_zero, List.getElem?_cons_succ] at a0 a1 a2
                    have b0 := Blk.cell Xb.out 0
                    have b1 := Blk.cell Xb.out 1
                    have b2 := Blk.cell Xb.out 2
                    simp only [List.getElem?_toArray, List.getElem?_cons_zero, List.getElem?_cons_succ] at b0 b1 b2
                    go_wp2_with fail
                    have q := by
                      have q := refsamec_any k5_ k5_ Ap5_ Bp5_ Ao5_ Bo5_ np5_ cp5_ mp5_ dp5_ no5_ co5_ mo5_ do5_ T5d Ip5_.out Io5_.out
                      rewrite [show decide (k5_ = k5_) = true from decide_eq_true rfl] at q
                      exact q
                    ((with_reducible refine q.mono ?_); rintro e T5e ⟨rfl, b⟩)
                    clear q a0 a1 a2 b0 b1 b2
                    have Xa_ := Lib.hid (Blk.below Xa.out b); clear Xa
                    have Xa := Xa_; clear Xa_
                    have Xb_ := Lib.hid (Blk.below Xb.out b); clear Xb
                    have Xb := Xb_; clear Xb_
                    have XK_ := Lib.hid (Blk.below XK.out b); clear XK
                    have XK := XK_; clear XK_
                    have XX_ := Lib.hid (Blk.below XX.out b); clear XX
                    have XX := XX_; clear XX_
                    have IK_ := Lib.hid (IK.out.below b); clear IK
                    have IK := IK_; clear IK_
                    have XQ_ := Lib.hid (Blk.below XQ.out b); clear XQ
                    have XQ := XQ_; clear XQ_
                    have Ip5__ := Lib.hid (Ip5_.out.below b); clear Ip5_
                    have Ip5_ := Ip5__; clear Ip5__
                    have Io5__ := Lib.hid (Io5_.out.below b); clear Io5_
                    have Io5_ := Io5__; clear Io5__
                    have HBW_ := Lib.hid (bch HBW.out b); clear HBW
                    have HBW := HBW_; clear HBW_
                    clear b
                    clear Ip5_ Io5_ Hk5_
                    go_wp2_with fail
                    go_roundw
                    case rel => exact ⟨jj + 1, by omega, by go_num, k5_, Ap5_, np5_, cp5_, Bp5_, mp5_, dp5_, k5_, Ao5_, no5_, co5_, Bo5_, mo5_, do5_, Xa.out, Xb.out, XK.out, XX.out, IK.out, HBW.out⟩
                    case measure => simp [intOf]; omega
            · have hj3i : (3 : Int) ≤ (jj : Int) := by omega
              go_wp2_with fail
              go_roundw
              case rel => exact ⟨j + 1, by omega, by go_num, HBW.out⟩
              case measure => simp [intOf]; omega
        · have hm20i : (20 : Int) < (mK : Int) := by omega
          go_wp2_with fail
          go_roundw
          case rel => exact ⟨j + 1, by omega, by go_num, HBW.out⟩
          case measure => simp [intOf]; omega
      · have hn20i : (20 : Int) < (nK : Int) := by omega
        go_wp2_with fail
        go_roundw
        case rel => exact ⟨j + 1, by omega, by go_num, HBW.out⟩
        case measure => simp [intOf]; omega
    · have hji : (2 : Int) ≤ (j : Int) := by omega
      have HBF := Lib.hid (bch HB7.out HBW.out)
      go_wp2_with fail
      go_ret
      exact ⟨rfl, HBF.out⟩
end Go.Proofs.Ytndkmepdnekigaa
