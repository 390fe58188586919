import Derived.Test.YtndkmepdnekigaaCtWf
import Derived.Test.YtndkmepdnekigaaCtPlace
import Derived.Deep.DeepCutAuto
/-
  The contract of 'awake' of stage 18: it returns true.
-/
namespace Go.Proofs.Ytndkmepdnekigaa
open Go.RowKit
set_option linter.unusedVariables false
set_option linter.unusedSimpArgs false

theorem ctArg {w : World} {c : CtR} {A B : Option Addr} {n cap m cm : Nat} (h : IsCt w c A n B m) (hw : CtW c) (hs : c.mem.length ≤ 20 ∧ c.pl.length ≤ 20) (h1 : n ≤ cap) (h2 : m ≤ cm) : CtArg w c A n cap B m cm :=
  ⟨h, hw, h1, h2, by have := h.1.1; omega, by have := h.2.1; omega⟩
theorem CtPost.at {w w' : World} {c k : CtR} {r : CtR × Int} {e : Ending} {z lv : Int} (h : CtPost w c r e w') (hr : r = (k, z)) (hl : k.level = lv) :
    ∃ A n cap B m cm, e = .returned (.tuple #[.agg #[.int .i64 lv, .slice A n cap, .slice B m cm], .int .i64 z]) ∧ n ≤ cap ∧ m ≤ cm ∧ IsCt w' k A n B m ∧ Below w.heap.size w w' := by
  subst hr; subst hl; exact h
def awK0 : CtR := ⟨1, [(1, 1)], [(1, 1, 0), (1, 1, 0), (1, 1, 0)]⟩
def awK1 : CtR := ⟨1, [(1, 1), (2, 2)], [(1, 1, 0), (1, 1, 0), (1, 1, 0)]⟩
def awK2 : CtR := ⟨1, [(1, 2), (2, 2)], [(1, 1, 0), (1, 1, 0), (1, 1, 0)]⟩
def awK3 : CtR := ⟨2, [(1, 2), (2, 2)], [(1, 1, 0), (1, 1, 0), (1, 1, 0)]⟩
def awK4 : CtR := ⟨2, [(1, 2), (2, 2)], [(1, 1, 2), (1, 1, 0), (1, 1, 0)]⟩
def awK5 : CtR := ⟨2, [(1, 2), (2, 2)], [(2, 2, 0), (1, 1, 0), (1, 1, 0)]⟩
theorem awN : newC 3 1 1 = awK0 := by decide
theorem awJ : joinC awK0 2 2 = (awK1, 0) := by decide
theorem awF : finalC awK1 = (awK1, 22) := by decide
theorem awR : reportC awK1 1 2 = (awK2, 0) := by decide
theorem awF2 : finalC awK2 = (awK3, 0) := by decide
theorem awR2 : reportC awK3 1 1 = (awK3, 22) := by decide
theorem awJ2 : joinC awK3 3 1 = (awK3, 22) := by decide
theorem awP : planC awK3 0 2 = (awK4, 0) := by decide
theorem awP2 : planC awK4 0 2 = (awK4, 92) := by decide
theorem awM : commitC awK4 0 = (awK5, 0) := by decide
theorem awC : cancelC awK5 0 = (awK5, 70) := by decide
theorem awB : balC awK3 = (0, 2, true) := by decide
theorem awR5 : rightC awK5 = true := by decide
theorem awR0 : rightC zeroC = false := by decide
theorem wf_all {c : CtR} (h1 : 0 ≤ c.level ∧ c.level ≤ 1000) (h2 : ∀ x ∈ c.mem, 0 ≤ x.1 ∧ x.1 ≤ 1000 ∧ 0 ≤ x.2 ∧ x.2 ≤ 1000) (h3 : ∀ x ∈ c.pl, 0 ≤ x.1 ∧ x.1 ≤ 1000 ∧ 0 ≤ x.2.1 ∧ x.2.1 ≤ 1000 ∧ 0 ≤ x.2.2 ∧ x.2.2 ≤ 1000) : CtW c :=
  ⟨wf_i (by omega) (by omega), fun x hx => by have := h2 x hx; exact ⟨wf_i (by omega) (by omega), wf_i (by omega) (by omega)⟩, fun x hx => by have := h3 x hx; exact ⟨wf_i (by omega) (by omega), wf_i (by omega) (by omega), wf_i (by omega) (by omega)⟩⟩
theorem awK0w : CtW awK0 := wf_all (by decide) (by decide) (by decide)
theorem awK0s : awK0.mem.length ≤ 20 ∧ awK0.pl.length ≤ 20 := by decide
theorem awK1w : CtW awK1 := wf_all (by decide) (by decide) (by decide)
theorem awK1s : awK1.mem.length ≤ 20 ∧ awK1.pl.length ≤ 20 := by decide
theorem awK2w : CtW awK2 := wf_all (by decide) (by decide) (by decide)
theorem awK2s : awK2.mem.length ≤ 20 ∧ awK2.pl.length ≤ 20 := by decide
theorem awK3w : CtW awK3 := wf_all (by decide) (by decide) (by decide)
theorem awK3s : awK3.mem.length ≤ 20 ∧ awK3.pl.length ≤ 20 := by decide
theorem awK4w : CtW awK4 := wf_all (by decide) (by decide) (by decide)
theorem awK4s : awK4.mem.length ≤ 20 ∧ awK4.pl.length ≤ 20 := by decide
theorem awK5w : CtW awK5 := wf_all (by decide) (by decide) (by decide)
theorem awK5s : awK5.mem.length ≤ 20 ∧ awK5.pl.length ≤ 20 := by decide
set_option maxRecDepth 100000 in
set_option maxHeartbeats 40000000 in
theorem awake18_any (kR : RightC9) (kN : NewC9) (kJ : JoinC9) (kP : ReportC9) (kF : FinalC9) (kL : PlanC9) (kM : CommitC9) (kC : CancelC9) (kB : BalC9) (w : World) :
    Calls Try.prog 10 #[] w fun e w' => e = .returned (.bool true) ∧ Below w.heap.size w w' := by
  go_enter Try.func10, Try.ntmps10
  have HB : Hid (Below w.heap.size w w) := Below.refl _ _
  have q := kN 3 1 1 w (wf_i (t := 3) (by decide) (by decide)) (wf_i (t := 1) (by decide) (by decide)) (wf_i (t := 1) (by decide) (by decide))
  rw [awN] at q
  change Calls _ _ _ _ (fun e w_ => ∃ A k cap B m cm, e = .returned (.agg #[.int .i64 1, .slice A k cap, .slice B m cm]) ∧ k ≤ cap ∧ m ≤ cm ∧ IsCt w_ awK0 A k B m ∧ Below w.heap.size w w_) at q
  go_wp2_with fail
  ((with_reducible refine q.mono ?_); rintro e V0 ⟨A0, n0, c0, B0, m0, d0, rfl, h1, h2, ct, b⟩)
  clear q
  have HB_ := Lib.hid (bch HB.out b); clear HB
  have HB := HB_; clear HB_
  have I0 := Lib.hid ct
  have S0 : Hid (n0 ≤ c0 ∧ m0 ≤ d0) := ⟨h1, h2⟩
  clear b h1 h2 ct
  go_wp2_with fail
  have q := by
    have q := (kJ awK0 A0 B0 n0 c0 m0 d0 2 2 V0 (ctArg I0.out awK0w awK0s S0.out.1 S0.out.2) (wf_i (t := 2) (by decide) (by decide)) (wf_i (t := 2) (by decide) (by decide))).mono (fun e w' h => h.at awJ (lv := 1) rfl)
    change Calls _ _ #[.agg #[.int .i64 1, .slice A0 n0 c0, .slice B0 m0 d0], .int .i64 2, .int .i64 2] _ _ at q
    exact q
  ((with_reducible refine q.mono ?_); rintro e V1 ⟨A1, n1, c1, B1, m1, d1, rfl, h1, h2, ct, b⟩)
  clear q
  have I0_ := Lib.hid (I0.out.below b); clear I0
  have I0 := I0_; clear I0_
  have HB_ := Lib.hid (bch HB.out b); clear HB
  have HB := HB_; clear HB_
  clear b
  have I1 := Lib.hid ct
  have S1 : Hid (n1 ≤ c1 ∧ m1 ≤ d1) := ⟨h1, h2⟩
  clear h1 h2 ct
  go_upto_region 2 with fail
  have hba := ba9 V1 (.cells #[.int .i64 1, .slice A1 n1 c1, .slice B1 m1 d1] 26)
  have X1 := Lib.hid (Blk.new V1 (.cells #[.int .i64 1, .slice A1 n1 c1, .slice B1 m1 d1] 26))
  have I0_ := Lib.hid (I0.out.below hba); clear I0
  have I0 := I0_; clear I0_
  have I1_ := Lib.hid (I1.out.below hba); clear I1
  have I1 := I1_; clear I1_
  have HB_ := Lib.hid (bch HB.out hba); clear HB
  have HB := HB_; clear HB_
  obtain ⟨V1a, hW⟩ : ∃ X, V1.alloc (.cells #[.int .i64 1, .slice A1 n1 c1, .slice B1 m1 d1] 26) = X := ⟨_, rfl⟩
  rw [hW] at X1 HB I0 I1
  rw [hW]
  clear hW hba
  clear I0 S0
  have a0 := Blk.cell X1.out 0
  have a1 := Blk.cell X1.out 1
  have a2 := Blk.cell X1.out 2
  simp only [List.getElem?_toArray, List.getElem?_cons_zero, List.getElem?_cons_succ] at a0 a1 a2
  go_wp2_with fail
  have q := by
    have q := (kF awK1 A1 B1 n1 c1 m1 d1  V1a (ctArg I1.out awK1w awK1s S1.out.1 S1.out.2) ).mono (fun e w' h => h.at awF (lv := 1) rfl)
    change Calls _ _ #[.agg #[.int .i64 1, .slice A1 n1 c1, .slice B1 m1 d1]] _ _ at q
    exact q
  ((with_reducible refine q.mono ?_); rintro e V2 ⟨A2, n2, c2, B2, m2, d2, rfl, h1, h2, ct, b⟩)
  clear q a0 a1 a2
  have I1_ := Lib.hid (I1.out.below b); clear I1
  have I1 := I1_; clear I1_
  have X1_ := Lib.hid (Blk.below X1.out b); clear X1
  have X1 := X1_; clear X1_
  have HB_ := Lib.hid (bch HB.out b); clear HB
  have HB := HB_; clear HB_
  clear b
  have I2 := Lib.hid ct
  have S2 : Hid (n2 ≤ c2 ∧ m2 ≤ d2) := ⟨h1, h2⟩
  clear h1 h2 ct
  go_upto_region 3 with fail
  have hba := ba9 V2 (.cells #[.int .i64 1, .slice A2 n2 c2, .slice B2 m2 d2] 26)
  have X2 := Lib.hid (Blk.new V2 (.cells #[.int .i64 1, .slice A2 n2 c2, .slice B2 m2 d2] 26))
  have I1_ := Lib.hid (I1.out.below hba); clear I1
  have I1 := I1_; clear I1_
  have X1_ := Lib.hid (Blk.below X1.out hba); clear X1
  have X1 := X1_; clear X1_
  have I2_ := Lib.hid (I2.out.below hba); clear I2
  have I2 := I2_; clear I2_
  have HB_ := Lib.hid (bch HB.out hba); clear HB
  have HB := HB_; clear HB_
  obtain ⟨V2a, hW⟩ : ∃ X, V2.alloc (.cells #[.int .i64 1, .slice A2 n2 c2, .slice B2 m2 d2] 26) = X := ⟨_, rfl⟩
  rw [hW] at X2 HB I1 X1 I2
  rw [hW]
  clear hW hba
  clear X2 I2 S2
  have a0 := Blk.cell X1.out 0
  have a1 := Blk.cell X1.out 1
  have a2 := Blk.cell X1.out 2
  simp only [List.getElem?_toArray, List.getElem?_cons_zero, List.getElem?_cons_succ] at a0 a1 a2
  go_wp2_with fail
  have q := by
    have q := (kP awK1 A1 B1 n1 c1 m1 d1 1 2 V2a (ctArg I1.out awK1w awK1s S1.out.1 S1.out.2) (wf_i (t := 1) (by decide) (by decide)) (wf_i (t := 2) (by decide) (by decide))).mono (fun e w' h => h.at awR (lv := 1) rfl)
    change Calls _ _ #[.agg #[.int .i64 1, .slice A1 n1 c1, .slice B1 m1 d1], .int .i64 1, .int .i64 2] _ _ at q
    exact q
  ((with_reducible refine q.mono ?_); rintro e V3 ⟨A3, n3, c3, B3, m3, d3, rfl, h1, h2, ct, b⟩)
  clear q a0 a1 a2
  have I1_ := Lib.hid (I1.out.below b); clear I1
  have I1 := I1_; clear I1_
  have X1_ := Lib.hid (Blk.below X1.out b); clear X1
  have X1 := X1_; clear X1_
  have HB_ := Lib.hid (bch HB.out b); clear HB
  have HB := HB_; clear HB_
  clear b
  have I3 := Lib.hid ct
  have S3 : Hid (n3 ≤ c3 ∧ m3 ≤ d3) := ⟨h1, h2⟩
  clear h1 h2 ct
  go_upto_region 4 with fail
  have hba := ba9 V3 (.cells #[.int .i64 1, .slice A3 n3 c3, .slice B3 m3 d3] 26)
  have X3 := Lib.hid (Blk.new V3 (.cells #[.int .i64 1, .slice A3 n3 c3, .slice B3 m3 d3] 26))
  have I1_ := Lib.hid (I1.out.below hba); clear I1
  have I1 := I1_; clear I1_
  have X1_ := Lib.hid (Blk.below X1.out hba); clear X1
  have X1 := X1_; clear X1_
  have I3_ := Lib.hid (I3.out.below hba); clear I3
  have I3 := I3_; clear I3_
  have HB_ := Lib.hid (bch HB.out hba); clear HB
  have HB := HB_; clear HB_
  obtain ⟨V3a, hW⟩ : ∃ X, V3.alloc (.cells #[.int .i64 1, .slice A3 n3 c3, .slice B3 m3 d3] 26) = X := ⟨_, rfl⟩
  rw [hW] at X3 HB I1 X1 I3
  rw [hW]
  clear hW hba
  clear I1 S1 X1
  have a0 := Blk.cell X3.out 0
  have a1 := Blk.cell X3.out 1
  have a2 := Blk.cell X3.out 2
  simp only [List.getElem?_toArray, List.getElem?_cons_zero, List.getElem?_cons_succ] at a0 a1 a2
  go_wp2_with fail
  have q := by
    have q := (kF awK2 A3 B3 n3 c3 m3 d3  V3a (ctArg I3.out awK2w awK2s S3.out.1 S3.out.2) ).mono (fun e w' h => h.at awF2 (lv := 2) rfl)
    change Calls _ _ #[.agg #[.int .i64 1, .slice A3 n3 c3, .slice B3 m3 d3]] _ _ at q
    exact q
  ((with_reducible refine q.mono ?_); rintro e V4 ⟨A4, n4, c4, B4, m4, d4, rfl, h1, h2, ct, b⟩)
  clear q a0 a1 a2
  have I3_ := Lib.hid (I3.out.below b); clear I3
  have I3 := I3_; clear I3_
  have X3_ := Lib.hid (Blk.below X3.out b); clear X3
  have X3 := X3_; clear X3_
  have HB_ := Lib.hid (bch HB.out b); clear HB
  have HB := HB_; clear HB_
  clear b
  have I4 := Lib.hid ct
  have S4 : Hid (n4 ≤ c4 ∧ m4 ≤ d4) := ⟨h1, h2⟩
  clear h1 h2 ct
  go_upto_region 5 with fail
  have hba := ba9 V4 (.cells #[.int .i64 2, .slice A4 n4 c4, .slice B4 m4 d4] 26)
  have X4 := Lib.hid (Blk.new V4 (.cells #[.int .i64 2, .slice A4 n4 c4, .slice B4 m4 d4] 26))
  have I3_ := Lib.hid (I3.out.below hba); clear I3
  have I3 := I3_; clear I3_
  have X3_ := Lib.hid (Blk.below X3.out hba); clear X3
  have X3 := X3_; clear X3_
  have I4_ := Lib.hid (I4.out.below hba); clear I4
  have I4 := I4_; clear I4_
  have HB_ := Lib.hid (bch HB.out hba); clear HB
  have HB := HB_; clear HB_
  obtain ⟨V4a, hW⟩ : ∃ X, V4.alloc (.cells #[.int .i64 2, .slice A4 n4 c4, .slice B4 m4 d4] 26) = X := ⟨_, rfl⟩
  rw [hW] at X4 HB I3 X3 I4
  rw [hW]
  clear hW hba
  clear I3 S3 X3
  have a0 := Blk.cell X4.out 0
  have a1 := Blk.cell X4.out 1
  have a2 := Blk.cell X4.out 2
  simp only [List.getElem?_toArray, List.getElem?_cons_zero, List.getElem?_cons_succ] at a0 a1 a2
  go_wp2_with fail
  have q := by
    have q := (kP awK3 A4 B4 n4 c4 m4 d4 1 1 V4a (ctArg I4.out awK3w awK3s S4.out.1 S4.out.2) (wf_i (t := 1) (by decide) (by decide)) (wf_i (t := 1) (by decide) (by decide))).mono (fun e w' h => h.at awR2 (lv := 2) rfl)
    change Calls _ _ #[.agg #[.int .i64 2, .slice A4 n4 c4, .slice B4 m4 d4], .int .i64 1, .int .i64 1] _ _ at q
    exact q
  ((with_reducible refine q.mono ?_); rintro e V5 ⟨A5, n5, c5, B5, m5, d5, rfl, h1, h2, ct, b⟩)
  clear q a0 a1 a2
  have I4_ := Lib.hid (I4.out.below b); clear I4
  have I4 := I4_; clear I4_
  have X4_ := Lib.hid (Blk.below X4.out b); clear X4
  have X4 := X4_; clear X4_
  have HB_ := Lib.hid (bch HB.out b); clear HB
  have HB := HB_; clear HB_
  clear b
  have I5 := Lib.hid ct
  have S5 : Hid (n5 ≤ c5 ∧ m5 ≤ d5) := ⟨h1, h2⟩
  clear h1 h2 ct
  go_upto_region 6 with fail
  have hba := ba9 V5 (.cells #[.int .i64 2, .slice A5 n5 c5, .slice B5 m5 d5] 26)
  have X5 := Lib.hid (Blk.new V5 (.cells #[.int .i64 2, .slice A5 n5 c5, .slice B5 m5 d5] 26))
  have I4_ := Lib.hid (I4.out.below hba); clear I4
  have I4 := I4_; clear I4_
  have X4_ := Lib.hid (Blk.below X4.out hba); clear X4
  have X4 := X4_; clear X4_
  have I5_ := Lib.hid (I5.out.below hba); clear I5
  have I5 := I5_; clear I5_
  have HB_ := Lib.hid (bch HB.out hba); clear HB
  have HB := HB_; clear HB_
  obtain ⟨V5a, hW⟩ : ∃ X, V5.alloc (.cells #[.int .i64 2, .slice A5 n5 c5, .slice B5 m5 d5] 26) = X := ⟨_, rfl⟩
  rw [hW] at X5 HB I4 X4 I5
  rw [hW]
  clear hW hba
  clear X5 I5 S5
  have a0 := Blk.cell X4.out 0
  have a1 := Blk.cell X4.out 1
  have a2 := Blk.cell X4.out 2
  simp only [List.getElem?_toArray, List.getElem?_cons_zero, List.getElem?_cons_succ] at a0 a1 a2
  go_wp2_with fail
  have q := by
    have q := (kJ awK3 A4 B4 n4 c4 m4 d4 3 1 V5a (ctArg I4.out awK3w awK3s S4.out.1 S4.out.2) (wf_i (t := 3) (by decide) (by decide)) (wf_i (t := 1) (by decide) (by decide))).mono (fun e w' h => h.at awJ2 (lv := 2) rfl)
    change Calls _ _ #[.agg #[.int .i64 2, .slice A4 n4 c4, .slice B4 m4 d4], .int .i64 3, .int .i64 1] _ _ at q
    exact q
  ((with_reducible refine q.mono ?_); rintro e V6 ⟨A6, n6, c6, B6, m6, d6, rfl, h1, h2, ct, b⟩)
  clear q a0 a1 a2
  have I4_ := Lib.hid (I4.out.below b); clear I4
  have I4 := I4_; clear I4_
  have X4_ := Lib.hid (Blk.below X4.out b); clear X4
  have X4 := X4_; clear X4_
  have HB_ := Lib.hid (bch HB.out b); clear HB
  have HB := HB_; clear HB_
  clear b
  have I6 := Lib.hid ct
  have S6 : Hid (n6 ≤ c6 ∧ m6 ≤ d6) := ⟨h1, h2⟩
  clear h1 h2 ct
  go_upto_region 7 with fail
  have hba := ba9 V6 (.cells #[.int .i64 2, .slice A6 n6 c6, .slice B6 m6 d6] 26)
  have X6 := Lib.hid (Blk.new V6 (.cells #[.int .i64 2, .slice A6 n6 c6, .slice B6 m6 d6] 26))
  have I4_ := Lib.hid (I4.out.below hba); clear I4
  have I4 := I4_; clear I4_
  have X4_ := Lib.hid (Blk.below X4.out hba); clear X4
  have X4 := X4_; clear X4_
  have I6_ := Lib.hid (I6.out.below hba); clear I6
  have I6 := I6_; clear I6_
  have HB_ := Lib.hid (bch HB.out hba); clear HB
  have HB := HB_; clear HB_
  obtain ⟨V6a, hW⟩ : ∃ X, V6.alloc (.cells #[.int .i64 2, .slice A6 n6 c6, .slice B6 m6 d6] 26) = X := ⟨_, rfl⟩
  rw [hW] at X6 HB I4 X4 I6
  rw [hW]
  clear hW hba
  clear X6 I6 S6
  have a0 := Blk.cell X4.out 0
  have a1 := Blk.cell X4.out 1
  have a2 := Blk.cell X4.out 2
  simp only [List.getElem?_toArray, List.getElem?_cons_zero, List.getElem?_cons_succ] at a0 a1 a2
  go_wp2_with fail
  have q := by
    have q := kB awK3 A4 B4 n4 c4 m4 d4 V6a (ctArg I4.out awK3w awK3s S4.out.1 S4.out.2)
    rewrite [awB] at q
    change Calls _ _ #[.agg #[.int .i64 2, .slice A4 n4 c4, .slice B4 m4 d4]] _ _ at q
    exact q
  ((with_reducible refine q.mono ?_); rintro e V7 ⟨rfl, b⟩)
  clear q a0 a1 a2
  have I4_ := Lib.hid (I4.out.below b); clear I4
  have I4 := I4_; clear I4_
  have X4_ := Lib.hid (Blk.below X4.out b); clear X4
  have X4 := X4_; clear X4_
  have HB_ := Lib.hid (bch HB.out b); clear HB
  have HB := HB_; clear HB_
  clear b
  have a0 := Blk.cell X4.out 0
  have a1 := Blk.cell X4.out 1
  have a2 := Blk.cell X4.out 2
  simp only [List.getElem?_toArray, List.getElem?_cons_zero, List.getElem?_cons_succ] at a0 a1 a2
  go_wp2_with fail
  have q := by
    have q := (kL awK3 A4 B4 n4 c4 m4 d4 0 2 V7 (ctArg I4.out awK3w awK3s S4.out.1 S4.out.2) (wf_i (t := 0) (by decide) (by decide)) (wf_i (t := 2) (by decide) (by decide))).mono (fun e w' h => h.at awP (lv := 2) rfl)
    change Calls _ _ #[.agg #[.int .i64 2, .slice A4 n4 c4, .slice B4 m4 d4], .int .i64 0, .int .i64 2] _ _ at q
    exact q
  ((with_reducible refine q.mono ?_); rintro e V8 ⟨A8, n8, c8, B8, m8, d8, rfl, h1, h2, ct, b⟩)
  clear q a0 a1 a2
  have I4_ := Lib.hid (I4.out.below b); clear I4
  have I4 := I4_; clear I4_
  have X4_ := Lib.hid (Blk.below X4.out b); clear X4
  have X4 := X4_; clear X4_
  have HB_ := Lib.hid (bch HB.out b); clear HB
  have HB := HB_; clear HB_
  clear b
  have I8 := Lib.hid ct
  have S8 : Hid (n8 ≤ c8 ∧ m8 ≤ d8) := ⟨h1, h2⟩
  clear h1 h2 ct
  go_upto_region 9 with fail
  have hba := ba9 V8 (.cells #[.int .i64 2, .slice A8 n8 c8, .slice B8 m8 d8] 26)
  have X8 := Lib.hid (Blk.new V8 (.cells #[.int .i64 2, .slice A8 n8 c8, .slice B8 m8 d8] 26))
  have I4_ := Lib.hid (I4.out.below hba); clear I4
  have I4 := I4_; clear I4_
  have X4_ := Lib.hid (Blk.below X4.out hba); clear X4
  have X4 := X4_; clear X4_
  have I8_ := Lib.hid (I8.out.below hba); clear I8
  have I8 := I8_; clear I8_
  have HB_ := Lib.hid (bch HB.out hba); clear HB
  have HB := HB_; clear HB_
  obtain ⟨V8a, hW⟩ : ∃ X, V8.alloc (.cells #[.int .i64 2, .slice A8 n8 c8, .slice B8 m8 d8] 26) = X := ⟨_, rfl⟩
  rw [hW] at X8 HB I4 X4 I8
  rw [hW]
  clear hW hba
  clear I4 S4
  have a0 := Blk.cell X8.out 0
  have a1 := Blk.cell X8.out 1
  have a2 := Blk.cell X8.out 2
  simp only [List.getElem?_toArray, List.getElem?_cons_zero, List.getElem?_cons_succ] at a0 a1 a2
  go_wp2_with fail
  have q := by
    have q := (kL awK4 A8 B8 n8 c8 m8 d8 0 2 V8a (ctArg I8.out awK4w awK4s S8.out.1 S8.out.2) (wf_i (t := 0) (by decide) (by decide)) (wf_i (t := 2) (by decide) (by decide))).mono (fun e w' h => h.at awP2 (lv := 2) rfl)
    change Calls _ _ #[.agg #[.int .i64 2, .slice A8 n8 c8, .slice B8 m8 d8], .int .i64 0, .int .i64 2] _ _ at q
    exact q
  ((with_reducible refine q.mono ?_); rintro e V9 ⟨A9, n9, c9, B9, m9, d9, rfl, h1, h2, ct, b⟩)
  clear q a0 a1 a2
  have X4_ := Lib.hid (Blk.below X4.out b); clear X4
  have X4 := X4_; clear X4_
  have I8_ := Lib.hid (I8.out.below b); clear I8
  have I8 := I8_; clear I8_
  have X8_ := Lib.hid (Blk.below X8.out b); clear X8
  have X8 := X8_; clear X8_
  have HB_ := Lib.hid (bch HB.out b); clear HB
  have HB := HB_; clear HB_
  clear b
  have I9 := Lib.hid ct
  have S9 : Hid (n9 ≤ c9 ∧ m9 ≤ d9) := ⟨h1, h2⟩
  clear h1 h2 ct
  go_upto_region 10 with fail
  have hba := ba9 V9 (.cells #[.int .i64 2, .slice A9 n9 c9, .slice B9 m9 d9] 26)
  have X9 := Lib.hid (Blk.new V9 (.cells #[.int .i64 2, .slice A9 n9 c9, .slice B9 m9 d9] 26))
  have X4_ := Lib.hid (Blk.below X4.out hba); clear X4
  have X4 := X4_; clear X4_
  have I8_ := Lib.hid (I8.out.below hba); clear I8
  have I8 := I8_; clear I8_
  have X8_ := Lib.hid (Blk.below X8.out hba); clear X8
  have X8 := X8_; clear X8_
  have I9_ := Lib.hid (I9.out.below hba); clear I9
  have I9 := I9_; clear I9_
  have HB_ := Lib.hid (bch HB.out hba); clear HB
  have HB := HB_; clear HB_
  obtain ⟨V9a, hW⟩ : ∃ X, V9.alloc (.cells #[.int .i64 2, .slice A9 n9 c9, .slice B9 m9 d9] 26) = X := ⟨_, rfl⟩
  rw [hW] at X9 HB X4 I8 X8 I9
  rw [hW]
  clear hW hba
  clear X9 I9 S9
  have a0 := Blk.cell X8.out 0
  have a1 := Blk.cell X8.out 1
  have a2 := Blk.cell X8.out 2
  simp only [List.getElem?_toArray, List.getElem?_cons_zero, List.getElem?_cons_succ] at a0 a1 a2
  go_wp2_with fail
  have q := by
    have q := (kM awK4 A8 B8 n8 c8 m8 d8 0 V9a (ctArg I8.out awK4w awK4s S8.out.1 S8.out.2) (wf_i (t := 0) (by decide) (by decide))).mono (fun e w' h => h.at awM (lv := 2) rfl)
    change Calls _ _ #[.agg #[.int .i64 2, .slice A8 n8 c8, .slice B8 m8 d8], .int .i64 0] _ _ at q
    exact q
  ((with_reducible refine q.mono ?_); rintro e V10 ⟨A10, n10, c10, B10, m10, d10, rfl, h1, h2, ct, b⟩)
  clear q a0 a1 a2
  have X4_ := Lib.hid (Blk.below X4.out b); clear X4
  have X4 := X4_; clear X4_
  have I8_ := Lib.hid (I8.out.below b); clear I8
  have I8 := I8_; clear I8_
  have X8_ := Lib.hid (Blk.below X8.out b); clear X8
  have X8 := X8_; clear X8_
  have HB_ := Lib.hid (bch HB.out b); clear HB
  have HB := HB_; clear HB_
  clear b
  have I10 := Lib.hid ct
  have S10 : Hid (n10 ≤ c10 ∧ m10 ≤ d10) := ⟨h1, h2⟩
  clear h1 h2 ct
  go_upto_region 11 with fail
  have hba := ba9 V10 (.cells #[.int .i64 2, .slice A10 n10 c10, .slice B10 m10 d10] 26)
  have X10 := Lib.hid (Blk.new V10 (.cells #[.int .i64 2, .slice A10 n10 c10, .slice B10 m10 d10] 26))
  have X4_ := Lib.hid (Blk.below X4.out hba); clear X4
  have X4 := X4_; clear X4_
  have I8_ := Lib.hid (I8.out.below hba); clear I8
  have I8 := I8_; clear I8_
  have X8_ := Lib.hid (Blk.below X8.out hba); clear X8
  have X8 := X8_; clear X8_
  have I10_ := Lib.hid (I10.out.below hba); clear I10
  have I10 := I10_; clear I10_
  have HB_ := Lib.hid (bch HB.out hba); clear HB
  have HB := HB_; clear HB_
  obtain ⟨V10a, hW⟩ : ∃ X, V10.alloc (.cells #[.int .i64 2, .slice A10 n10 c10, .slice B10 m10 d10] 26) = X := ⟨_, rfl⟩
  rw [hW] at X10 HB X4 I8 X8 I10
  rw [hW]
  clear hW hba
  clear I8 S8 X8
  have a0 := Blk.cell X10.out 0
  have a1 := Blk.cell X10.out 1
  have a2 := Blk.cell X10.out 2
  simp only [List.getElem?_toArray, List.getElem?_cons_zero, List.getElem?_cons_succ] at a0 a1 a2
  go_wp2_with fail
  have q := by
    have q := (kC awK5 A10 B10 n10 c10 m10 d10 0 V10a (ctArg I10.out awK5w awK5s S10.out.1 S10.out.2) (wf_i (t := 0) (by decide) (by decide))).mono (fun e w' h => h.at awC (lv := 2) rfl)
    change Calls _ _ #[.agg #[.int .i64 2, .slice A10 n10 c10, .slice B10 m10 d10], .int .i64 0] _ _ at q
    exact q
  ((with_reducible refine q.mono ?_); rintro e V11 ⟨A11, n11, c11, B11, m11, d11, rfl, h1, h2, ct, b⟩)
  clear q a0 a1 a2
  have X4_ := Lib.hid (Blk.below X4.out b); clear X4
  have X4 := X4_; clear X4_
  have I10_ := Lib.hid (I10.out.below b); clear I10
  have I10 := I10_; clear I10_
  have X10_ := Lib.hid (Blk.below X10.out b); clear X10
  have X10 := X10_; clear X10_
  have HB_ := Lib.hid (bch HB.out b); clear HB
  have HB := HB_; clear HB_
  clear b
  have I11 := Lib.hid ct
  have S11 : Hid (n11 ≤ c11 ∧ m11 ≤ d11) := ⟨h1, h2⟩
  clear h1 h2 ct
  go_upto_region 12 with fail
  have hba := ba9 V11 (.cells #[.int .i64 2, .slice A11 n11 c11, .slice B11 m11 d11] 26)
  have X11 := Lib.hid (Blk.new V11 (.cells #[.int .i64 2, .slice A11 n11 c11, .slice B11 m11 d11] 26))
  have X4_ := Lib.hid (Blk.below X4.out hba); clear X4
  have X4 := X4_; clear X4_
  have I10_ := Lib.hid (I10.out.below hba); clear I10
  have I10 := I10_; clear I10_
  have X10_ := Lib.hid (Blk.below X10.out hba); clear X10
  have X10 := X10_; clear X10_
  have I11_ := Lib.hid (I11.out.below hba); clear I11
  have I11 := I11_; clear I11_
  have HB_ := Lib.hid (bch HB.out hba); clear HB
  have HB := HB_; clear HB_
  obtain ⟨V11a, hW⟩ : ∃ X, V11.alloc (.cells #[.int .i64 2, .slice A11 n11 c11, .slice B11 m11 d11] 26) = X := ⟨_, rfl⟩
  rw [hW] at X11 HB X4 I10 X10 I11
  rw [hW]
  clear hW hba
  clear X11 I11 S11
  have hm3 : m10 = 3 := I10.out.2.1
  subst hm3
  obtain ⟨b, off, hA, hb, y0, y1, y2⟩ := is3_at (i := 0) (x := (2, 2, 0)) I10.out.2 rfl
  subst hA
  simp only [Nat.zero_mul, Nat.add_zero] at y0 y1 y2
  have x0 := Blk.cell X10.out 0
  have x1 := Blk.cell X10.out 1
  have x2 := Blk.cell X10.out 2
  simp only [List.getElem?_toArray, List.getElem?_cons_zero, List.getElem?_cons_succ] at x0 x1 x2
  have y4_0 := Blk.cell X4.out 0
  simp only [List.getElem?_toArray, List.getElem?_cons_zero, List.getElem?_cons_succ] at y4_0
  go_wp2_with fail
  have q := by
    have q := kR awK5 A10 (some ⟨b, off, none⟩) n10 c10 3 d10 V11a (ctArg I10.out awK5w awK5s S10.out.1 S10.out.2)
    rewrite [awR5] at q
    change Calls _ _ #[.agg #[.int .i64 2, .slice A10 n10 c10, .slice (some ⟨b, off, none⟩) 3 d10]] _ _ at q
    exact q
  ((with_reducible refine q.mono ?_); rintro e V12 ⟨rfl, bl⟩)
  clear q y0 y1 y2 x0 x1 x2 y4_0
  have HB12 := Lib.hid (bch HB.out bl)
  go_wp2_with fail
  have q := by
    have q := kR zeroC none none 0 0 0 0 V12 (ctArg ⟨isG_nil _ _, isG_nil _ _⟩ CtW.zero (by decide) (Nat.le_refl _) (Nat.le_refl _))
    rewrite [awR0] at q
    change Calls _ _ #[.agg #[.int .i64 0, .slice none 0 0, .slice none 0 0]] _ _ at q
    exact q
  ((with_reducible refine q.mono ?_); rintro e V13 ⟨rfl, bm⟩)
  have HB13 := Lib.hid (bch HB12.out bm)
  clear q bl bm
  go_wp2_with fail
  go_ret
  exact ⟨rfl, HB13.out⟩
end Go.Proofs.Ytndkmepdnekigaa
