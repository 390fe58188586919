import Derived.Test.YtndkmepdnekigaaCtRefL
/-
  The contracts of the document's own place and Same of controllers (stage 18).
-/
namespace Go.Proofs.Ytndkmepdnekigaa
open Go.RowKit
set_option linter.unusedVariables false
set_option linter.unusedSimpArgs false

set_option maxRecDepth 100000 in
set_option maxHeartbeats 8000000 in
theorem refplace9_any (c : CtR) (A B : Option Addr) (n cap m cm : Nat) (s : Int) (w : World) (hc : IsCt w c A n B m) :
    Calls Try.prog 58 #[ctV c A n cap B m cm, .int .i64 s] w fun e w' => e = .returned (.int .i64 (placeE c s)) ∧ Below w.heap.size w w' := by
  have HX0 := Blk.new w (ctB c A n cap B m cm)
  have HB0 := ba9 w (ctB c A n cap B m cm)
  have HC0 := hc.below HB0
  have HM : Hid (m = c.pl.length) := hc.2.1
  obtain ⟨W1, hW⟩ : ∃ W, w.alloc (ctB c A n cap B m cm) = W := ⟨_, rfl⟩
  rw [hW] at HX0 HB0 HC0
  have z0 := Blk.cell HX0 0
  have z1 := Blk.cell HX0 1
  have z2 := Blk.cell HX0 2
  simp only [List.getElem?_toArray, List.getElem?_cons_zero, List.getElem?_cons_succ] at z0 z1 z2
  have HX := Lib.hid HX0; clear HX0
  have HB := Lib.hid HB0; clear HB0
  have q := refright9_any c A B n cap m cm W1 HC0
  clear hc HC0
  have HR : Hid (rightC c = decide (RightC c)) := rfl
  have HP : Hid (placeE c s = if ¬ RightC c then 1 else if s < 0 ∨ (c.pl.length : Int) ≤ s then 83 else 0) := rfl
  generalize placeE c s = R at *
  go_enter Try.func58, Try.ntmps58
  go_upto_region 1 with fail
  try rw [hW]
  clear hW
  go_wp2_with fail
  ((with_reducible refine q.mono ?_); rintro e V ⟨rfl, b1⟩)
  clear q z0 z1 z2
  have hv := Blk.below HX.out b1
  have z2 := Blk.cell hv 2
  simp only [List.getElem?_toArray, List.getElem?_cons_zero, List.getElem?_cons_succ] at z2
  have HBV := Lib.hid (bch HB.out b1)
  clear hv b1
  cases hr : rightC c with
  | false =>
    have HE : Hid (R = 1) := by show _ = _; rw [HP.out, if_pos (by rw [HR.out] at hr; simpa using hr)]
    go_wp2_with fail
    go_ret
    exact ⟨by rw [HE.out]; rfl, HBV.out⟩
  | true =>
    have hrc : RightC c := by rw [HR.out] at hr; simpa using hr
    by_cases h1 : s < 0
    · have HE : Hid (R = 83) := by show _ = _; rw [HP.out, if_neg (fun h => h hrc), if_pos (.inl h1)]
      go_wp2_with fail
      go_ret
      exact ⟨by rw [HE.out]; rfl, HBV.out⟩
    by_cases h2 : (m : Int) ≤ s
    · have HE : Hid (R = 83) := by show _ = _; rw [HP.out, if_neg (fun h => h hrc), if_pos (.inr (by rw [← HM.out]; exact h2))]
      go_wp2_with fail
      go_ret
      exact ⟨by rw [HE.out]; rfl, HBV.out⟩
    · have HE : Hid (R = 0) := by show _ = _; rw [HP.out, if_neg (fun h => h hrc), if_neg (by rw [← HM.out]; omega)]
      go_wp2_with fail
      go_ret
      exact ⟨by rw [HE.out]; rfl, HBV.out⟩
theorem eqMb (a b : MbR) (w : World) : (Op.equalIn 10000 45 (.agg #[.int .i64 a.1, .int .i64 a.2]) (.agg #[.int .i64 b.1, .int .i64 b.2])).run Try.prog w = .ok (decide (a = b)) w := by
  have u3 := Try.underlying3
  have a3 := Try.isAgg3
  have z3 := Try.sizeOf3
  have hS : Try.prog.underlying 45 = some (.struct (Try.prog.fieldsOf 45)) := by kernel_rfl
  have hp : Try.prog.stoodInHeld 45 = false := by kernel_rfl
  rw [show (10000 : Nat) = 9999 + 1 from rfl, run_equalIn_agg w 9999 45 _ _ hS hp]
  simp only [Program.fieldsOf, Try.underlying45]
  go_simp
  obtain ⟨a1, a2⟩ := a; obtain ⟨b1, b2⟩ := b
  by_cases h1 : a1 = b1 <;> by_cases h2 : a2 = b2 <;> simp [h1, h2]
theorem eqPl (a b : PlR) (w : World) : (Op.equalIn 10000 48 (.agg #[.int .i64 a.1, .int .i64 a.2.1, .int .i64 a.2.2]) (.agg #[.int .i64 b.1, .int .i64 b.2.1, .int .i64 b.2.2])).run Try.prog w = .ok (decide (a = b)) w := by
  have u3 := Try.underlying3
  have a3 := Try.isAgg3
  have z3 := Try.sizeOf3
  have hS : Try.prog.underlying 48 = some (.struct (Try.prog.fieldsOf 48)) := by kernel_rfl
  have hp : Try.prog.stoodInHeld 48 = false := by kernel_rfl
  rw [show (10000 : Nat) = 9999 + 1 from rfl, run_equalIn_agg w 9999 48 _ _ hS hp]
  simp only [Program.fieldsOf, Try.underlying48]
  go_simp
  obtain ⟨a1, a2, a3⟩ := a; obtain ⟨b1, b2, b3⟩ := b
  by_cases h1 : a1 = b1 <;> by_cases h2 : a2 = b2 <;> by_cases h3 : a3 = b3 <;> simp [h1, h2, h3]
theorem guardMb : Try.prog.eqGuardType Try.prog.depth 45 = false := by kernel_rfl
theorem guardPl : Try.prog.eqGuardType Try.prog.depth 48 = false := by kernel_rfl
end Go.Proofs.Ytndkmepdnekigaa
