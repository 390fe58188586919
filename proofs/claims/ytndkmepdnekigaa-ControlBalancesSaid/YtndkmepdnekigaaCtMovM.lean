import Derived.Test.YtndkmepdnekigaaCtBalM
/-
  Plain mathematics of ControlMoves (stage 18).
-/
namespace Go.Proofs.Ytndkmepdnekigaa
set_option linter.unusedVariables false

theorem setPl_pl (c : CtR) (i : Nat) (p : PlR) : (setPl c (i : Int) p).pl = c.pl.set i p := by show c.pl.set (i : Int).toNat _ = _; rw [Int.toNat_natCast]
theorem atP9_other {l : List PlR} {i j : Nat} {p : PlR} (h : i ≠ j) : atP9 (l.set i p) j = atP9 l j := by
  unfold atP9; rw [List.getD_eq_getElem?_getD, List.getElem?_set_ne h, ← List.getD_eq_getElem?_getD]
theorem commit_at {c : CtR} (h : RightC c) {i : Nat} (hi : i < c.pl.length) {ow ep t : Int} (hp : atP9 c.pl i = (ow, ep, 0)) (ht : isMem c.mem t) (he : ep ≤ 40) (hr : RightC (setPl c (i : Int) (ow, ep, t))) :
    commitC (setPl c (i : Int) (ow, ep, t)) (i : Int) = (setPl c (i : Int) (t, ep + 1, 0), 0) := by
  have hl := setPl_pl c i (ow, ep, t)
  have h0 : placeE (setPl c (i : Int) (ow, ep, t)) (i : Int) = 0 := by unfold placeE; rw [if_neg (fun e => e hr), if_neg (by rw [hl, List.length_set]; omega)]
  have htp := name_pos h ht
  unfold commitC
  rw [if_neg (fun e => e h0), Int.toNat_natCast, hl, atP9_set hi, if_neg (by show ¬ t = 0; omega), if_neg (by show ¬ ep = 9007199254740992; omega)]
  show (setPl (setPl c (i : Int) (ow, ep, t)) (i : Int) (t, ep + 1, 0), (0 : Int)) = _
  unfold setPl
  simp only [Int.toNat_natCast, List.set_set]
theorem plan_busy {c : CtR} (h : RightC c) {i : Nat} (hi : i < c.pl.length) {ow ep tz t : Int} (hp : atP9 c.pl i = (ow, ep, tz)) (ht : isMem c.mem t) (hz : tz ≠ 0) : planC c (i : Int) t = (c, 92) := by
  have h0 : placeE c (i : Int) = 0 := by unfold placeE; rw [if_neg (fun e => e h), if_neg (by omega)]
  unfold planC
  rw [if_neg (fun e => e h0), if_neg (fun e => e ht), Int.toNat_natCast, hp, if_pos hz]
theorem plan_owner {c : CtR} (h : RightC c) {i : Nat} (hi : i < c.pl.length) {ep t : Int} (hp : atP9 c.pl i = (t, ep, 0)) (ht : isMem c.mem t) : planC c (i : Int) t = (c, 1) := by
  have h0 : placeE c (i : Int) = 0 := by unfold placeE; rw [if_neg (fun e => e h), if_neg (by omega)]
  unfold planC
  rw [if_neg (fun e => e h0), if_neg (fun e => e ht), Int.toNat_natCast, hp, if_neg (by simp), if_pos rfl]
/-- A plan that is granted: committed, or cancelled. -/
theorem moves_math {c : CtR} (h : RightC c) (hep : ∀ p ∈ c.pl, p.2.1 ≤ 31) {i : Nat} (hi : i < c.pl.length) {ow ep t : Int} (hp : atP9 c.pl i = (ow, ep, 0)) (ht : isMem c.mem t) (hne : ow ≠ t) :
    planC c (i : Int) t = (setPl c (i : Int) (ow, ep, t), 0) ∧ RightC (setPl c (i : Int) (ow, ep, t)) ∧ commitC (setPl c (i : Int) (ow, ep, t)) (i : Int) = (setPl c (i : Int) (t, ep + 1, 0), 0) ∧
    RightC (setPl c (i : Int) (t, ep + 1, 0)) ∧ cancelC (setPl c (i : Int) (ow, ep, t)) (i : Int) = (c, 0) ∧ 1 ≤ ep ∧ ep ≤ 31 := by
  have he : ep ≤ 31 := by have := hep _ (atP9_mem hi); rw [hp] at this; exact this
  have he1 : 1 ≤ ep := by have := (h.2.2.2.2 _ (atP9_mem hi)).2.1; rw [hp] at this; exact this
  have h1 := plan_at h hi hp ht hne (by omega)
  have hr : RightC (setPl c (i : Int) (ow, ep, t)) := by have := plan_right (s := (i : Int)) (t := t) h; rw [h1] at this; exact this
  have h2 := commit_at h hi hp ht (by omega) hr
  have hr2 : RightC (setPl c (i : Int) (t, ep + 1, 0)) := by have := commit_right (s := (i : Int)) hr; rw [h2] at this; exact this
  have htp := name_pos h ht
  exact ⟨h1, hr, h2, hr2, cancel_at h hi hp (by omega) hr, he1, he⟩
end Go.Proofs.Ytndkmepdnekigaa
