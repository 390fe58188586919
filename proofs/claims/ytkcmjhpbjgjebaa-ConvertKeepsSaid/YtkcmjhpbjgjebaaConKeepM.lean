import Derived.Test.YtkcmjhpbjgjebaaGMath
/-
  Plain mathematics for the law ConvertKeeps: what goes up and down keeps what neither version knows.
-/
namespace Go.Proofs.Ytkcmjhpbjgjebaa

theorem opt45 {o4 o5 : Option ByteArray} : ∀ f ∈ opt 4 o4 ++ opt 5 o5, f.1 ≤ 5 := by
  intro f hf
  simp only [List.mem_append, mem_opt] at hf
  omega
theorem up_keeps {r : Rcd} (h : RightP 1 r) : ∃ X x, upR r = (X, x) ∧ (x = 0 ∨ x = 21) ∧ (x = 0 → RightP 2 X ∧ ∃ P Q E xl xn, r.extra = P ++ E ∧ X = ⟨r.key, r.value, r.rev, xl, xn, Q ++ E⟩ ∧ (∀ f ∈ P, f.1 ≤ 5) ∧ (∀ f ∈ Q, f.1 ≤ 5) ∧ (∀ f ∈ E, 5 < f.1)) := by
  obtain ⟨o4, o5, E, e, c5, _, ha, _⟩ := up_parts h
  have hR := rightR_yes h
  cases hq : recP 2 (fieldsR r) with
  | false => exact ⟨_, _, upR_known hR hq, .inr rfl, fun h0 => by cases h0⟩
  | true =>
    have hu := upR_ok hR hq
    refine ⟨_, _, hu, .inl rfl, fun _ => ⟨rightR_iff.1 (up_down hu).2.1, opt 4 o4 ++ opt 5 o5, [], E, _, _, by rw [e, List.append_assoc], by rw [ha]; rfl, opt45, (fun f hf => by cases hf), chain_rise c5⟩⟩
theorem down_keeps {r : Rcd} (h : RightP 2 r) : ∃ X, downR r = (X, 0) ∧ RightP 1 X ∧ ∃ P Q E xl xn, r.extra = P ++ E ∧ X = ⟨r.key, r.value, r.rev, xl, xn, Q ++ E⟩ ∧ (∀ f ∈ P, f.1 ≤ 5) ∧ (∀ f ∈ Q, f.1 ≤ 5) ∧ (∀ f ∈ E, 5 < f.1) := by
  have hR := rightR_yes h
  have hd := downR_eq hR
  have hc := chain_up (extraB_iff.1 h.2.2.2.2.2).1 (extraB_iff.1 h.2.2.2.2.2).2.2
  refine ⟨_, hd, rightR_iff.1 (down_up hd).2.1, [], opt 4 (ob (numD r.life)) ++ opt 5 (ob r.note), r.extra, 0, ByteArray.empty, rfl, by rw [List.append_assoc], (fun f hf => by cases hf), opt45, chain_rise hc⟩
/-- Where the fields end that some version knows. -/
theorem tg_left {P E : List Fld} {k : Nat} (h : k < P.length) (hP : ∀ f ∈ P, f.1 ≤ 5) : tg (P ++ E) k ≤ 5 := by
  rw [tg_at (by rw [List.length_append]; omega), List.getElem_append_left h]
  exact hP _ (List.getElem_mem h)
theorem tg_right {P E : List Fld} (h : 0 < E.length) (hE : ∀ f ∈ E, 5 < f.1) : 5 < tg (P ++ E) P.length := by
  rw [tg_at (by rw [List.length_append]; omega), List.getElem_append_right (Nat.le_refl _)]
  exact hE _ (List.getElem_mem _)
theorem tg_app {P E : List Fld} (k : Nat) : tg (P ++ E) (P.length + k) = tg E k := by
  unfold tg; rw [List.getD_eq_getElem?_getD, List.getD_eq_getElem?_getD, List.getElem?_append_right (by omega)]
  simp
theorem dt_app {P E : List Fld} (k : Nat) : dt (P ++ E) (P.length + k) = dt E k := by
  unfold dt; rw [List.getD_eq_getElem?_getD, List.getD_eq_getElem?_getD, List.getElem?_append_right (by omega)]
  simp
end Go.Proofs.Ytkcmjhpbjgjebaa
