import Derived.Test.YtpnkkiokkhmjpaaTabLaw
/-
  Plain mathematics of the laws of stage 12: what one key's ops tell, one behind the other.
-/
namespace Go.Proofs.Ytpnkkiokkhmjpaa
set_option linter.unusedVariables false

/-- A full table takes no new key. -/
theorem do_full {t : List Rcd} {o : OpR} (h : RightT t) (hc : checkO 2 o = 0) (hk : o.kind = 2 ∨ o.kind = 4 ∧ o.rev = 0) (hl : ¬ t.length ≤ 19) (hx : lookT t o.key = none) : doT t o = (t, faultR 50) := by
  have e : idxT t o.key = none := by
    have := look_idx (k := o.key) h.2.1
    rw [hx] at this
    cases e : idxT t o.key with
    | none => rfl
    | some i => rw [e] at this; cases this
  have ep : putT t none o = (t, faultR 50) := by unfold putT; simp only; rw [if_pos (by omega)]
  rw [doT_ok ⟨h, hc⟩, if_neg (by omega), e]
  rcases hk with h2 | ⟨h4, hr⟩
  · rw [if_pos h2, ep]
  · rw [if_neg (by omega), if_pos h4, if_neg (fun h => h (by show (0 : Int) = o.rev; omega)), ep]
/-- Where a full rev is put upon: the table is as it was. -/
theorem do_max {t : List Rcd} {o : OpR} {r : Rcd} (h : RightT t) (hc : checkO 2 o = 0) (hk : o.kind = 2 ∨ o.kind = 5) (hx : lookT t o.key = some r) (hm : r.rev = maxN) : doT t o = (t, faultR 50) := by
  have hlk := look_idx (k := o.key) h.2.1
  rw [hx] at hlk
  cases e : idxT t o.key with
  | none => rw [e] at hlk; cases hlk
  | some i =>
    rw [e] at hlk
    simp only [Option.map_some, Option.some.injEq] at hlk
    have hm2 : (atR t i).rev = maxN := by rw [← hlk]; exact hm
    have ep : putT t (some i) o = (t, faultR 50) := by unfold putT; simp only; rw [if_pos hm2]
    rw [doT_ok ⟨h, hc⟩, if_neg (by omega), e]
    rcases hk with h2 | h5
    · rw [if_pos h2, ep]
    · rw [if_neg (by omega), if_neg (by omega)]
      simp only
      rw [if_neg (by omega), if_neg (by omega), if_pos hm2]
/-- Which records come out. -/
theorem do_mem {t : List Rcd} {o : OpR} (h : RightT t) {r : Rcd} (hr : r ∈ (doT t o).1) : r ∈ t ∨ r.rev = 1 ∨ ∃ r0 ∈ t, r.rev = r0.rev + 1 := by
  by_cases hc : checkO 2 o = 0
  · by_cases hk : o.kind = 6
    · rw [doT_ok ⟨h, hc⟩, if_pos hk] at hr; exact .inl hr
    · by_cases hl : t.length ≤ 19 ∨ lookT t o.key ≠ none ∨ ¬ (o.kind = 2 ∨ o.kind = 4)
      · obtain ⟨_, e1, _, e3⟩ := do_eff h hc hk hl
        have hlr := look_of_mem e1.rise hr
        rw [e3] at hlr
        by_cases hq : r.key = o.key
        · rw [if_pos hq] at hlr
          have key : ∀ r0, lookT t o.key = some r0 → r0 ∈ t := fun r0 h0 => (look_mem h0).1
          have put : ∀ x : Rcd, (putF (lookT t o.key) o).1 = some x → x ∈ t ∨ x.rev = 1 ∨ ∃ r0 ∈ t, x.rev = r0.rev + 1 := fun x hx => by
            cases hl : lookT t o.key with
            | none => rw [hl] at hx; simp only [putF, Option.some.injEq] at hx; rw [← hx]; exact .inr (.inl rfl)
            | some r0 =>
              rw [hl] at hx
              unfold putF at hx
              simp only at hx
              split at hx
              · simp only [Option.some.injEq] at hx; rw [← hx]; exact .inl (key _ hl)
              · simp only [Option.some.injEq] at hx; rw [← hx]; exact .inr (.inr ⟨r0, key _ hl, rfl⟩)
          unfold keyF at hlr
          split at hlr
          · exact put r hlr
          · split at hlr
            · split at hlr
              · exact .inl (key _ hlr)
              · exact put r hlr
            · split at hlr
              · cases hlr
              · rename_i r0 h0
                split at hlr
                · simp only [Option.some.injEq] at hlr; rw [← hlr]; exact .inl (key _ h0)
                · split at hlr
                  · cases hlr
                  · split at hlr
                    · simp only [Option.some.injEq] at hlr; rw [← hlr]; exact .inl (key _ h0)
                    · simp only [Option.some.injEq] at hlr; rw [← hlr]; exact .inr (.inr ⟨r0, key _ h0, rfl⟩)
        · rw [if_neg hq] at hlr
          exact .inl (look_mem hlr).1
      · have h1 : ¬ t.length ≤ 19 := fun e => hl (.inl e)
        have h2 : lookT t o.key = none := Classical.byContradiction fun e => hl (.inr (.inl e))
        have h3 : o.kind = 2 ∨ o.kind = 4 := Classical.byContradiction fun e => hl (.inr (.inr e))
        by_cases h4 : o.kind = 2 ∨ o.kind = 4 ∧ o.rev = 0
        · rw [do_full h hc h4 h1 h2] at hr; exact .inl hr
        · have e : idxT t o.key = none := by
            have := look_idx (k := o.key) h.2.1
            rw [h2] at this
            cases e : idxT t o.key with
            | none => rfl
            | some i => rw [e] at this; cases this
          rw [doT_ok ⟨h, hc⟩, if_neg hk, if_neg (by omega), if_pos (by omega), e, if_pos (by show (0 : Int) ≠ o.rev; omega)] at hr
          exact .inl hr
  · rw [doT_bad (fun e => hc e.2)] at hr; exact .inl hr
theorem revs_le (f : Nat → Nat → Int) : ∀ k, ∀ r ∈ tabD f k, r.rev ≤ k
  | 0, r, h => nomatch h
  | k + 1, r, h => by
    rcases do_mem (tabD_right f k) h with h1 | h1 | ⟨r0, h0, h1⟩
    · have := revs_le f k r h1; omega
    · omega
    · have := revs_le f k r0 h0; omega
theorem twK_at {n : Nat} {t : List Rcd} : ∀ k, k ≤ t.length → ∀ j, j < t.length → atR (twK n t k) j = if j < k then twR n j (atR t j) else atR t j
  | 0, _, j, hj => by rw [if_neg (by omega)]; rfl
  | k + 1, hk, j, hj => by
    rw [twK, atR_set (by rw [twK_len]; exact hj)]
    by_cases e : k = j
    · subst e
      rw [if_pos rfl, if_pos (by omega), twK_at k (by omega) k hj, if_neg (by omega)]
    · rw [if_neg e, twK_at k (by omega) j hj]
      by_cases h : j < k
      · rw [if_pos h, if_pos (by omega)]
      · rw [if_neg h, if_neg (by omega)]
theorem tw1_rev (i : Nat) (r : Rcd) : (tw1 i r).rev = r.rev := by unfold tw1; split <;> rfl
/-- Where a rev is full there are five records, at least. -/
theorem max_five (f : Nat → Nat → Int) (n : Nat) {r : Rcd} (h : r ∈ tableR f n) (hm : r.rev = maxN) : 5 ≤ (tableR f n).length := by
  obtain ⟨i, hi, rfl⟩ := List.getElem_of_mem h
  rw [← atR_get hi] at hm
  have hl : (tableR f n).length = (tabD f (min n 40)).length := twK_len _ _ _
  rw [hl] at hi ⊢
  unfold tableR at hm
  rw [twK_at _ (Nat.le_refl _) i hi, if_pos hi] at hm
  unfold twR tw2 at hm
  by_cases hc : i % 5 = 4 ∧ 7 < n
  · omega
  · rw [if_neg hc, tw1_rev] at hm
    have := revs_le f (min n 40) _ (atR_mem hi)
    unfold maxN at hm
    omega
/-- What one key's ops tell of a record that there is. -/
theorem do_one {t : List Rcd} {o : OpR} {r : Rcd} (h : RightT t) (hc : checkO 2 o = 0) (hk : o.kind ≠ 6) (hx : lookT t o.key = some r) :
    (doT t o).2 = (keyF (some r) o).2 ∧ lookT (doT t o).1 o.key = (keyF (some r) o).1 := by
  obtain ⟨e1, e2⟩ := do_eff h hc hk (.inr (.inl (by rw [hx]; simp)))
  rw [hx] at e1 e2
  exact ⟨e1, eff_self e2⟩
theorem do_none {t : List Rcd} {o : OpR} (h : RightT t) (hc : checkO 2 o = 0) (hk : o.kind = 1 ∨ o.kind = 3 ∨ o.kind = 5) (hx : lookT t o.key = none) : (doT t o).2 = faultR 70 := by
  obtain ⟨e1, _⟩ := do_eff h hc (by omega) (.inr (.inr (by omega)))
  rw [e1, hx]
  unfold keyF
  rw [if_neg (by omega), if_neg (by omega)]
theorem look_rev {t : List Rcd} (h : RightT t) {k : ByteArray} {r : Rcd} (hx : lookT t k = some r) : 0 ≤ r.rev ∧ r.rev ≤ maxN := rev_bounds (h.1 _ (look_mem hx).1)
/-- An op of a short key. -/
theorem ok_key {o : OpR} (hk : 1 ≤ o.kind ∧ o.kind ≤ 5) (h1 : 1 ≤ o.key.size ∧ o.key.size ≤ 16) (hv : o.value.size ≤ 200) (hu : o.upto.size ≤ 16) (hn : o.note.size ≤ 40) (hr : 0 ≤ o.rev ∧ o.rev ≤ maxN) (hl : 0 ≤ o.life ∧ o.life ≤ maxN) : checkO 2 o = 0 := by
  unfold checkO
  rw [if_neg, if_neg (by omega)]
  unfold BadO
  rintro (h | h | h | h | h | h | h | h | h | h | h | h)
  · exact h (.inr rfl)
  all_goals omega
/-- A put: refused, the table as it was; or the key has it. -/
theorem put_math {t : List Rcd} {o : OpR} (h : RightT t) (hc : checkO 2 o = 0) (hk : o.kind = 2) :
    (doT t o = (t, faultR 50) ∧ (20 ≤ t.length ∨ ∃ r ∈ t, r.rev = maxN)) ∨
    ∃ r, lookT (doT t o).1 o.key = some r ∧ r.value = o.value ∧ (doT t o).2 = ⟨0, r.rev, ByteArray.empty, []⟩ ∧ 1 ≤ r.rev ∧ r.rev ≤ maxN ∧ (∀ r0, lookT t o.key = some r0 → r = putR r0 o) ∧ (lookT t o.key = none → r = newR o) := by
  cases hx : lookT t o.key with
  | none =>
    by_cases hl : t.length ≤ 19
    · obtain ⟨e1, e2⟩ := do_eff h hc (by omega) (.inl hl)
      rw [hx] at e1 e2
      have ek : keyF none o = (some (newR o), ⟨0, 1, ByteArray.empty, []⟩) := by unfold keyF; rw [if_pos hk]; rfl
      rw [ek] at e1 e2
      exact .inr ⟨newR o, eff_self e2, rfl, e1, Int.le_refl 1, by show (1 : Int) ≤ 9007199254740992; decide, (fun r0 h0 => by cases h0), fun _ => rfl⟩
    · exact .inl ⟨do_full h hc (.inl hk) hl hx, .inl (by omega)⟩
  | some r0 =>
    by_cases hm : r0.rev = maxN
    · exact .inl ⟨do_max h hc (.inl hk) hx hm, .inr ⟨r0, (look_mem hx).1, hm⟩⟩
    · obtain ⟨e1, e2⟩ := do_one h hc (by omega) hx
      have ek : keyF (some r0) o = (some (putR r0 o), ⟨0, r0.rev + 1, ByteArray.empty, []⟩) := by unfold keyF; rw [if_pos hk]; unfold putF; simp only; rw [if_neg hm]
      rw [ek] at e1 e2
      have hb := look_rev h hx
      refine .inr ⟨putR r0 o, e2, rfl, e1, by show 1 ≤ r0.rev + 1; omega, by show r0.rev + 1 ≤ maxN; omega, fun r1 h1 => by cases h1; rfl, fun h1 => by cases h1⟩
/-- A get of a record that there is. -/
theorem get_math {t : List Rcd} {o : OpR} {r : Rcd} (h : RightT t) (hc : checkO 2 o = 0) (hk : o.kind = 1) (hx : lookT t o.key = some r) : (doT t o).2 = ⟨0, r.rev, r.value, []⟩ := by
  obtain ⟨e1, _⟩ := do_one h hc (by omega) hx
  rw [e1]; unfold keyF; rw [if_neg (by omega), if_neg (by omega)]; simp only; rw [if_pos hk]
theorem del_math {t : List Rcd} {o : OpR} {r : Rcd} (h : RightT t) (hc : checkO 2 o = 0) (hk : o.kind = 3) (hx : lookT t o.key = some r) : (doT t o).2 = ⟨0, r.rev, ByteArray.empty, []⟩ ∧ lookT (doT t o).1 o.key = none := by
  obtain ⟨e1, e2⟩ := do_one h hc (by omega) hx
  have ek : keyF (some r) o = (none, ⟨0, r.rev, ByteArray.empty, []⟩) := by unfold keyF; rw [if_neg (by omega), if_neg (by omega)]; simp only; rw [if_neg (by omega), if_pos hk]
  rw [ek] at e1 e2
  exact ⟨e1, e2⟩
theorem cas_no {t : List Rcd} {o : OpR} {r : Rcd} (h : RightT t) (hc : checkO 2 o = 0) (hk : o.kind = 4) (hx : lookT t o.key = some r) (hr : r.rev ≠ o.rev) : (doT t o).2 = ⟨71, r.rev, ByteArray.empty, []⟩ := by
  obtain ⟨e1, _⟩ := do_one h hc (by omega) hx
  rw [e1]; unfold keyF; rw [if_neg (by omega), if_pos hk, if_pos (by show r.rev ≠ o.rev; exact hr)]; rfl
theorem cas_yes {t : List Rcd} {o : OpR} {r : Rcd} (h : RightT t) (hc : checkO 2 o = 0) (hk : o.kind = 4) (hx : lookT t o.key = some r) (hr : r.rev = o.rev) :
    (r.rev = maxN ∧ (doT t o).2 = faultR 50 ∧ lookT (doT t o).1 o.key = some r) ∨ (r.rev ≠ maxN ∧ (doT t o).2 = ⟨0, r.rev + 1, ByteArray.empty, []⟩ ∧ lookT (doT t o).1 o.key = some (putR r o)) := by
  obtain ⟨e1, e2⟩ := do_one h hc (by omega) hx
  have ek : keyF (some r) o = putF (some r) o := by unfold keyF; rw [if_neg (by omega), if_pos hk, if_neg (fun h => h hr)]
  rw [ek] at e1 e2
  by_cases hm : r.rev = maxN
  · left
    have ep : putF (some r) o = (some r, faultR 50) := by unfold putF; simp only; rw [if_pos hm]
    rw [ep] at e1 e2
    exact ⟨hm, e1, e2⟩
  · right
    have ep : putF (some r) o = (some (putR r o), ⟨0, r.rev + 1, ByteArray.empty, []⟩) := by unfold putF; simp only; rw [if_neg hm]
    rw [ep] at e1 e2
    exact ⟨hm, e1, e2⟩
end Go.Proofs.Ytpnkkiokkhmjpaa
