import Derived.OrdersHeld
import Derived.Deep.RegionHeld
/-
  A region that draws its order, whose last operations store into the cells that it loads: what is held of the world is asked for only until one of these ('ends') comes up.
-/
namespace Go.Proofs.Ytndkmepdnekigaa
open Go
set_option linter.unusedVariables false
section
variable {P : Program} {ops : Array Oper} {Q : Exit → Act → World → Prop} {md : Region.Mode} {S : World → Prop} {ends : List Nat}

def stillB (ends : List Nat) (listed : Array Bool) : Bool := ends.all fun s => !(listed.getD s false)
theorem stillB_iff {listed : Array Bool} : stillB ends listed = true ↔ ∀ s ∈ ends, listed.getD s false = false := by simp [stillB]
/-- What came up came up behind what it waits for. -/
def CloL (md : Region.Mode) (ops : Array Oper) (listed : Array Bool) : Prop := ∀ j oj, ops[j]? = some oj → listed.getD j false = true → ∀ e ∈ oj.after, Region.binds md e = true → listed.getD e.on false = true
/-- Number s waits for number i, by way of others. -/
def waitsB (md : Region.Mode) (ops : Array Oper) : Nat → Nat → Nat → Bool
  | 0, _, _ => false
  | f + 1, s, i => match ops[s]? with
    | none => false
    | some o => o.after.any fun e => Region.binds md e && (e.on == i || waitsB md ops f e.on i)
theorem waits_after {f s i : Nat} {o : Oper} {listed : Array Bool} (ho : ops[s]? = some o) (hc : CloL md ops listed)
    (hall : ∀ e ∈ o.after, Region.binds md e = true → listed.getD e.on false = true) (ih : ∀ t, waitsB md ops f t i = true → listed.getD t false = true → listed.getD i false = true)
    (h : waitsB md ops (f + 1) s i = true) : listed.getD i false = true := by
  rw [waitsB, ho] at h
  simp only at h
  rw [← Array.any_toList] at h
  simp only [List.any_eq_true, Bool.and_eq_true, Bool.or_eq_true, beq_iff_eq, Array.mem_toList_iff] at h
  obtain ⟨e, he, hb, h⟩ := h
  rcases h with rfl | h
  · exact hall e he hb
  · exact ih _ h (hall e he hb)
theorem waits_listed {listed : Array Bool} (hc : CloL md ops listed) {i : Nat} : ∀ (f s : Nat), waitsB md ops f s i = true → listed.getD s false = true → listed.getD i false = true
  | 0, _, h, _ => by cases h
  | f + 1, s, h, hs => by
    cases ho : ops[s]? with
    | none => rw [waitsB, ho] at h; cases h
    | some o => exact waits_after ho hc (hc s o ho hs) (fun t => waits_listed hc f t) h
theorem waits_ready {listed : Array Bool} (hc : CloL md ops listed) {i : Nat} (f s : Nat) (h : waitsB md ops f s i = true) (hs : s ∈ Region.ready md ops listed) : listed.getD i false = true := by
  obtain ⟨_, o, ho, hall⟩ := mem_ready.1 hs
  cases f with
  | zero => cases h
  | succ f => exact waits_after ho hc hall (fun t => waits_listed hc f t) h
theorem cloL_put {listed : Array Bool} (hc : CloL md ops listed) {i : Nat} (hi : i ∈ Region.ready md ops listed) : CloL md ops (listed.setIfInBounds i true) := by
  intro j oj hj hl e he hb
  obtain ⟨_, o, ho, hall⟩ := mem_ready.1 hi
  by_cases hji : i = j
  · subst hji
    rw [ho] at hj
    cases hj
    exact getD_set_true (hall e he hb)
  · rw [getD_set_ne false hji] at hl
    exact getD_set_true (hc j oj hj hl e he hb)
theorem cloL_none (n : Nat) : CloL md ops (Array.replicate n false) := by
  intro j oj _ hl
  rw [Array.getD_eq_getD_getElem?, Array.getElem?_replicate] at hl
  split at hl <;> cases hl

def wpTill (P : Program) (md : Region.Mode) (ops : Array Oper) (Q : Exit → Act → World → Prop) (S : World → Prop) (ends : List Nat) : Nat → Array Bool → Act → World → Prop
  | 0, listed, a, w => Region.ready md ops listed = [] ∧ Q .normal a w
  | fuel + 1, listed, a, w =>
    (Region.ready md ops listed = [] → Q .normal a w) ∧
    ∀ i ∈ Region.ready md ops listed, wpOp P ops Q i (fun a' w' => (stillB ends (listed.setIfInBounds i true) = true → S w') ∧ wpTill P md ops Q S ends fuel (listed.setIfInBounds i true) a' w') a w
theorem wpAny_of_till : ∀ (fuel : Nat) (listed : Array Bool) (a : Act) (w : World), wpTill P md ops Q S ends fuel listed a w → wpAny P md ops Q fuel listed a w
  | 0, _, _, _, h => h
  | fuel + 1, _, _, _, h => ⟨h.1, fun i hi => wpOp_mono (fun a' w' h' => wpAny_of_till fuel _ a' w' h'.2) (h.2 i hi)⟩

theorem wpTill_first {i : Nat} {oi : Oper} {v : Value} (hi : ops[i]? = some oi) (hsel : ∀ (j : Nat) (o : Oper) cs b, ops[j]? = some o → o.op ≠ .select cs b)
    (hQ : ∀ c a w, Q (.panic c) (a.put oi.dst v) w → Q (.panic c) a w) (hne : ∀ s ∈ ends, s ≠ i) (hwt : ∀ s ∈ ends, ∃ f, waitsB md ops f s i = true) :
    ∀ (fuel : Nat) (listed : Array Bool) (a : Act) (w : World), CloL md ops listed →
      (∀ j oj, ops[j]? = some oj → j ≠ i → listed.getD j true = false → (∀ e ∈ oj.after, Region.binds md e = true → e.on ≠ i) → oi.apart ops oj = true) →
      i ∈ Region.ready md ops listed → YieldsIf P ops S oi v a → S w →
      wpTill P md ops Q S ends fuel (listed.setIfInBounds i true) (a.put oi.dst v) w → wpTill P md ops Q S ends (fuel + 1) listed a w := by
  intro fuel
  induction fuel with
  | zero =>
    intro listed a w hcl _ hr hy hS H
    refine ⟨fun h => (by rw [h] at hr; cases hr), fun j hj => ?_⟩
    by_cases hji : j = i
    · subst hji; exact hy.wpOp hi hS ⟨fun _ => hS, H⟩
    · have := ready_mono hj hji
      rw [H.1] at this
      cases this
  | succ fuel ih =>
    intro listed a w hcl hfree hr hy hS H
    refine ⟨fun h => (by rw [h] at hr; cases hr), fun j hj => ?_⟩
    by_cases hji : j = i
    · subst hji; exact hy.wpOp hi hS ⟨fun _ => hS, H⟩
    · have h1 := H.2 j (ready_mono hj hji)
      obtain ⟨hjun, oj, hoj, hall⟩ := mem_ready.1 hj
      have hiun : listed.getD i false ≠ true := fun h1 => by
        have h0 := (mem_ready.1 hr).1
        rcases Nat.lt_or_ge i listed.size with h' | h'
        · simp [h'] at h0 h1; rw [h0] at h1; cases h1
        · simp [Array.getElem?_eq_none h'] at h1
      have hnot : ∀ e ∈ oj.after, Region.binds md e = true → e.on ≠ i := fun e he hb heq => hiun (heq ▸ hall e he hb)
      have hje : j ∉ ends := fun h => by
        obtain ⟨f, hf⟩ := hwt j h
        exact hiun (waits_ready hcl f j hf hj)
      have hst : stillB ends ((listed.setIfInBounds i true).setIfInBounds j true) = true := stillB_iff.2 fun s hs => by
        rw [getD_set_ne false (fun e => hje (by rw [e]; exact hs)), getD_set_ne false (Ne.symm (hne s hs))]
        cases hsl : listed.getD s false with
        | false => rfl
        | true =>
          obtain ⟨f, hf⟩ := hwt s hs
          exact absurd (waits_listed hcl f s hf hsl) hiun
      have h2 := wpOp_putIf hoj (hfree j oj hoj hji hjun hnot) (fun cs b => hsel i oi cs b hi) (fun cs b => hsel j oj cs b hoj) hQ hy h1
      have hfree' : ∀ k ok, ops[k]? = some ok → k ≠ i → (listed.setIfInBounds j true).getD k true = false →
          (∀ e ∈ ok.after, Region.binds md e = true → e.on ≠ i) → oi.apart ops ok = true := fun k ok hk hki hun hno => by
        refine hfree k ok hk hki ?_ hno
        by_cases hjk : j = k
        · subst hjk; exact hjun
        · rw [getD_set_ne true hjk] at hun; exact hun
      refine wpOp_mono (fun a' w' h3 => ⟨fun _ => h3.2.1 hst, ih (listed.setIfInBounds j true) a' w' (cloL_put hcl hj) hfree' (ready_mono hr (Ne.symm hji)) h3.1 (h3.2.1 hst) ?_⟩) h2
      rw [Array.setIfInBounds_comm _ _ hji]
      exact h3.2.2

theorem still_put {listed : Array Bool} {i : Nat} (hne : ∀ s ∈ ends, s ≠ i) : stillB ends (listed.setIfInBounds i true) = stillB ends listed := by
  rw [Bool.eq_iff_iff, stillB_iff, stillB_iff]
  constructor <;> intro h s hs
  · have := h s hs
    rwa [getD_set_ne false (Ne.symm (hne s hs))] at this
  · rw [getD_set_ne false (Ne.symm (hne s hs))]
    exact h s hs
/-- What yields in whatever world may be taken first, whoever waits for it. -/
theorem wpTill_first2 {i : Nat} {oi : Oper} {v : Value} (hi : ops[i]? = some oi) (hsel : ∀ (j : Nat) (o : Oper) cs b, ops[j]? = some o → o.op ≠ .select cs b)
    (hQ : ∀ c a w, Q (.panic c) (a.put oi.dst v) w → Q (.panic c) a w) (hne : ∀ s ∈ ends, s ≠ i) :
    ∀ (fuel : Nat) (listed : Array Bool) (a : Act) (w : World),
      (∀ j oj, ops[j]? = some oj → j ≠ i → listed.getD j true = false → (∀ e ∈ oj.after, Region.binds md e = true → e.on ≠ i) → oi.apart ops oj = true) →
      i ∈ Region.ready md ops listed → YieldsIf P ops (fun _ => True) oi v a → (stillB ends listed = true → S w) →
      wpTill P md ops Q S ends fuel (listed.setIfInBounds i true) (a.put oi.dst v) w → wpTill P md ops Q S ends (fuel + 1) listed a w := by
  intro fuel
  induction fuel with
  | zero =>
    intro listed a w _ hr hy hS H
    refine ⟨fun h => (by rw [h] at hr; cases hr), fun j hj => ?_⟩
    by_cases hji : j = i
    · subst hji; exact hy.wpOp hi trivial ⟨fun h => hS (by rwa [still_put hne] at h), H⟩
    · have := ready_mono hj hji
      rw [H.1] at this
      cases this
  | succ fuel ih =>
    intro listed a w hfree hr hy hS H
    refine ⟨fun h => (by rw [h] at hr; cases hr), fun j hj => ?_⟩
    by_cases hji : j = i
    · subst hji; exact hy.wpOp hi trivial ⟨fun h => hS (by rwa [still_put hne] at h), H⟩
    · have h1 := H.2 j (ready_mono hj hji)
      obtain ⟨hjun, oj, hoj, hall⟩ := mem_ready.1 hj
      have hnot : ∀ e ∈ oj.after, Region.binds md e = true → e.on ≠ i := fun e he hb heq => by
        have h1 := hall e he hb
        have h0 := (mem_ready.1 hr).1
        rw [heq] at h1
        rcases Nat.lt_or_ge i listed.size with h' | h'
        · simp [h'] at h0 h1; rw [h0] at h1; cases h1
        · simp [Array.getElem?_eq_none h'] at h1
      have h2 := wpOp_putIf hoj (hfree j oj hoj hji hjun hnot) (fun cs b => hsel i oi cs b hi) (fun cs b => hsel j oj cs b hoj) hQ hy h1
      have hfree' : ∀ k ok, ops[k]? = some ok → k ≠ i → (listed.setIfInBounds j true).getD k true = false →
          (∀ e ∈ ok.after, Region.binds md e = true → e.on ≠ i) → oi.apart ops ok = true := fun k ok hk hki hun hno => by
        refine hfree k ok hk hki ?_ hno
        by_cases hjk : j = k
        · subst hjk; exact hjun
        · rw [getD_set_ne true hjk] at hun; exact hun
      have hst : stillB ends ((listed.setIfInBounds i true).setIfInBounds j true) = stillB ends (listed.setIfInBounds j true) := by
        rw [Array.setIfInBounds_comm _ _ (Ne.symm hji), still_put hne]
      refine wpOp_mono (fun a' w' h3 => ⟨fun h => h3.2.1 (hst.trans h), ih (listed.setIfInBounds j true) a' w' hfree' (ready_mono hr (Ne.symm hji)) h3.1 (fun h => h3.2.1 (hst.trans h)) ?_⟩) h2
      rw [Array.setIfInBounds_comm _ _ hji]
      exact h3.2.2

/-- With what came up in order. -/
def wpTillC (P : Program) (md : Region.Mode) (ops : Array Oper) (Q : Exit → Act → World → Prop) (S : World → Prop) (ends : List Nat) (fuel : Nat) (listed : Array Bool) (a : Act) (w : World) : Prop :=
  CloL md ops listed → wpTill P md ops Q S ends fuel listed a w
theorem wpTill_take {i : Nat} {oi : Oper} {v : Value} {fuel : Nat} {listed : Array Bool} {a : Act} {w : World} (hi : ops[i]? = some oi)
    (hs : Region.noSelect ops = true) (hf : Region.free md ops listed i = true) (hr : (Region.ready md ops listed).contains i = true) (hen : (ends.all fun s => s != i && waitsB md ops 100 s i) = true)
    (hQ : ∀ c a w, Q (.panic c) (a.put oi.dst v) w → Q (.panic c) a w) (hy : YieldsIf P ops S oi v a) (hS : S w)
    (h : wpTillC P md ops Q S ends fuel (listed.setIfInBounds i true) (a.put oi.dst v) w) : wpTillC P md ops Q S ends (fuel + 1) listed a w := fun hcl => by
  have hr' : i ∈ Region.ready md ops listed := by simpa using hr
  simp only [List.all_eq_true, Bool.and_eq_true, bne_iff_ne] at hen
  exact wpTill_first hi (Region.noSelect_spec hs) hQ (fun s hs => (hen s hs).1) (fun s hs => ⟨100, (hen s hs).2⟩) fuel listed a w hcl (Region.free_spec hi hf) hr' hy hS (h (cloL_put hcl hr'))
theorem wpTill_pure {i : Nat} {oi : Oper} {v : Value} {fuel : Nat} {listed : Array Bool} {a : Act} {w : World} (hi : ops[i]? = some oi)
    (hs : Region.noSelect ops = true) (hf : Region.free md ops listed i = true) (hr : (Region.ready md ops listed).contains i = true) (hen : (ends.all fun s => s != i) = true)
    (hQ : ∀ c a w, Q (.panic c) (a.put oi.dst v) w → Q (.panic c) a w) (hy : YieldsIf P ops (fun _ => True) oi v a) (hS : S w)
    (h : wpTillC P md ops Q S ends fuel (listed.setIfInBounds i true) (a.put oi.dst v) w) : wpTillC P md ops Q S ends (fuel + 1) listed a w := fun hcl => by
  have hr' : i ∈ Region.ready md ops listed := by simpa using hr
  simp only [List.all_eq_true, bne_iff_ne] at hen
  exact wpTill_first2 hi (Region.noSelect_spec hs) hQ hen fuel listed a w (Region.free_spec hi hf) hr' hy (fun _ => hS) (h (cloL_put hcl hr'))
theorem wpTill_behind {i : Nat} {oi : Oper} {v : Value} {fuel : Nat} {listed : Array Bool} {a : Act} {w : World} (hi : ops[i]? = some oi)
    (hs : Region.noSelect ops = true) (hf : Region.free md ops listed i = true) (hr : (Region.ready md ops listed).contains i = true) (hen : (ends.all fun s => s != i) = true)
    (hQ : ∀ c a w, Q (.panic c) (a.put oi.dst v) w → Q (.panic c) a w) (hy : YieldsIf P ops (fun _ => True) oi v a) (hst : stillB ends listed = false)
    (h : wpTillC P md ops Q S ends fuel (listed.setIfInBounds i true) (a.put oi.dst v) w) : wpTillC P md ops Q S ends (fuel + 1) listed a w := fun hcl => by
  have hr' : i ∈ Region.ready md ops listed := by simpa using hr
  simp only [List.all_eq_true, bne_iff_ne] at hen
  exact wpTill_first2 hi (Region.noSelect_spec hs) hQ hen fuel listed a w (Region.free_spec hi hf) hr' hy (fun h => absurd (hst.symm.trans h) (by decide)) (h (cloL_put hcl hr'))
def AllReadyT (P : Program) (md : Region.Mode) (ops : Array Oper) (Q : Exit → Act → World → Prop) (S : World → Prop) (ends : List Nat) (fuel : Nat) (listed : Array Bool) (a : Act) (w : World) (rs : List Nat) : Prop :=
  ∀ i ∈ rs, i ∈ Region.ready md ops listed → CloL md ops listed → wpOp P ops Q i (fun a' w' => (stillB ends (listed.setIfInBounds i true) = true → S w') ∧ wpTill P md ops Q S ends fuel (listed.setIfInBounds i true) a' w') a w
theorem AllReadyT.nil {fuel : Nat} {listed : Array Bool} {a : Act} {w : World} : AllReadyT P md ops Q S ends fuel listed a w [] := fun _ h => by cases h
theorem AllReadyT.cons {fuel : Nat} {listed : Array Bool} {a : Act} {w : World} {i : Nat} {o : Oper} {rs : List Nat} (ho : ops[i]? = some o)
    (h : ∀ K' : Act → World → Prop, Shut (∀ a w, S w → (S w → wpTillC P md ops Q S ends fuel (listed.setIfInBounds i true) a w) → K' a w) → if Region.wanted o (yielded ops a.tmps) = true then Oper.wp P o a w K' Q else K' (a.put o.dst undef) w)
    (hs : AllReadyT P md ops Q S ends fuel listed a w rs) : AllReadyT P md ops Q S ends fuel listed a w (i :: rs) := fun j hj hr hcl => by
  rcases List.mem_cons.1 hj with rfl | hj
  · exact wpOp_step ho (fun K' hK => h K' (fun a w hS hW => hK a w ⟨fun _ => hS, hW hS (cloL_put hcl hr)⟩))
  · exact hs j hj hr hcl
/-- One of the ends: nothing is asked of the world behind it. -/
theorem AllReadyT.last {fuel : Nat} {listed : Array Bool} {a : Act} {w : World} {i : Nat} {o : Oper} {rs : List Nat} (ho : ops[i]? = some o) (hst : stillB ends (listed.setIfInBounds i true) = false)
    (h : ∀ K' : Act → World → Prop, Shut (∀ a w, True → (True → wpTillC P md ops Q S ends fuel (listed.setIfInBounds i true) a w) → K' a w) → if Region.wanted o (yielded ops a.tmps) = true then Oper.wp P o a w K' Q else K' (a.put o.dst undef) w)
    (hs : AllReadyT P md ops Q S ends fuel listed a w rs) : AllReadyT P md ops Q S ends fuel listed a w (i :: rs) := fun j hj hr hcl => by
  rcases List.mem_cons.1 hj with rfl | hj
  · exact wpOp_step ho (fun K' hK => h K' (fun a w _ hW => hK a w ⟨fun h => absurd (hst.symm.trans h) (by decide), hW trivial (cloL_put hcl hr)⟩))
  · exact hs j hj hr hcl
theorem wpTill_ready {rs : List Nat} {fuel : Nat} {listed : Array Bool} {a : Act} {w : World} (hr : Region.ready md ops listed = rs) (hne : rs ≠ [])
    (h : AllReadyT P md ops Q S ends fuel listed a w rs) : wpTillC P md ops Q S ends (fuel + 1) listed a w := fun hcl =>
  ⟨fun h0 => absurd (hr ▸ h0) hne, fun i hi => h i (hr ▸ hi) hi hcl⟩
theorem wpTill_done {listed : Array Bool} {a : Act} {w : World} (hr : Region.ready md ops listed = []) (h : Q .normal a w) :
    ∀ fuel, wpTillC P md ops Q S ends fuel listed a w
  | 0 => fun _ => ⟨hr, h⟩
  | _ + 1 => fun _ => ⟨fun _ => h, by rw [hr]; simp⟩
theorem wp_region_till {id : Nat} {a : Act} {w : World} (ends : List Nat) (hm : P.follows .mixedOrders = true) (hS : S w.drew)
    (h : S w.drew → wpTillC P .any ops Q S ends ops.size (Array.replicate ops.size false) a w.drew) : (Code.region id ops true).wp P Q a w :=
  wp_region_any hm (wpAny_of_till _ _ _ _ (h hS (cloL_none _)))
end
end Go.Proofs.Ytndkmepdnekigaa
