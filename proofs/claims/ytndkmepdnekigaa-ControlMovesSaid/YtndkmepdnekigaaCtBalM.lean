import Derived.Test.YtndkmepdnekigaaCtLawM
/-
  Plain mathematics: what Balance tells (stage 18).
-/
namespace Go.Proofs.Ytndkmepdnekigaa
set_option linter.unusedVariables false

theorem mostL_mem (f : Int → Nat) : ∀ (l : List MbR) (x : Int), mostL f l x = x ∨ isMem l (mostL f l x)
  | [], x => .inl rfl
  | m :: l, x => by
    rw [most_cons]
    rcases mostL_mem f l (if f x < f m.1 then m.1 else x) with h | ⟨y, hy, e⟩
    · rw [h]
      split
      · exact .inr ⟨m, List.mem_cons_self, rfl⟩
      · exact .inl rfl
    · exact .inr ⟨y, List.mem_cons_of_mem _ hy, e⟩
theorem leastL_mem (f : Int → Nat) : ∀ (l : List MbR) (x : Int), leastL f l x = x ∨ isMem l (leastL f l x)
  | [], x => .inl rfl
  | m :: l, x => by
    rw [least_cons]
    rcases leastL_mem f l (if f m.1 < f x then m.1 else x) with h | ⟨y, hy, e⟩
    · rw [h]
      split
      · exact .inr ⟨m, List.mem_cons_self, rfl⟩
      · exact .inl rfl
    · exact .inr ⟨y, List.mem_cons_of_mem _ hy, e⟩
theorem mostL_le (f : Int → Nat) : ∀ (l : List MbR) (x : Int), f x ≤ f (mostL f l x) ∧ ∀ m ∈ l, f m.1 ≤ f (mostL f l x)
  | [], x => ⟨Nat.le_refl _, fun _ h => by cases h⟩
  | m :: l, x => by
    rw [most_cons]
    have h := mostL_le f l (if f x < f m.1 then m.1 else x)
    split at h <;> rename_i hc
    · refine ⟨by rw [if_pos hc]; omega, fun y hy => ?_⟩
      rw [if_pos hc]
      rcases List.mem_cons.1 hy with rfl | hy
      · exact h.1
      · exact h.2 y hy
    · refine ⟨by rw [if_neg hc]; exact h.1, fun y hy => ?_⟩
      rw [if_neg hc]
      rcases List.mem_cons.1 hy with rfl | hy
      · have := h.1; omega
      · exact h.2 y hy
theorem leastL_le (f : Int → Nat) : ∀ (l : List MbR) (x : Int), f (leastL f l x) ≤ f x ∧ ∀ m ∈ l, f (leastL f l x) ≤ f m.1
  | [], x => ⟨Nat.le_refl _, fun _ h => by cases h⟩
  | m :: l, x => by
    rw [least_cons]
    have h := leastL_le f l (if f m.1 < f x then m.1 else x)
    split at h <;> rename_i hc
    · refine ⟨by rw [if_pos hc]; omega, fun y hy => ?_⟩
      rw [if_pos hc]
      rcases List.mem_cons.1 hy with rfl | hy
      · exact h.1
      · exact h.2 y hy
    · refine ⟨by rw [if_neg hc]; exact h.1, fun y hy => ?_⟩
      rw [if_neg hc]
      rcases List.mem_cons.1 hy with rfl | hy
      · have := h.1; omega
      · exact h.2 y hy
def mostC (c : CtR) : Int := mostL (loadC c.pl) c.mem.tail (c.mem.headD (0, 0)).1
def leastC (c : CtR) : Int := leastL (loadC c.pl) c.mem.tail (c.mem.headD (0, 0)).1
theorem head_split {l : List MbR} (h : 0 < l.length) : l = l.headD (0, 0) :: l.tail := by
  cases l with
  | nil => simp at h
  | cons m l => rfl
theorem mostC_mem {c : CtR} (h : RightC c) : isMem c.mem (mostC c) := by
  have hs := head_split (l := c.mem) (by have := h.2.1; omega)
  rcases mostL_mem (loadC c.pl) c.mem.tail (c.mem.headD (0, 0)).1 with e | ⟨m, hm, e⟩
  · exact ⟨c.mem.headD (0, 0), by rw [hs]; exact List.mem_cons_self, e.symm⟩
  · exact ⟨m, by rw [hs]; exact List.mem_cons_of_mem _ hm, e⟩
theorem leastC_mem {c : CtR} (h : RightC c) : isMem c.mem (leastC c) := by
  have hs := head_split (l := c.mem) (by have := h.2.1; omega)
  rcases leastL_mem (loadC c.pl) c.mem.tail (c.mem.headD (0, 0)).1 with e | ⟨m, hm, e⟩
  · exact ⟨c.mem.headD (0, 0), by rw [hs]; exact List.mem_cons_self, e.symm⟩
  · exact ⟨m, by rw [hs]; exact List.mem_cons_of_mem _ hm, e⟩
theorem mostC_le {c : CtR} (h : RightC c) : ∀ m ∈ c.mem, loadC c.pl m.1 ≤ loadC c.pl (mostC c) := by
  have hs := head_split (l := c.mem) (by have := h.2.1; omega)
  have h2 := mostL_le (loadC c.pl) c.mem.tail (c.mem.headD (0, 0)).1
  intro m hm
  rw [hs] at hm
  rcases List.mem_cons.1 hm with rfl | hm
  · exact h2.1
  · exact h2.2 m hm
theorem leastC_le {c : CtR} (h : RightC c) : ∀ m ∈ c.mem, loadC c.pl (leastC c) ≤ loadC c.pl m.1 := by
  have hs := head_split (l := c.mem) (by have := h.2.1; omega)
  have h2 := leastL_le (loadC c.pl) c.mem.tail (c.mem.headD (0, 0)).1
  intro m hm
  rw [hs] at hm
  rcases List.mem_cons.1 hm with rfl | hm
  · exact h2.1
  · exact h2.2 m hm
theorem balC_eq {c : CtR} (h : RightC c) : balC c = if loadC c.pl (mostC c) < loadC c.pl (leastC c) + 2 then (0, 0, false) else match c.pl.findIdx? (freeP (mostC c)) with | some i => ((i : Int), leastC c, true) | none => (0, 0, false) := by
  unfold balC; rw [if_neg (fun e => e h)]; rfl
/-- What Balance tells, if it tells something. -/
theorem bal_yes {c : CtR} (h : RightC c) {s t : Int} (hb : balC c = (s, t, true)) :
    ∃ (i : Nat) (ep : Int), s = i ∧ i < c.pl.length ∧ atP9 c.pl i = (mostC c, ep, 0) ∧ t = leastC c ∧ loadC c.pl t + 2 ≤ loadC c.pl (mostC c) := by
  rw [balC_eq h] at hb
  split at hb
  · simp at hb
  · rename_i hlt
    split at hb
    · rename_i i hi
      rw [List.findIdx?_eq_some_iff_getElem] at hi
      obtain ⟨hil, hp, _⟩ := hi
      have he : c.pl[i] = atP9 c.pl i := by unfold atP9; rw [List.getD_eq_getElem?_getD, List.getElem?_eq_getElem hil]; rfl
      rw [he] at hp
      simp only [Prod.mk.injEq] at hb
      obtain ⟨h1, h2, _⟩ := hb
      unfold freeP at hp
      generalize hz : atP9 c.pl i = z at *
      obtain ⟨ow, ep, tz⟩ := z
      simp only [Bool.and_eq_true, beq_iff_eq] at hp
      refine ⟨i, ep, h1.symm, hil, by rw [hz, hp.1, hp.2], h2.symm, ?_⟩
      rw [← h2]; omega
    · simp at hb
theorem bal_no {c : CtR} {s t : Int} (hb : balC c = (s, t, false)) : s = 0 ∧ t = 0 := by
  unfold balC at hb
  split at hb
  · simp only [Prod.mk.injEq] at hb; exact ⟨hb.1.symm, hb.2.1.symm⟩
  · simp only at hb
    split at hb
    · simp only [Prod.mk.injEq] at hb; exact ⟨hb.1.symm, hb.2.1.symm⟩
    · split at hb
      · simp at hb
      · simp only [Prod.mk.injEq] at hb; exact ⟨hb.1.symm, hb.2.1.symm⟩
/-- A load behind one place that is set. -/
theorem load_set {l : List PlR} {i : Nat} (hi : i < l.length) (p : PlR) (x : Int) : loadC (l.set i p) x + (if hasP x (atP9 l i) = true then 1 else 0) = loadC l x + (if hasP x p = true then 1 else 0) := by
  unfold loadC atP9
  rw [List.getD_eq_getElem?_getD, List.getElem?_eq_getElem hi, Option.getD_some]
  induction l generalizing i with
  | nil => simp at hi
  | cons a l ih =>
    cases i with
    | zero => simp only [List.set_cons_zero, List.countP_cons, List.getElem_cons_zero]; omega
    | succ i =>
      simp only [List.set_cons_succ, List.countP_cons, List.getElem_cons_succ]
      have := ih (i := i) (by simpa using hi)
      omega
theorem set_samePl {l : List PlR} {i : Nat} (hi : i < l.length) {p q : PlR} (hp : atP9 l i = p) : (l.set i q).set i p = l := by
  rw [List.set_set]
  refine List.ext_getElem (by simp) fun j h1 h2 => ?_
  rw [List.getElem_set]
  split
  · rename_i e; subst e; rw [← hp]; unfold atP9; rw [List.getD_eq_getElem?_getD, List.getElem?_eq_getElem h2]; rfl
  · rfl
theorem atP9_set {l : List PlR} {i : Nat} (hi : i < l.length) {p : PlR} : atP9 (l.set i p) i = p := by
  unfold atP9; rw [List.getD_eq_getElem?_getD, List.getElem?_set_self hi]; rfl
/-- Plan and Cancel of a place that does not move. -/
theorem plan_at {c : CtR} (h : RightC c) {i : Nat} (hi : i < c.pl.length) {ow ep t : Int} (hp : atP9 c.pl i = (ow, ep, 0)) (ht : isMem c.mem t) (hne : ow ≠ t) (he : ep ≠ 9007199254740992) :
    planC c (i : Int) t = (setPl c (i : Int) (ow, ep, t), 0) := by
  have h0 : placeE c (i : Int) = 0 := by unfold placeE; rw [if_neg (fun e => e h), if_neg (by omega)]
  unfold planC
  rw [if_neg (fun e => e h0), if_neg (fun e => e ht), Int.toNat_natCast, hp, if_neg (by simp), if_neg hne, if_neg he]
theorem cancel_at {c : CtR} (h : RightC c) {i : Nat} (hi : i < c.pl.length) {ow ep t : Int} (hp : atP9 c.pl i = (ow, ep, 0)) (ht : t ≠ 0) (hr : RightC (setPl c (i : Int) (ow, ep, t))) :
    cancelC (setPl c (i : Int) (ow, ep, t)) (i : Int) = (c, 0) := by
  have hl : (setPl c (i : Int) (ow, ep, t)).pl = c.pl.set i (ow, ep, t) := by show c.pl.set (i : Int).toNat _ = _; rw [Int.toNat_natCast]
  have h0 : placeE (setPl c (i : Int) (ow, ep, t)) (i : Int) = 0 := by unfold placeE; rw [if_neg (fun e => e hr), if_neg (by rw [hl, List.length_set]; omega)]
  unfold cancelC
  rw [if_neg (fun e => e h0), Int.toNat_natCast, hl, atP9_set hi, if_neg ht]
  show (setPl (setPl c (i : Int) (ow, ep, t)) (i : Int) (ow, ep, 0), (0 : Int)) = _
  unfold setPl
  simp only [Int.toNat_natCast]
  rw [set_samePl hi hp]
theorem name_pos {c : CtR} (h : RightC c) {x : Int} (hx : isMem c.mem x) : 1 ≤ x := by
  obtain ⟨m, hm, e⟩ := hx
  have := (h.2.2.2.1.2 m hm).1
  omega
/-- ControlEven. -/
theorem even_math {c : CtR} (h : RightC c) (hep : ∀ p ∈ c.pl, p.2.1 ≤ 31) :
    ((balC c).2.2 = false → (balC c).1 = 0 ∧ (balC c).2.1 = 0) ∧
    ((balC c).2.2 = true → ∃ (i : Nat) (ow ep : Int), (balC c).1 = i ∧ i < c.pl.length ∧ atP9 c.pl i = (ow, ep, 0) ∧ ow ≠ (balC c).2.1 ∧ loadC c.pl (balC c).2.1 + 2 ≤ loadC c.pl ow ∧ isMem c.mem (balC c).2.1 ∧
      planC c (i : Int) (balC c).2.1 = (setPl c (i : Int) (ow, ep, (balC c).2.1), 0) ∧ cancelC (setPl c (i : Int) (ow, ep, (balC c).2.1)) (i : Int) = (c, 0) ∧
      loadC (setPl c (i : Int) (ow, ep, (balC c).2.1)).pl ow + 1 = loadC c.pl ow ∧ loadC (setPl c (i : Int) (ow, ep, (balC c).2.1)).pl (balC c).2.1 = loadC c.pl (balC c).2.1 + 1) := by
  obtain ⟨s, t, is, hb⟩ : ∃ s t is, balC c = (s, t, is) := ⟨_, _, _, rfl⟩
  rw [hb]
  refine ⟨fun e => ?_, fun e => ?_⟩
  · simp only at e; subst e; exact bal_no hb
  · simp only at e; subst e
    obtain ⟨i, ep, rfl, hil, hp, rfl, hld⟩ := bal_yes h hb
    have hm := leastC_mem h
    have hne : mostC c ≠ leastC c := fun e => by rw [e] at hld; omega
    have he : ep ≤ 31 := by have := hep _ (atP9_mem hil); rw [hp] at this; exact this
    have h1 := plan_at h hil hp hm hne (by omega)
    have hr : RightC (setPl c (i : Int) (mostC c, ep, leastC c)) := by have := plan_right (s := (i : Int)) (t := leastC c) h; rw [h1] at this; exact this
    have hl : (setPl c (i : Int) (mostC c, ep, leastC c)).pl = c.pl.set i (mostC c, ep, leastC c) := by show c.pl.set (i : Int).toNat _ = _; rw [Int.toNat_natCast]
    have hp1 := name_pos h hm
    have hlp : leastC c ≠ 0 := by omega
    refine ⟨i, mostC c, ep, rfl, hil, hp, hne, hld, hm, h1, cancel_at h hil hp hlp hr, ?_, ?_⟩
    · have := load_set hil (mostC c, ep, leastC c) (mostC c)
      rw [hp] at this
      rw [hl]
      have e1 : hasP (mostC c) (mostC c, ep, 0) = true := by unfold hasP; simp
      have e2 : hasP (mostC c) (mostC c, ep, leastC c) = false := by
        unfold hasP
        have a1 : (leastC c == mostC c) = false := by simpa using fun e => hne e.symm
        have a2 : (leastC c == 0) = false := by simp; omega
        simp only [a1, a2]; rfl
      rw [if_pos e1, if_neg (by rw [e2]; simp)] at this
      omega
    · have := load_set hil (mostC c, ep, leastC c) (leastC c)
      rw [hp] at this
      rw [hl]
      have e1 : hasP (leastC c) (mostC c, ep, 0) = false := by
        unfold hasP
        have a1 : ((0 : Int) == leastC c) = false := by simp; omega
        have a2 : (mostC c == leastC c) = false := by simpa using hne
        simp only [a1, a2]; rfl
      have e2 : hasP (leastC c) (mostC c, ep, leastC c) = true := by unfold hasP; simp
      rw [if_pos e2, if_neg (by rw [e1]; simp)] at this
      omega
theorem pickN_of {i n : Int} (h0 : 0 ≤ i) (h : i < n) : pickN i n = i.toNat := by
  unfold pickN pickZ
  rw [if_neg (by omega), Int.emod_eq_of_lt h0 h]
end Go.Proofs.Ytndkmepdnekigaa
