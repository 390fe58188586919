import Derived.Test.YtndkmepdnekigaaCtRight
/-
  Plain mathematics of controllers: what Join, New, Commit and Balance do step by step (stage 18).
-/
namespace Go.Proofs.Ytndkmepdnekigaa
set_option linter.unusedVariables false

/-- What Join has put when it has seen the first k members: whether x is in it, and the members. -/
def jdnM (l : List MbR) (x : Int) (k : Nat) : Bool := (l.take k).any fun m => decide (x < m.1)
def jacM (l : List MbR) (x : MbR) (k : Nat) : List MbR := if jdnM l x.1 k then insM (l.take k) x else l.take k
theorem ins_app (a b : List MbR) (x : MbR) : insM (a ++ b) x = if (a.any fun m => decide (x.1 < m.1)) then insM a x ++ b else a ++ insM b x := by
  induction a with
  | nil => simp
  | cons m a ih =>
    by_cases h : x.1 < m.1
    · simp [insM, h]
    · simp only [List.cons_append, insM, h, if_false, List.any_cons, decide_false, Bool.false_or, ih]
      split <;> rfl
theorem take_oneJ (l : List MbR) {k : Nat} (h : k < l.length) : l.take (k + 1) = l.take k ++ [l.getD k (0, 0)] := by
  rw [List.take_succ_eq_append_getElem h, List.getD_eq_getElem?_getD, List.getElem?_eq_getElem h]; rfl
theorem jdnM_succ {l : List MbR} {x : Int} {k : Nat} (h : k < l.length) : jdnM l x (k + 1) = (jdnM l x k || decide (x < (l.getD k (0, 0)).1)) := by
  unfold jdnM; rw [take_oneJ l h, List.any_append]; simp
theorem jacM_done {l : List MbR} {x : MbR} {k : Nat} (h : k < l.length) (hd : jdnM l x.1 k = true) : jdnM l x.1 (k + 1) = true ∧ jacM l x (k + 1) = jacM l x k ++ [l.getD k (0, 0)] := by
  have h1 : jdnM l x.1 (k + 1) = true := by rw [jdnM_succ h, hd]; rfl
  refine ⟨h1, ?_⟩
  unfold jacM
  rw [if_pos h1, if_pos hd, take_oneJ l h, ins_app, if_pos (by unfold jdnM at hd; exact hd)]
theorem jacM_here {l : List MbR} {x : MbR} {k : Nat} (h : k < l.length) (hd : jdnM l x.1 k = false) (hx : x.1 < (l.getD k (0, 0)).1) : jdnM l x.1 (k + 1) = true ∧ jacM l x (k + 1) = (jacM l x k ++ [x]) ++ [l.getD k (0, 0)] := by
  have h1 : jdnM l x.1 (k + 1) = true := by rw [jdnM_succ h, hd]; simpa using hx
  refine ⟨h1, ?_⟩
  unfold jacM
  rw [if_pos h1, if_neg (by rw [hd]; simp), take_oneJ l h, ins_app, if_neg (by unfold jdnM at hd; rw [hd]; simp)]
  generalize l.getD k (0, 0) = y at *
  simp [insM, hx]
theorem jacM_not {l : List MbR} {x : MbR} {k : Nat} (h : k < l.length) (hd : jdnM l x.1 k = false) (hx : ¬ x.1 < (l.getD k (0, 0)).1) : jdnM l x.1 (k + 1) = false ∧ jacM l x (k + 1) = jacM l x k ++ [l.getD k (0, 0)] := by
  have h1 : jdnM l x.1 (k + 1) = false := by rw [jdnM_succ h, hd]; simpa using hx
  refine ⟨h1, ?_⟩
  unfold jacM
  rw [if_neg (by rw [h1]; simp), if_neg (by rw [hd]; simp), take_oneJ l h]
theorem jacM_end {l : List MbR} {x : MbR} : (jdnM l x.1 l.length = true → jacM l x l.length = insM l x) ∧ (jdnM l x.1 l.length = false → jacM l x l.length ++ [x] = insM l x) := by
  refine ⟨fun h => ?_, fun h => ?_⟩
  · unfold jacM; rw [if_pos h, List.take_length]
  · unfold jacM
    rw [if_neg (by rw [h]; simp)]
    unfold jdnM at h
    rw [List.take_length] at h ⊢
    have := ins_app l [] x
    rw [List.append_nil, h] at this
    rw [this]; rfl
theorem jacM_len {l : List MbR} {x : MbR} (k : Nat) : (jacM l x k).length ≤ k + 1 := by
  unfold jacM; split
  · rw [ins_len]; simp; omega
  · simp; omega
/-- Is a place committed one that may be? -/
theorem commit_may {c : CtR} {k : Nat} {ow ep tz : Int} (hr : RightC c) (hk : k < c.pl.length) (hp : atP9 c.pl k = (ow, ep, tz)) (ht : tz ≠ 0) : rightC (setPl c (k : Int) (tz, ep + 1, 0)) = (ep != 9007199254740992) := by
  have h1 := hr.2.2.2.2 _ (atP9_mem hk)
  rw [hp] at h1
  obtain ⟨h2, h3, h4, h5⟩ := h1
  simp only at h2 h3 h4 h5
  have h6 := (h5.resolve_left ht).1
  unfold rightC
  by_cases he : ep = 9007199254740992
  · have : ¬ RightC (setPl c (k : Int) (tz, ep + 1, 0)) := fun h => by
      have h9 := h.2.2.2.2 (tz, ep + 1, 0) (List.mem_of_getElem? (i := k) (by show (c.pl.set (k : Int).toNat (tz, ep + 1, 0))[k]? = _; rw [Int.toNat_natCast, List.getElem?_set_self hk]))
      have := h9.2.2.1
      simp only at this
      omega
    rw [decide_eq_false this, he]; rfl
  · have : RightC (setPl c (k : Int) (tz, ep + 1, 0)) := setPl_right hr ⟨h6, by show 1 ≤ ep + 1; omega, by show ep + 1 ≤ _; omega, .inl rfl⟩
    rw [decide_eq_true this]
    symm; simpa using he
/-- The most loaded member, and the least loaded one, member by member. -/
theorem most_cons (f : Int → Nat) (m : MbR) (l : List MbR) (x : Int) : mostL f (m :: l) x = mostL f l (if f x < f m.1 then m.1 else x) := rfl
theorem least_cons (f : Int → Nat) (m : MbR) (l : List MbR) (x : Int) : leastL f (m :: l) x = leastL f l (if f m.1 < f x then m.1 else x) := rfl
theorem drop_oneJ {l : List MbR} {k : Nat} (h : k < l.length) : l.drop k = l.getD k (0, 0) :: l.drop (k + 1) := by
  rw [List.drop_eq_getElem_cons h, List.getD_eq_getElem?_getD, List.getElem?_eq_getElem h]; rfl
theorem find_at {l : List PlR} {p : PlR → Bool} {k : Nat} (hk : k < l.length) (hp : p (atP9 l k) = true) (hb : ∀ j, j < k → p (atP9 l j) = false) : l.findIdx? p = some k := by
  rw [List.findIdx?_eq_some_iff_getElem]
  have e : ∀ j (h : j < l.length), l[j] = atP9 l j := fun j h => by unfold atP9; rw [List.getD_eq_getElem?_getD, List.getElem?_eq_getElem h]; rfl
  exact ⟨hk, by rw [e]; exact hp, fun j hj => by rw [e]; simpa using hb j hj⟩
theorem find_no {l : List PlR} {p : PlR → Bool} (hb : ∀ j, j < l.length → p (atP9 l j) = false) : l.findIdx? p = none := by
  rw [List.findIdx?_eq_none_iff]
  intro x hx
  obtain ⟨j, hj, rfl⟩ := List.getElem_of_mem hx
  have := hb j hj
  unfold atP9 at this
  rwa [List.getD_eq_getElem?_getD, List.getElem?_eq_getElem hj] at this
end Go.Proofs.Ytndkmepdnekigaa
