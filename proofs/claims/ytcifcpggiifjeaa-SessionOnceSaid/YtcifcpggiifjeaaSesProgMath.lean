import Derived.Test.YtcifcpggiifjeaaSesMath
/-
  Plain mathematics of the program's own way of stage 10: a list that rises, what stands in it where, the cut.
-/
namespace Go.Proofs.Ytcifcpggiifjeaa
/-- Rising from 'low' on, none above 'high'. -/
def riseB (l : List Int) (low high : Int) : Bool := decide (∀ k, k < l.length → lastS low l k < l.getD k 0 ∧ l.getD k 0 ≤ high)
theorem right_rise {s : Sn} (h1 : 1 ≤ s.next ∧ s.next ≤ 9007199254740992) (h2 : 0 ≤ s.seen ∧ s.seen ≤ 9007199254740992) : rightS s = riseB s.ahead (s.seen + 1) (min (s.seen + 64) 9007199254740992) := by
  unfold riseB
  by_cases h : RightS s
  · rw [rightS_iff.2 h]
    have := (RightS_adj.1 h).2.2.2
    exact (decide_eq_true fun k hk => ⟨(this k hk).1, by have := (this k hk).2; omega⟩).symm
  · rw [rightS_no h]
    refine (decide_eq_false fun h5 => h ?_).symm
    have h6 := (rise_adj s.ahead (s.seen + 1)).2 (fun k hk => (h5 k hk).1)
    have h7 := (mem_getD s.ahead (fun n => n ≤ min (s.seen + 64) 9007199254740992)).2 (fun k hk => (h5 k hk).2)
    exact ⟨h1, h2, h6.1, fun n hn => ⟨h6.2 n hn, by have := h7 n hn; omega, by have := h7 n hn; omega⟩⟩
/-- Where a number stands, or would stand. -/
def PlaceS (l : List Int) (q : Int) (i : Nat) : Prop := i ≤ l.length ∧ (∀ j, j < i → l.getD j 0 < q) ∧ ∀ j, i ≤ j → j < l.length → q ≤ l.getD j 0
def insS (l : List Int) (i : Nat) (q : Int) : List Int := l.take i ++ ([q] ++ l.drop i)
theorem mem_ins (l : List Int) (i : Nat) (q n : Int) : n ∈ insS l i q ↔ n ∈ l ∨ n = q := by
  have : n ∈ l ↔ n ∈ l.take i ∨ n ∈ l.drop i := by rw [← List.mem_append, List.take_append_drop]
  unfold insS
  simp only [List.mem_append, List.mem_singleton]
  rw [this]
  constructor
  · rintro (h | h | h)
    · exact .inl (.inl h)
    · exact .inr h
    · exact .inl (.inr h)
  · rintro ((h | h) | h)
    · exact .inl h
    · exact .inr (.inr h)
    · exact .inr (.inl h)
theorem place_take {l : List Int} {q : Int} {i : Nat} (h : PlaceS l q i) : ∀ x ∈ l.take i, x < q := by
  intro x hx
  obtain ⟨k, hk, rfl⟩ := List.getElem_of_mem hx
  rw [List.length_take] at hk
  have := h.2.1 k (by omega)
  rw [List.getD_eq_getElem?_getD, List.getElem?_eq_getElem (by omega)] at this
  simpa using this
theorem place_drop {l : List Int} {q : Int} {i : Nat} (h : PlaceS l q i) : ∀ x ∈ l.drop i, q ≤ x := by
  intro x hx
  obtain ⟨k, hk, rfl⟩ := List.getElem_of_mem hx
  rw [List.length_drop] at hk
  have := h.2.2 (i + k) (by omega) (by omega)
  rw [List.getD_eq_getElem?_getD, List.getElem?_eq_getElem (by omega)] at this
  simpa using this
theorem ins_rise {l : List Int} {q : Int} {i : Nat} (hp : l.Pairwise (· < ·)) (h : PlaceS l q i) (hn : q ∉ l) : (insS l i q).Pairwise (· < ·) := by
  have h1 := place_take h
  have h2 := place_drop h
  have h3 : ∀ x ∈ l.drop i, q < x := fun x hx => by
    have := h2 x hx
    rcases Int.lt_or_eq_of_le this with h | rfl
    · exact h
    · exact absurd (List.mem_of_mem_drop hx) hn
  have ht := hp.sublist (List.take_sublist i l)
  have hd := hp.sublist (List.drop_sublist i l)
  unfold insS
  refine List.pairwise_append.2 ⟨ht, List.pairwise_cons.2 ⟨h3, hd⟩, fun a ha b hb => ?_⟩
  have := h1 a ha
  rcases List.mem_cons.1 hb with rfl | hb
  · exact this
  · have := h3 b hb; omega
theorem place_mem {l : List Int} {q : Int} {i : Nat} (hp : l.Pairwise (· < ·)) (h : PlaceS l q i) : q ∈ l ↔ i < l.length ∧ l.getD i 0 = q := by
  constructor
  · intro hm
    obtain ⟨k, hk, rfl⟩ := List.getElem_of_mem hm
    have e : ∀ j (hj : j < l.length), l.getD j 0 = l[j] := fun j hj => by rw [List.getD_eq_getElem?_getD, List.getElem?_eq_getElem hj]; rfl
    rcases Nat.lt_trichotomy k i with h1 | h1 | h1
    · have := h.2.1 k h1; rw [e k hk] at this; omega
    · subst h1; exact ⟨hk, e _ hk⟩
    · have h2 := h.2.2 i (Nat.le_refl _) (by omega)
      rw [e i (by omega)] at h2
      have := (List.pairwise_iff_getElem.1 hp) i k (by omega) hk h1
      omega
  · rintro ⟨h1, rfl⟩
    rw [List.getD_eq_getElem?_getD, List.getElem?_eq_getElem h1]
    exact List.getElem_mem _
/-- As long as the next one is there, it is cut off. -/
def cutS : Int → List Int → Int × List Int
  | a, [] => (a, [])
  | a, x :: l => if x = a + 1 then cutS (a + 1) l else (a, x :: l)
theorem cut_spec : ∀ (l : List Int) (a : Int), l.Pairwise (· < ·) → (∀ x ∈ l, a < x) →
    a ≤ (cutS a l).1 ∧ (cutS a l).2.Pairwise (· < ·) ∧ (∀ x ∈ (cutS a l).2, (cutS a l).1 + 1 < x) ∧ (∀ n, (n ≤ (cutS a l).1 ∨ n ∈ (cutS a l).2) ↔ n ≤ a ∨ n ∈ l)
  | [], a => by intro _ _; simp [cutS]
  | x :: l, a => by
    intro hp ha
    rw [List.pairwise_cons] at hp
    by_cases h : x = a + 1
    · rw [cutS, if_pos h]
      obtain ⟨h1, h2, h3, h4⟩ := cut_spec l (a + 1) hp.2 (fun y hy => by have := hp.1 y hy; omega)
      refine ⟨by omega, h2, h3, fun n => ?_⟩
      rw [h4 n, List.mem_cons]
      constructor
      · rintro (h5 | h5)
        · by_cases e : n = x
          · exact .inr (.inl e)
          · exact .inl (by omega)
        · exact .inr (.inr h5)
      · rintro (h5 | h5 | h5)
        · exact .inl (by omega)
        · exact .inl (by omega)
        · exact .inr h5
    · rw [cutS, if_neg h]
      have hx := ha x List.mem_cons_self
      refine ⟨by omega, List.pairwise_cons.2 hp, fun y hy => ?_, fun n => Iff.rfl⟩
      rcases List.mem_cons.1 hy with rfl | hy
      · omega
      · have := hp.1 y hy; omega
/-- What the program's way comes to. -/
theorem cut_took {s : Sn} {q : Int} {i : Nat} (hr : RightS s) (hM : q ≤ 9007199254740992) (hf : q ≤ s.seen + 64) (hn : ¬ came s q) (hi : PlaceS s.ahead q i) :
    tookS s q = ⟨s.next, (cutS s.seen (insS s.ahead i q)).1, (cutS s.seen (insS s.ahead i q)).2⟩ := by
  have hnm : q ∉ s.ahead := fun h => hn (.inr h)
  have hq : s.seen < q := by rcases Int.lt_or_le s.seen q with h | h; exact h; exact absurd (.inl h) hn
  have hall : ∀ x ∈ insS s.ahead i q, s.seen < x ∧ x ≤ s.seen + 64 ∧ x ≤ 9007199254740992 := fun x hx => by
    rcases (mem_ins _ _ _ _).1 hx with h | rfl
    · have := hr.2.2.2 x h; omega
    · omega
  obtain ⟨h1, h2, h3, h4⟩ := cut_spec (insS s.ahead i q) s.seen (ins_rise hr.2.2.1 hi hnm) (fun x hx => (hall x hx).1)
  generalize cutS s.seen (insS s.ahead i q) = T at *
  obtain ⟨a, r⟩ := T
  simp only at h1 h2 h3 h4 ⊢
  have hb := hr.2.1
  have ha : a ≤ 9007199254740992 := by
    rcases (h4 a).1 (.inl (Int.le_refl _)) with h | h
    · omega
    · exact (hall a h).2.2
  have hrr : RightS ⟨s.next, a, r⟩ := by
    refine ⟨hr.1, ⟨by show 0 ≤ a; omega, ha⟩, h2, fun n hn => ?_⟩
    have g1 := h3 n hn
    rcases (h4 n).1 (.inr hn) with h | h
    · omega
    · have := hall n h
      exact ⟨g1, by show n ≤ a + 64; omega, this.2.2⟩
  refine came_ext (took_right hr hM hf hn) hrr rfl (fun n => ?_)
  rw [took_came hr hf hn n]
  show (n ≤ s.seen ∨ n ∈ s.ahead) ∨ n = q ↔ n ≤ a ∨ n ∈ r
  rw [h4 n, mem_ins]
  constructor
  · rintro ((h | h) | h)
    · exact .inl h
    · exact .inr (.inl h)
    · exact .inr (.inr h)
  · rintro (h | h | h)
    · exact .inl (.inl h)
    · exact .inl (.inr h)
    · exact .inr h
theorem cut_no {a : Int} {l : List Int} (h : l.length = 0) : cutS a l = (a, []) := by
  have : l = [] := List.eq_nil_of_length_eq_zero h
  subst this; rfl
theorem cut_go {a : Int} {l : List Int} {j : Nat} (hj : j < l.length) (h : l.getD j 0 = a + 1) : cutS a (l.drop j) = cutS (a + 1) (l.drop (j + 1)) := by
  rw [List.drop_eq_getElem_cons hj, cutS, if_pos (by rw [← h, List.getD_eq_getElem?_getD, List.getElem?_eq_getElem hj]; rfl)]
theorem cut_stop {a : Int} {l : List Int} {j : Nat} (hj : j < l.length) (h : l.getD j 0 ≠ a + 1) : cutS a (l.drop j) = (a, l.drop j) := by
  rw [List.drop_eq_getElem_cons hj, cutS, if_neg (by intro e; apply h; rw [List.getD_eq_getElem?_getD, List.getElem?_eq_getElem hj]; exact e)]
end Go.Proofs.Ytcifcpggiifjeaa
