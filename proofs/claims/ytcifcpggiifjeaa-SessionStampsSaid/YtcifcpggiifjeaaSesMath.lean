/-
  Plain mathematics of sessions (stage 10): what may be, what came, what a number that comes makes of it. Nothing of the program is named here.
-/
namespace Go.Proofs.Ytcifcpggiifjeaa

structure Sn where
  next : Int
  seen : Int
  ahead : List Int
def zeroS : Sn := ⟨0, 0, []⟩
def newS : Sn := ⟨1, 0, []⟩
/-- J1. -/
def RightS (s : Sn) : Prop := (1 ≤ s.next ∧ s.next ≤ 9007199254740992) ∧ (0 ≤ s.seen ∧ s.seen ≤ 9007199254740992) ∧ s.ahead.Pairwise (· < ·) ∧ ∀ n ∈ s.ahead, s.seen + 1 < n ∧ n ≤ s.seen + 64 ∧ n ≤ 9007199254740992
instance (s : Sn) : Decidable (RightS s) := by unfold RightS; infer_instance
def rightS (s : Sn) : Bool := decide (RightS s)
theorem rightS_iff {s : Sn} : rightS s = true ↔ RightS s := by unfold rightS; simp
theorem rightS_no {s : Sn} (h : ¬ RightS s) : rightS s = false := by unfold rightS; simpa using h
theorem new_right : RightS newS := by decide
theorem rise_len : ∀ (l : List Int) (a b : Int), a ≤ b → l.Pairwise (· < ·) → (∀ n ∈ l, a < n ∧ n ≤ b) → (l.length : Int) ≤ b - a
  | [], a, b, h, _, _ => by simp; omega
  | x :: l, a, b, h, hp, hm => by
    have h1 := hm x List.mem_cons_self
    have h2 := rise_len l x b h1.2 (List.pairwise_cons.1 hp).2 (fun n hn => ⟨(List.pairwise_cons.1 hp).1 n hn, (hm n (List.mem_cons_of_mem _ hn)).2⟩)
    rw [List.length_cons]
    omega
theorem RightS.len {s : Sn} (h : RightS s) : s.ahead.length ≤ 63 := by
  have := rise_len s.ahead (s.seen + 1) (s.seen + 64) (by omega) h.2.2.1 (fun n hn => ⟨(h.2.2.2 n hn).1, (h.2.2.2 n hn).2.1⟩)
  omega
/-- What came. -/
def came (s : Sn) (n : Int) : Prop := n ≤ s.seen ∨ n ∈ s.ahead
instance (s : Sn) (n : Int) : Decidable (came s n) := by unfold came; infer_instance
/-- As far as all is there. -/
def advS (l : List Int) : Nat → Int → Int
  | 0, a => a
  | f + 1, a => if a + 1 ∈ l then advS l f (a + 1) else a
theorem adv_spec (l : List Int) : ∀ (f : Nat) (a : Int), a ≤ advS l f a ∧ advS l f a ≤ a + f ∧ (∀ n, a < n → n ≤ advS l f a → n ∈ l) ∧ (advS l f a < a + f → advS l f a + 1 ∉ l) := by
  intro f
  induction f with
  | zero => intro a; exact ⟨Int.le_refl _, by simp [advS], fun n h1 h2 => by simp [advS] at h2; omega, fun h => by simp [advS] at h⟩
  | succ f ih =>
    intro a
    unfold advS
    split
    · rename_i h
      obtain ⟨h1, h2, h3, h4⟩ := ih (a + 1)
      refine ⟨by omega, by rw [Int.natCast_succ]; omega, fun n g1 g2 => ?_, fun g => h4 (by rw [Int.natCast_succ] at g; omega)⟩
      rcases (by omega : n = a + 1 ∨ a + 1 < n) with rfl | h5
      · exact h
      · exact h3 n h5 g2
    · rename_i h
      exact ⟨Int.le_refl _, by rw [Int.natCast_succ]; omega, fun n h1 h2 => by omega, fun _ => h⟩
/-- What becomes of a session when a new number comes. -/
def allS (s : Sn) (q : Int) : List Int := s.ahead ++ [q]
def restS (l : List Int) (a b : Int) (k : Nat) : List Int := ((List.range k).map fun i : Nat => b + 1 + (i : Int)).filter fun n => decide (a < n) && decide (n ∈ l)
def tookS (s : Sn) (q : Int) : Sn := ⟨s.next, advS (allS s q) 65 s.seen, restS (allS s q) (advS (allS s q) 65 s.seen) s.seen 64⟩
/-- J3. -/
def takeS (s : Sn) (q : Int) : Sn × Bool × Nat :=
  if ¬ RightS s ∨ q < 1 ∨ 9007199254740992 < q then (s, false, 1) else if s.seen + 64 < q then (s, false, 60) else if q ≤ s.seen ∨ q ∈ s.ahead then (s, false, 0) else (tookS s q, true, 0)
/-- J2. -/
def stampS (s : Sn) : Sn × Int × Nat := if ¬ RightS s then (s, 0, 1) else if s.next = 9007199254740992 then (s, 0, 50) else (⟨s.next + 1, s.seen, s.ahead⟩, s.next, 0)
theorem mem_rest {l : List Int} {a b : Int} {k : Nat} {n : Int} : n ∈ restS l a b k ↔ (b < n ∧ n ≤ b + k) ∧ a < n ∧ n ∈ l := by
  unfold restS
  rw [List.mem_filter, List.mem_map]
  simp only [List.mem_range, Bool.and_eq_true, decide_eq_true_eq]
  constructor
  · rintro ⟨⟨i, hi, rfl⟩, h1, h2⟩; exact ⟨by omega, h1, h2⟩
  · rintro ⟨⟨h1, h2⟩, h3, h4⟩; exact ⟨⟨(n - b - 1).toNat, by omega, by omega⟩, h3, h4⟩
theorem rest_snoc (l : List Int) (a b : Int) (k : Nat) : restS l a b (k + 1) = restS l a b k ++ (if a < b + 1 + (k : Int) ∧ b + 1 + (k : Int) ∈ l then [b + 1 + (k : Int)] else []) := by
  unfold restS
  rw [List.range_succ, List.map_append, List.filter_append]
  congr 1
  simp only [List.map_cons, List.map_nil, List.filter_cons, List.filter_nil, Bool.and_eq_true, decide_eq_true_eq]
theorem rest_none {l : List Int} {a b : Int} {k : Nat} (h : b + k ≤ a) : restS l a b k = [] := by
  refine List.eq_nil_iff_forall_not_mem.2 fun n hn => ?_
  have := mem_rest.1 hn
  omega
theorem adv_step {l : List Int} {f : Nat} {a : Int} (h : a + 1 ∈ l) : advS l (f + 1) a = advS l f (a + 1) := by rw [advS, if_pos h]
theorem adv_stop {l : List Int} {f : Nat} {a : Int} (h : a + 1 ∉ l) : advS l (f + 1) a = a := by rw [advS, if_neg h]
theorem rest_rise (l : List Int) (a b : Int) (k : Nat) : (restS l a b k).Pairwise (· < ·) := by
  unfold restS
  refine List.Pairwise.filter _ (List.Pairwise.map _ ?_ (List.pairwise_lt_range))
  intro x y h; omega
theorem took_adv {s : Sn} {q : Int} (hr : RightS s) (hf : q ≤ s.seen + 64) (hn : ¬ came s q) :
    s.seen ≤ (tookS s q).seen ∧ (∀ n, s.seen < n → n ≤ (tookS s q).seen → n ∈ allS s q) ∧ (tookS s q).seen + 1 ∉ allS s q := by
  have hq : s.seen < q := by unfold came at hn; omega
  obtain ⟨h1, h2, h3, h4⟩ := adv_spec (allS s q) 65 s.seen
  have hb : ∀ n ∈ allS s q, s.seen < n ∧ n ≤ s.seen + 64 := by
    intro n hm
    unfold allS at hm
    rw [List.mem_append, List.mem_singleton] at hm
    rcases hm with hm | rfl
    · have := hr.2.2.2 n hm; omega
    · omega
  refine ⟨h1, h3, ?_⟩
  show advS (allS s q) 65 s.seen + 1 ∉ allS s q
  by_cases h : advS (allS s q) 65 s.seen < s.seen + 65
  · exact h4 h
  · intro h5
    have := hb _ h5
    omega
theorem took_came {s : Sn} {q : Int} (hr : RightS s) (hf : q ≤ s.seen + 64) (hn : ¬ came s q) (n : Int) : came (tookS s q) n ↔ came s n ∨ n = q := by
  obtain ⟨h1, h2, h3⟩ := took_adv hr hf hn
  have hq : s.seen < q := by unfold came at hn; omega
  have hmem : n ∈ allS s q ↔ n ∈ s.ahead ∨ n = q := by unfold allS; rw [List.mem_append, List.mem_singleton]
  have hin : n ∈ (tookS s q).ahead ↔ (s.seen < n ∧ n ≤ s.seen + 64) ∧ (tookS s q).seen < n ∧ n ∈ allS s q := mem_rest
  unfold came
  rw [hin]
  constructor
  · rintro (h | ⟨_, _, h⟩)
    · by_cases h4 : n ≤ s.seen
      · exact .inl (.inl h4)
      · rcases hmem.1 (h2 n (by omega) h) with h5 | h5
        · exact .inl (.inr h5)
        · exact .inr h5
    · rcases hmem.1 h with h5 | h5
      · exact .inl (.inr h5)
      · exact .inr h5
  · rintro ((h | h) | rfl)
    · exact .inl (by omega)
    · by_cases h4 : n ≤ (tookS s q).seen
      · exact .inl h4
      · have := hr.2.2.2 n h
        exact .inr ⟨by omega, by omega, hmem.2 (.inl h)⟩
    · by_cases h4 : n ≤ (tookS s n).seen
      · exact .inl h4
      · exact .inr ⟨by omega, by omega, hmem.2 (.inr rfl)⟩
theorem took_right {s : Sn} {q : Int} (hr : RightS s) (hM : q ≤ 9007199254740992) (hf : q ≤ s.seen + 64) (hn : ¬ came s q) : RightS (tookS s q) := by
  obtain ⟨h1, h2, h3⟩ := took_adv hr hf hn
  have hall : ∀ n ∈ allS s q, n ≤ 9007199254740992 := by
    intro n hm
    unfold allS at hm
    rw [List.mem_append, List.mem_singleton] at hm
    rcases hm with hm | rfl
    · exact (hr.2.2.2 n hm).2.2
    · exact hM
  refine ⟨hr.1, ⟨by have := hr.2.1; omega, ?_⟩, rest_rise _ _ _ _, fun n hm => ?_⟩
  · by_cases h : s.seen < (tookS s q).seen
    · exact hall _ (h2 _ h (Int.le_refl _))
    · have := hr.2.1; omega
  · obtain ⟨h4, h5, h6⟩ := mem_rest.1 hm
    have : n ≠ (tookS s q).seen + 1 := fun e => h3 (e ▸ h6)
    exact ⟨by show (tookS s q).seen + 1 < n; have : (tookS s q).seen < n := h5; omega, by show n ≤ (tookS s q).seen + 64; omega, hall n h6⟩
theorem took_next (s : Sn) (q : Int) : (tookS s q).next = s.next := rfl
/-- Rising lists with the same members are the same. -/
theorem rise_ext : ∀ (a b : List Int), a.Pairwise (· < ·) → b.Pairwise (· < ·) → (∀ n, n ∈ a ↔ n ∈ b) → a = b
  | [], [], _, _, _ => rfl
  | [], y :: b, _, _, h => by have := (h y).2 List.mem_cons_self; cases this
  | x :: a, [], _, _, h => by have := (h x).1 List.mem_cons_self; cases this
  | x :: a, y :: b, ha, hb, h => by
    obtain ⟨a1, a2⟩ := List.pairwise_cons.1 ha
    obtain ⟨b1, b2⟩ := List.pairwise_cons.1 hb
    have hxy : x = y := by
      have h1 := (h x).1 List.mem_cons_self
      have h2 := (h y).2 List.mem_cons_self
      rcases List.mem_cons.1 h1 with e | e
      · exact e
      · rcases List.mem_cons.1 h2 with e2 | e2
        · exact e2.symm
        · have := b1 x e; have := a1 y e2; omega
    subst hxy
    rw [rise_ext a b a2 b2 (fun n => ?_)]
    constructor
    · intro hn
      rcases List.mem_cons.1 ((h n).1 (List.mem_cons_of_mem _ hn)) with e | e
      · have := a1 n hn; omega
      · exact e
    · intro hn
      rcases List.mem_cons.1 ((h n).2 (List.mem_cons_of_mem _ hn)) with e | e
      · have := b1 n hn; omega
      · exact e
/-- What came says what a session is. -/
theorem came_ext {a b : Sn} (ha : RightS a) (hb : RightS b) (hn : a.next = b.next) (h : ∀ n, came a n ↔ came b n) : a = b := by
  have key : ∀ {a b : Sn}, RightS a → RightS b → (∀ n, came a n ↔ came b n) → b.seen ≤ a.seen := by
    intro a b ha hb h
    refine Int.not_lt.1 fun hlt => ?_
    have h1 := (h (a.seen + 1)).2 (.inl (by omega))
    rcases h1 with h1 | h1
    · omega
    · have := (ha.2.2.2 _ h1).1; omega
  have h1 : a.seen = b.seen := by
    have := key ha hb h
    have := key hb ha (fun n => (h n).symm)
    omega
  have h2 : a.ahead = b.ahead := by
    refine rise_ext _ _ ha.2.2.1 hb.2.2.1 fun n => ?_
    have hc := h n
    unfold came at hc
    constructor
    · intro hm
      have := (ha.2.2.2 n hm).1
      rcases hc.1 (.inr hm) with e | e
      · omega
      · exact e
    · intro hm
      have := (hb.2.2.2 n hm).1
      rcases hc.2 (.inr hm) with e | e
      · omega
      · exact e
  cases a; cases b; simp_all
theorem takeS_new {s : Sn} {q : Int} (hr : RightS s) (h1 : 1 ≤ q) (hM : q ≤ 9007199254740992) (hf : q ≤ s.seen + 64) (hn : ¬ came s q) : takeS s q = (tookS s q, true, 0) := by
  unfold takeS
  rw [if_neg (by rintro (h | h | h); exact h hr; omega; omega), if_neg (by omega), if_neg (by unfold came at hn; exact hn)]
theorem takeS_old {s : Sn} {q : Int} (hr : RightS s) (h1 : 1 ≤ q) (hM : q ≤ 9007199254740992) (hf : q ≤ s.seen + 64) (hn : came s q) : takeS s q = (s, false, 0) := by
  unfold takeS
  rw [if_neg (by rintro (h | h | h); exact h hr; omega; omega), if_neg (by omega), if_pos (by unfold came at hn; exact hn)]
theorem takeS_far {s : Sn} {q : Int} (hr : RightS s) (h1 : 1 ≤ q) (hM : q ≤ 9007199254740992) (hf : s.seen + 64 < q) : takeS s q = (s, false, 60) := by
  unfold takeS
  rw [if_neg (by rintro (h | h | h); exact h hr; omega; omega), if_pos hf]
theorem takeS_arg {s : Sn} {q : Int} (h : ¬ RightS s ∨ q < 1 ∨ 9007199254740992 < q) : takeS s q = (s, false, 1) := by unfold takeS; rw [if_pos h]
/-- Behind a call: what there is may be, if it might be ahead; what came. -/
theorem takeS_right {s : Sn} (q : Int) (hr : RightS s) : RightS (takeS s q).1 ∧ (takeS s q).1.next = s.next := by
  unfold takeS
  split
  · exact ⟨hr, rfl⟩
  · rename_i h1
    split
    · exact ⟨hr, rfl⟩
    · split
      · exact ⟨hr, rfl⟩
      · rename_i h2 h3
        exact ⟨took_right hr (by omega) (by omega) (by unfold came; exact h3), rfl⟩
theorem takeS_came {s : Sn} {q : Int} (hr : RightS s) (h1 : 1 ≤ q) (hM : q ≤ 9007199254740992) (hf : q ≤ s.seen + 64) (n : Int) : came (takeS s q).1 n ↔ came s n ∨ n = q := by
  by_cases hc : came s q
  · rw [takeS_old hr h1 hM hf hc]
    constructor
    · exact .inl
    · rintro (h | rfl); exact h; exact hc
  · rw [takeS_new hr h1 hM hf hc]
    exact took_came hr hf hc n
/-- Rising, one by one. -/
def lastS (a : Int) (l : List Int) (k : Nat) : Int := if k = 0 then a else l.getD (k - 1) 0
theorem rise_adj : ∀ (l : List Int) (a : Int), (l.Pairwise (· < ·) ∧ ∀ n ∈ l, a < n) ↔ ∀ k, k < l.length → lastS a l k < l.getD k 0
  | [], a => by simp
  | x :: l, a => by
    have ih := rise_adj l x
    constructor
    · rintro ⟨h1, h2⟩ k hk
      cases k with
      | zero => exact h2 x List.mem_cons_self
      | succ k =>
        have h3 := ih.1 ⟨(List.pairwise_cons.1 h1).2, (List.pairwise_cons.1 h1).1⟩ k (by simpa using hk)
        have e : lastS a (x :: l) (k + 1) = lastS x l k := by
          unfold lastS
          cases k with
          | zero => rfl
          | succ k => rfl
        rw [e]
        exact h3
    · intro h
      have h0 := h 0 (by simp)
      have h3 : ∀ k, k < l.length → lastS x l k < l.getD k 0 := by
        intro k hk
        have h4 := h (k + 1) (by simpa using hk)
        have e : lastS a (x :: l) (k + 1) = lastS x l k := by
          unfold lastS
          cases k with
          | zero => rfl
          | succ k => rfl
        rw [e] at h4
        exact h4
      obtain ⟨g1, g2⟩ := ih.2 h3
      have hx : a < x := h0
      refine ⟨List.pairwise_cons.2 ⟨g2, g1⟩, fun n hn => ?_⟩
      rcases List.mem_cons.1 hn with rfl | hn
      · exact hx
      · have := g2 n hn; omega
def okS (s : Sn) (k : Nat) : Prop := lastS (s.seen + 1) s.ahead k < s.ahead.getD k 0 ∧ s.ahead.getD k 0 ≤ s.seen + 64 ∧ s.ahead.getD k 0 ≤ 9007199254740992
theorem mem_getD (l : List Int) (P : Int → Prop) : (∀ n ∈ l, P n) ↔ ∀ k, k < l.length → P (l.getD k 0) := by
  constructor
  · intro h k hk
    rw [List.getD_eq_getElem?_getD, List.getElem?_eq_getElem hk]
    exact h _ (List.getElem_mem _)
  · intro h n hn
    obtain ⟨k, hk, rfl⟩ := List.getElem_of_mem hn
    have := h k hk
    rw [List.getD_eq_getElem?_getD, List.getElem?_eq_getElem hk] at this
    exact this
theorem RightS_adj {s : Sn} : RightS s ↔ (1 ≤ s.next ∧ s.next ≤ 9007199254740992) ∧ (0 ≤ s.seen ∧ s.seen ≤ 9007199254740992) ∧ s.ahead.length ≤ 64 ∧ ∀ k, k < s.ahead.length → okS s k := by
  constructor
  · intro h
    have hl := h.len
    obtain ⟨h1, h2, h3, h4⟩ := h
    have h5 := (rise_adj s.ahead (s.seen + 1)).1 ⟨h3, fun n hn => (h4 n hn).1⟩
    have h6 := (mem_getD s.ahead (fun n => n ≤ s.seen + 64 ∧ n ≤ 9007199254740992)).1 (fun n hn => (h4 n hn).2)
    exact ⟨h1, h2, by omega, fun k hk => ⟨h5 k hk, h6 k hk⟩⟩
  · rintro ⟨h1, h2, h3, h4⟩
    have h5 := (rise_adj s.ahead (s.seen + 1)).2 (fun k hk => (h4 k hk).1)
    have h6 := (mem_getD s.ahead (fun n => n ≤ s.seen + 64 ∧ n ≤ 9007199254740992)).2 (fun k hk => (h4 k hk).2)
    exact ⟨h1, h2, h5.1, fun n hn => ⟨h5.2 n hn, h6 n hn⟩⟩
/-- Are two sessions the same? -/
def eqS (a b : Sn) : Bool := decide (a.next = b.next ∧ a.seen = b.seen ∧ a.ahead = b.ahead)
theorem eqS_iff {a b : Sn} : eqS a b = true ↔ a = b := by
  unfold eqS
  cases a; cases b; simp
theorem eqS_self (a : Sn) : eqS a a = true := eqS_iff.2 rfl
end Go.Proofs.Ytcifcpggiifjeaa
