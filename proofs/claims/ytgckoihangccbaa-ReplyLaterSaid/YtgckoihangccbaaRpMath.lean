import Derived.Test.YtgckoihangccbaaGTab
/-
  Plain mathematics of caches of replies (stage 13): what may be, what is told, what is kept; a cache as what its clients have. Nothing of the program is named here.
-/
namespace Go.Proofs.Ytgckoihangccbaa
set_option linter.unusedVariables false

/-- A client's last call. -/
structure DnR where
  client : Int
  id : Int
  rep : RepR
def zeroP13 : RepR := ⟨0, 0, ByteArray.empty, []⟩
def zeroD : DnR := ⟨0, 0, zeroP13⟩
/-- M1. -/
def MayP (r : RepR) : Prop := (∀ k ∈ r.keys, k.size ≤ 16) ∧ (0 ≤ r.rev ∧ r.rev ≤ maxN) ∧ r.value.size ≤ 200 ∧ r.keys.length ≤ 5 ∧ r.errno ≤ 255
instance (r : RepR) : Decidable (MayP r) := by unfold MayP; infer_instance
def mayRB (r : RepR) : Bool := decide (MayP r)
def RiseD (l : List DnR) : Prop := l.Pairwise fun a b => a.client < b.client
def GoodC (c i : Int) : Prop := (1 ≤ c ∧ c ≤ 1000) ∧ 1 ≤ i ∧ i ≤ maxN
instance (c i : Int) : Decidable (GoodC c i) := by unfold GoodC; infer_instance
def RightD (l : List DnR) : Prop := (∀ d ∈ l, MayP d.rep ∧ GoodC d.client d.id) ∧ RiseD l ∧ l.length ≤ 8
noncomputable instance (l : List DnR) : Decidable (RightD l) := Classical.propDecidable _
noncomputable def rightD (l : List DnR) : Bool := decide (RightD l)
theorem rightD_iff {l : List DnR} : rightD l = true ↔ RightD l := by unfold rightD; simp
theorem rightD_no {l : List DnR} (h : ¬ RightD l) : rightD l = false := by unfold rightD; simpa using h
/-- What a client has. -/
def lookD (l : List DnR) (c : Int) : Option DnR := l.find? fun d => decide (d.client = c)
def atD (l : List DnR) (i : Nat) : DnR := l.getD i zeroD
/-- M2: of a client's last call. -/
def tellD (x : Option DnR) (i : Int) : RepR × Nat := match x with
  | none => (zeroP13, 70)
  | some d => if d.id < i then (zeroP13, 70) else if i < d.id then (zeroP13, 81) else (d.rep, 0)
noncomputable def lookL (l : List DnR) (c i : Int) : RepR × Nat := if ¬ (RightD l ∧ GoodC c i) then (zeroP13, 1) else tellD (lookD l c) i
/-- A client's call more, in its place. -/
def insD : List DnR → DnR → List DnR
  | [], d => [d]
  | x :: l, d => if d.client < x.client then d :: x :: l else x :: insD l d
def restD (l : List DnR) (c : Int) : List DnR := l.filter fun d => decide (d.client ≠ c)
def putD (l : List DnR) (c i : Int) (r : RepR) : List DnR := insD (restD l c) ⟨c, i, r⟩
/-- M3. -/
noncomputable def keepL (l : List DnR) (c i : Int) (r : RepR) : List DnR × Nat :=
  if (lookL l c i).2 = 1 ∨ (lookL l c i).2 = 0 ∨ ¬ MayP r then ([], 1)
  else if (lookL l c i).2 = 81 then ([], 81)
  else if 8 < (putD l c i r).length then ([], 50)
  else (putD l c i r, 0)

theorem atD_get {l : List DnR} {i : Nat} (h : i < l.length) : atD l i = l[i] := by unfold atD; rw [List.getD_eq_getElem?_getD, List.getElem?_eq_getElem h]; rfl
theorem atD_mem {l : List DnR} {i : Nat} (h : i < l.length) : atD l i ∈ l := by rw [atD_get h]; exact List.getElem_mem _
theorem take_succD {l : List DnR} {k : Nat} (h : k < l.length) : l.take (k + 1) = l.take k ++ [atD l k] := by rw [List.take_succ_eq_append_getElem h, atD_get h]
theorem lookD_mem {l : List DnR} {c : Int} {d : DnR} (h : lookD l c = some d) : d ∈ l ∧ d.client = c := by
  unfold lookD at h
  exact ⟨List.mem_of_find?_eq_some h, by have := List.find?_some h; simpa using this⟩
theorem lookD_none {l : List DnR} {c : Int} : lookD l c = none ↔ ∀ d ∈ l, d.client ≠ c := by
  unfold lookD
  rw [List.find?_eq_none]
  simp
theorem riseD_lt {l : List DnR} (h : RiseD l) {i j : Nat} (hij : i < j) (hj : j < l.length) : (atD l i).client < (atD l j).client := by
  rw [atD_get (by omega), atD_get hj]
  exact List.pairwise_iff_getElem.1 h i j (by omega) hj hij
theorem lookD_of_mem {l : List DnR} (h : RiseD l) {d : DnR} (hd : d ∈ l) : lookD l d.client = some d := by
  cases e : lookD l d.client with
  | none => exact absurd rfl (lookD_none.1 e d hd)
  | some x =>
    obtain ⟨hx, hk⟩ := lookD_mem e
    obtain ⟨i, hi, rfl⟩ := List.getElem_of_mem hd
    obtain ⟨j, hj, rfl⟩ := List.getElem_of_mem hx
    have key : i = j := by
      rcases Nat.lt_trichotomy i j with l1 | l1 | l1
      · have := List.pairwise_iff_getElem.1 h i j hi hj l1; omega
      · exact l1
      · have := List.pairwise_iff_getElem.1 h j i hj hi l1; omega
    subst key; rfl
theorem lookD_is {l : List DnR} (h : RiseD l) {c : Int} {d : DnR} : lookD l c = some d ↔ d ∈ l ∧ d.client = c :=
  ⟨lookD_mem, fun ⟨h1, h2⟩ => by rw [← h2]; exact lookD_of_mem h h1⟩
theorem lookD_eq {l m : List DnR} (hl : RiseD l) (hm : RiseD m) {c : Int} (h : ∀ d, (d ∈ l ∧ d.client = c) ↔ (d ∈ m ∧ d.client = c)) : lookD l c = lookD m c := by
  cases e : lookD l c with
  | none =>
    symm
    exact lookD_none.2 fun d hd hk => lookD_none.1 e d ((h d).2 ⟨hd, hk⟩).1 hk
  | some d => exact ((lookD_is hm).2 ((h d).1 ((lookD_is hl).1 e))).symm
theorem insD_mem {l : List DnR} {d x : DnR} : x ∈ insD l d ↔ x = d ∨ x ∈ l := by
  induction l with
  | nil => simp [insD]
  | cons y l ih =>
    unfold insD
    split
    · simp
    · simp only [List.mem_cons, ih]
      constructor
      · rintro (h | h | h)
        · exact .inr (.inl h)
        · exact .inl h
        · exact .inr (.inr h)
      · rintro (h | h | h)
        · exact .inr (.inl h)
        · exact .inl h
        · exact .inr (.inr h)
theorem insD_len (l : List DnR) (d : DnR) : (insD l d).length = l.length + 1 := by
  induction l with
  | nil => rfl
  | cons y l ih => unfold insD; split <;> simp [ih]
theorem insD_rise {l : List DnR} {d : DnR} (h : RiseD l) (hn : ∀ x ∈ l, x.client ≠ d.client) : RiseD (insD l d) := by
  induction l with
  | nil => exact List.pairwise_singleton _ _
  | cons y l ih =>
    have hp := List.pairwise_cons.1 h
    unfold insD
    split
    · rename_i hlt
      refine List.pairwise_cons.2 ⟨fun x hx => ?_, h⟩
      rcases List.mem_cons.1 hx with rfl | hx
      · exact hlt
      · have := hp.1 x hx; omega
    · rename_i hlt
      refine List.pairwise_cons.2 ⟨fun x hx => ?_, ih hp.2 (fun x hx => hn x (List.mem_cons_of_mem _ hx))⟩
      rcases insD_mem.1 hx with rfl | hx
      · have := hn y (List.mem_cons_self ..); omega
      · exact hp.1 x hx
theorem restD_mem {l : List DnR} {c : Int} {d : DnR} : d ∈ restD l c ↔ d ∈ l ∧ d.client ≠ c := by unfold restD; simp
theorem restD_rise {l : List DnR} (c : Int) (h : RiseD l) : RiseD (restD l c) := List.Pairwise.sublist List.filter_sublist h
theorem putD_mem {l : List DnR} {c i : Int} {r : RepR} {d : DnR} : d ∈ putD l c i r ↔ d = ⟨c, i, r⟩ ∨ (d ∈ l ∧ d.client ≠ c) := by unfold putD; rw [insD_mem, restD_mem]
theorem putD_rise {l : List DnR} (c i : Int) (r : RepR) (h : RiseD l) : RiseD (putD l c i r) := insD_rise (restD_rise c h) (fun x hx => (restD_mem.1 hx).2)
theorem putD_look {l : List DnR} {c i : Int} {r : RepR} (h : RiseD l) (q : Int) : lookD (putD l c i r) q = if q = c then some ⟨c, i, r⟩ else lookD l q := by
  by_cases e : q = c
  · rw [if_pos e]; exact (lookD_is (putD_rise c i r h)).2 ⟨putD_mem.2 (.inl rfl), e.symm⟩
  · rw [if_neg e]
    refine lookD_eq (putD_rise c i r h) h fun d => ?_
    rw [putD_mem]
    constructor
    · rintro ⟨rfl | hd, hk⟩
      · exact absurd hk.symm e
      · exact ⟨hd.1, hk⟩
    · rintro ⟨hd, hk⟩; exact ⟨.inr ⟨hd, by rw [hk]; exact e⟩, hk⟩
theorem restD_no {l : List DnR} {c : Int} (h : lookD l c = none) : restD l c = l := by
  unfold restD
  exact List.filter_eq_self.2 fun d hd => by simpa using lookD_none.1 h d hd
theorem restD_yes {l : List DnR} {c : Int} (hr : RiseD l) {d : DnR} (h : lookD l c = some d) : (restD l c).length + 1 = l.length := by
  induction l with
  | nil => cases h
  | cons x l ih =>
    have hp := List.pairwise_cons.1 hr
    by_cases e : x.client = c
    · have hn : restD l c = l := restD_no (lookD_none.2 fun y hy hk => by have := hp.1 y hy; omega)
      unfold restD at hn ⊢
      rw [List.filter_cons_of_neg (by simpa using e), hn]; rfl
    · have h2 : lookD l c = some d := by
        unfold lookD at h ⊢
        rw [List.find?_cons] at h
        simpa [e] using h
      have := ih hp.2 h2
      unfold restD at this ⊢
      rw [List.filter_cons_of_pos (by simpa using e), List.length_cons, List.length_cons, this]
theorem putD_len {l : List DnR} (c i : Int) (r : RepR) (h : RiseD l) : (putD l c i r).length = if lookD l c = none then l.length + 1 else l.length := by
  unfold putD
  rw [insD_len]
  cases e : lookD l c with
  | none => rw [if_pos rfl, restD_no e]
  | some d => rw [if_neg (by simp)]; exact restD_yes h e
/-- Caches whose clients have the same are the same. -/
theorem lookD_ext : ∀ {l m : List DnR}, RiseD l → RiseD m → (∀ c, lookD l c = lookD m c) → l = m
  | [], [], _, _, _ => rfl
  | [], x :: m, _, hm, h => by
    have := h x.client
    rw [lookD_of_mem hm (List.mem_cons_self ..)] at this
    simp [lookD] at this
  | x :: l, [], hl, _, h => by
    have := h x.client
    rw [lookD_of_mem hl (List.mem_cons_self ..)] at this
    simp [lookD] at this
  | x :: l, y :: m, hl, hm, h => by
    have hlp := List.pairwise_cons.1 hl
    have hmp := List.pairwise_cons.1 hm
    have hx := h x.client
    have hy := h y.client
    rw [lookD_of_mem hl (List.mem_cons_self ..)] at hx
    rw [lookD_of_mem hm (List.mem_cons_self ..)] at hy
    have hxy : x = y := by
      obtain ⟨m1, e1⟩ := lookD_mem hx.symm
      obtain ⟨m2, e2⟩ := lookD_mem hy
      rcases List.mem_cons.1 m1 with r | m1
      · exact r
      · rcases List.mem_cons.1 m2 with r | m2
        · exact r.symm
        · have a1 := hmp.1 _ m1
          have a2 := hlp.1 _ m2
          omega
    subst hxy
    have : l = m := lookD_ext hlp.2 hmp.2 (fun c => by
      have hk := h c
      unfold lookD at hk ⊢
      rw [List.find?_cons, List.find?_cons] at hk
      by_cases e : x.client = c
      · have n1 : lookD l c = none := lookD_none.2 (fun r hr e2 => by have := hlp.1 r hr; omega)
        have n2 : lookD m c = none := lookD_none.2 (fun r hr e2 => by have := hmp.1 r hr; omega)
        exact n1.trans n2.symm
      · simp only [e, decide_false] at hk
        exact hk)
    rw [this]
/-- What Keep does, client by client. -/
def EffD (l u : List DnR) (c i : Int) (r : RepR) : Prop := RightD u ∧ (∀ q, lookD u q = if q = c then some ⟨c, i, r⟩ else lookD l q) ∧ u.length = if lookD l c = none then l.length + 1 else l.length
theorem keep_new {l : List DnR} {c i : Int} {r : RepR} (h : RightD l) (hg : GoodC c i) (hm : MayP r) (hl : ∀ d, lookD l c = some d → d.id < i) :
    (l.length = 8 ∧ lookD l c = none ∧ keepL l c i r = ([], 50)) ∨ ((l.length ≤ 7 ∨ lookD l c ≠ none) ∧ (keepL l c i r).2 = 0 ∧ EffD l (keepL l c i r).1 c i r) := by
  have hk : (lookL l c i).2 = 70 := by
    unfold lookL tellD
    rw [if_neg (fun e => e ⟨h, hg⟩)]
    cases e : lookD l c with
    | none => rfl
    | some d => simp only; rw [if_pos (hl d e)]
  have hlen := putD_len c i r h.2.1
  unfold keepL
  rw [hk, if_neg (by rintro (e | e | e); cases e; cases e; exact e hm), if_neg (by decide)]
  by_cases h8 : 8 < (putD l c i r).length
  · rw [if_pos h8]
    left
    have := h.2.2
    split at hlen
    · rename_i e; exact ⟨by omega, e, rfl⟩
    · omega
  · rw [if_neg h8]
    right
    refine ⟨?_, rfl, ⟨fun d hd => ?_, putD_rise c i r h.2.1, by show (putD l c i r).length ≤ 8; omega⟩, putD_look h.2.1, hlen⟩
    · split at hlen
      · left; omega
      · rename_i e; exact .inr e
    · rcases putD_mem.1 hd with rfl | hd
      · exact ⟨hm, hg⟩
      · exact h.1 d hd.1
theorem keep_old {l : List DnR} {c i : Int} {r : RepR} {d : DnR} (h : RightD l) (hg : GoodC c i) (hd : lookD l c = some d) (hi : i ≤ d.id) (hm : MayP r) :
    keepL l c i r = ([], if i = d.id then 1 else 81) := by
  have hk : (lookL l c i).2 = if i = d.id then 0 else 81 := by
    unfold lookL tellD
    rw [if_neg (fun e => e ⟨h, hg⟩), hd]
    simp only
    rw [if_neg (by omega)]
    by_cases e : i = d.id
    · rw [if_neg (by omega), if_pos e]
    · rw [if_pos (by omega), if_neg e]
  unfold keepL
  rw [hk]
  by_cases e : i = d.id
  · rw [if_pos e, if_pos e, if_pos (.inr (.inl rfl))]
  · rw [if_neg e, if_neg e, if_neg (by rintro (e | e | e); cases e; cases e; exact e hm), if_pos rfl]
theorem look_tell {l : List DnR} {c i : Int} (h : RightD l) (hg : GoodC c i) : lookL l c i = tellD (lookD l c) i := by unfold lookL; rw [if_neg (fun e => e ⟨h, hg⟩)]
theorem rightD_nil : RightD [] := ⟨(fun d h => nomatch h), List.Pairwise.nil, by simp⟩
end Go.Proofs.Ytgckoihangccbaa
