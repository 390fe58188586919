import Derived.Test.YtgckoihangccbaaGMath
import Derived.Laws.Strings
/-
  Plain mathematics of tables (stage 12): what ops are, what they do and are replied; a table as what its keys have. Nothing of the program is named here.
-/
namespace Go.Proofs.Ytgckoihangccbaa
set_option linter.unusedVariables false

/-- Texts byte by byte. -/
def ltB (a b : ByteArray) : Bool := Go.Op.bytesLess a.toList b.toList
theorem bl_irr : ∀ l : List UInt8, Go.Op.bytesLess l l = false
  | [] => rfl
  | a :: l => by simp [Go.Op.bytesLess, bl_irr l]
theorem bl_trans : ∀ a b c : List UInt8, Go.Op.bytesLess a b = true → Go.Op.bytesLess b c = true → Go.Op.bytesLess a c = true
  | _, [], _, h, _ => by cases ‹List UInt8› <;> simp [Go.Op.bytesLess] at h
  | _, _ :: _, [], _, h => by simp [Go.Op.bytesLess] at h
  | [], _ :: _, _ :: _, _, _ => rfl
  | x :: a, y :: b, z :: c, h, k => by
    simp only [Go.Op.bytesLess, Bool.or_eq_true, Bool.and_eq_true, decide_eq_true_eq, beq_iff_eq] at h k ⊢
    rcases h with h | ⟨rfl, h⟩ <;> rcases k with k | ⟨rfl, k⟩
    · exact .inl (UInt8.lt_trans h k)
    · exact .inl h
    · exact .inl k
    · exact .inr ⟨rfl, bl_trans a b c h k⟩
theorem bl_tri : ∀ a b : List UInt8, Go.Op.bytesLess a b = false → Go.Op.bytesLess b a = false → a = b
  | [], [], _, _ => rfl
  | [], _ :: _, h, _ => by simp [Go.Op.bytesLess] at h
  | _ :: _, [], _, h => by simp [Go.Op.bytesLess] at h
  | x :: a, y :: b, h, k => by
    simp only [Go.Op.bytesLess, Bool.or_eq_false_iff, Bool.and_eq_false_iff, decide_eq_false_iff_not, beq_eq_false_iff_ne, ne_eq] at h k
    have hxy : x = y := by
      have h1 := h.1; have k1 := k.1
      rw [UInt8.lt_iff_toNat_lt] at h1 k1
      exact UInt8.toNat_inj.1 (by omega)
    subst hxy
    rw [bl_tri a b (by have := h.2; simpa using this) (by have := k.2; simpa using this)]
theorem lt_irr (a : ByteArray) : ltB a a = false := bl_irr _
theorem lt_trans {a b c : ByteArray} (h : ltB a b = true) (k : ltB b c = true) : ltB a c = true := bl_trans _ _ _ h k
theorem tl_data (s : ByteArray) : s.toList = s.data.toList := by
  obtain ⟨⟨l⟩⟩ := s
  exact ByteArray.toList_mk l
theorem bax {a b : ByteArray} (h : a.toList = b.toList) : a = b := by
  rw [tl_data, tl_data] at h
  cases a; cases b
  exact congrArg ByteArray.mk (Array.toList_inj.1 h)
theorem lt_tri {a b : ByteArray} (h : ltB a b = false) (k : ltB b a = false) : a = b := bax (bl_tri _ _ h k)
theorem lt_asym {a b : ByteArray} (h : ltB a b = true) : ltB b a = false := by
  cases k : ltB b a
  · rfl
  · have := lt_trans h k; rw [lt_irr] at this; cases this
theorem lt_ne {a b : ByteArray} (h : ltB a b = true) : a ≠ b := fun e => by rw [e, lt_irr] at h; cases h

/-- An op; a reply. -/
structure OpR where
  kind : Int
  key : ByteArray
  value : ByteArray
  rev : Int
  upto : ByteArray
  life : Int
  note : ByteArray
structure RepR where
  errno : Nat
  rev : Int
  value : ByteArray
  keys : List ByteArray
def maxN : Int := 9007199254740992
/-- L2. -/
def BadO (v : Int) (o : OpR) : Prop := ¬ (v = 1 ∨ v = 2) ∨ o.kind < 1 ∨ o.kind > 6 ∨ o.key.size > 16 ∨ (o.key.size = 0 ∧ o.kind ≠ 6) ∨ o.value.size > 200 ∨ o.upto.size > 16 ∨ o.note.size > 40 ∨ o.rev < 0 ∨ o.rev > maxN ∨ o.life < 0 ∨ o.life > maxN
instance (v : Int) (o : OpR) : Decidable (BadO v o) := by unfold BadO; infer_instance
def checkO (v : Int) (o : OpR) : Nat := if BadO v o then 1 else if v = 1 ∧ o.kind = 5 then 22 else 0
def writesO (o : OpR) : Bool := decide (2 ≤ o.kind) && decide (o.kind ≤ 5)
/-- L1. -/
def Rise (t : List Rcd) : Prop := t.Pairwise fun a b => ltB a.key b.key = true
def RightT (t : List Rcd) : Prop := (∀ r ∈ t, rightR 2 r = true) ∧ Rise t ∧ t.length ≤ 20
noncomputable instance (t : List Rcd) : Decidable (RightT t) := Classical.propDecidable _
noncomputable def rightT (t : List Rcd) : Bool := decide (RightT t)
theorem rightT_iff {t : List Rcd} : rightT t = true ↔ RightT t := by unfold rightT; simp
theorem rightT_no {t : List Rcd} (h : ¬ RightT t) : rightT t = false := by unfold rightT; simpa using h
/-- A key's place; what it has. -/
def idxT (t : List Rcd) (k : ByteArray) : Option Nat := t.findIdx? fun r => decide (r.key = k)
def lookT (t : List Rcd) (k : ByteArray) : Option Rcd := t.find? fun r => decide (r.key = k)
/-- A record more, in its place. -/
def insT : List Rcd → Rcd → List Rcd
  | [], r => [r]
  | x :: l, r => if ltB r.key x.key then r :: x :: l else x :: insT l r
def faultR (e : Nat) : RepR := ⟨e, 0, ByteArray.empty, []⟩
def newR (o : OpR) : Rcd := ⟨o.key, o.value, 1, 0, ByteArray.empty, []⟩
def putR (r : Rcd) (o : OpR) : Rcd := { r with value := o.value, rev := r.rev + 1 }
def markR (r : Rcd) (o : OpR) : Rcd := { r with life := o.life, note := o.note, rev := r.rev + 1 }
def atR (t : List Rcd) (i : Nat) : Rcd := t.getD i zeroR
def putT (t : List Rcd) (k : Option Nat) (o : OpR) : List Rcd × RepR :=
  match k with
  | none => if 20 ≤ t.length then (t, faultR 50) else (insT t (newR o), ⟨0, 1, ByteArray.empty, []⟩)
  | some i => if (atR t i).rev = maxN then (t, faultR 50) else (t.set i (putR (atR t i) o), ⟨0, (atR t i).rev + 1, ByteArray.empty, []⟩)
/-- May a scan tell a key? -/
def inScan (o : OpR) (k : ByteArray) : Bool := !ltB k o.key && (decide (o.upto.size = 0) || ltB k o.upto)
def scanT (t : List Rcd) (o : OpR) : List ByteArray := ((t.filter fun r => inScan o r.key).take 5).map (·.key)
def revT (t : List Rcd) (k : Option Nat) : Int := match k with | none => 0 | some i => (atR t i).rev
/-- L3. -/
noncomputable def doT (t : List Rcd) (o : OpR) : List Rcd × RepR :=
  if ¬ (RightT t ∧ checkO 2 o = 0) then (t, faultR 1)
  else if o.kind = 6 then (t, ⟨0, 0, ByteArray.empty, scanT t o⟩)
  else if o.kind = 2 then putT t (idxT t o.key) o
  else if o.kind = 4 then (if revT t (idxT t o.key) ≠ o.rev then (t, ⟨71, revT t (idxT t o.key), ByteArray.empty, []⟩) else putT t (idxT t o.key) o)
  else match idxT t o.key with
    | none => (t, faultR 70)
    | some i =>
      if o.kind = 1 then (t, ⟨0, (atR t i).rev, (atR t i).value, []⟩)
      else if o.kind = 3 then (t.eraseIdx i, ⟨0, (atR t i).rev, ByteArray.empty, []⟩)
      else if (atR t i).rev = maxN then (t, faultR 50)
      else (t.set i (markR (atR t i) o), ⟨0, (atR t i).rev + 1, ByteArray.empty, []⟩)

/-! ### Places -/
theorem atR_get {t : List Rcd} {i : Nat} (h : i < t.length) : atR t i = t[i] := by unfold atR; rw [List.getD_eq_getElem?_getD, List.getElem?_eq_getElem h]; rfl
theorem atR_mem {t : List Rcd} {i : Nat} (h : i < t.length) : atR t i ∈ t := by rw [atR_get h]; exact List.getElem_mem _
theorem take_succR {t : List Rcd} {k : Nat} (h : k < t.length) : t.take (k + 1) = t.take k ++ [atR t k] := by rw [List.take_succ_eq_append_getElem h, atR_get h]
theorem split_R {t : List Rcd} {k : Nat} (h : k < t.length) : t = t.take k ++ (atR t k :: t.drop (k + 1)) := by
  rw [atR_get h, List.getElem_cons_drop, List.take_append_drop]
theorem idx_some {t : List Rcd} {k : ByteArray} {i : Nat} (h : idxT t k = some i) : i < t.length ∧ (atR t i).key = k := by
  unfold idxT at h
  rw [List.findIdx?_eq_some_iff_getElem] at h
  obtain ⟨hi, hk, _⟩ := h
  rw [atR_get hi]
  exact ⟨hi, by simpa using hk⟩
theorem idx_none {t : List Rcd} {k : ByteArray} (h : idxT t k = none) : ∀ r ∈ t, r.key ≠ k := by
  unfold idxT at h
  rw [List.findIdx?_eq_none_iff] at h
  intro r hr
  simpa using h r hr
theorem rise_lt {t : List Rcd} (h : Rise t) {i j : Nat} (hij : i < j) (hj : j < t.length) : ltB (atR t i).key (atR t j).key = true := by
  rw [atR_get (by omega), atR_get hj]
  exact List.pairwise_iff_getElem.1 h i j (by omega) hj hij
theorem rise_inj {t : List Rcd} (h : Rise t) {i j : Nat} (hi : i < t.length) (hj : j < t.length) (e : (atR t i).key = (atR t j).key) : i = j := by
  rcases Nat.lt_trichotomy i j with l | l | l
  · exact absurd e (lt_ne (rise_lt h l hj))
  · exact l
  · exact absurd e.symm (lt_ne (rise_lt h l hi))
theorem look_mem {t : List Rcd} {k : ByteArray} {r : Rcd} (h : lookT t k = some r) : r ∈ t ∧ r.key = k := by
  unfold lookT at h
  exact ⟨List.mem_of_find?_eq_some h, by have := List.find?_some h; simpa using this⟩
theorem look_none {t : List Rcd} {k : ByteArray} : lookT t k = none ↔ ∀ r ∈ t, r.key ≠ k := by
  unfold lookT
  rw [List.find?_eq_none]
  simp
theorem look_of_mem {t : List Rcd} (h : Rise t) {r : Rcd} (hr : r ∈ t) : lookT t r.key = some r := by
  cases e : lookT t r.key with
  | none => exact absurd rfl (look_none.1 e r hr)
  | some x =>
    obtain ⟨hx, hk⟩ := look_mem e
    obtain ⟨i, hi, rfl⟩ := List.getElem_of_mem hr
    obtain ⟨j, hj, rfl⟩ := List.getElem_of_mem hx
    have := rise_inj h hj hi (by rw [atR_get hj, atR_get hi]; exact hk)
    subst this; rfl
theorem look_idx {t : List Rcd} {k : ByteArray} (h : Rise t) : lookT t k = (idxT t k).map (atR t) := by
  cases e : idxT t k with
  | none => exact look_none.2 (idx_none e)
  | some i =>
    obtain ⟨hi, hk⟩ := idx_some e
    have := look_of_mem h (atR_mem hi)
    rw [hk] at this
    exact this
/-- Tables whose keys have the same are the same. -/
theorem look_ext : ∀ {t u : List Rcd}, Rise t → Rise u → (∀ k, lookT t k = lookT u k) → t = u
  | [], [], _, _, _ => rfl
  | [], x :: u, _, hu, h => by
    have := h x.key
    rw [look_of_mem hu (List.mem_cons_self ..)] at this
    simp [lookT] at this
  | x :: t, [], ht, _, h => by
    have := h x.key
    rw [look_of_mem ht (List.mem_cons_self ..)] at this
    simp [lookT] at this
  | x :: t, y :: u, ht, hu, h => by
    have htp := List.pairwise_cons.1 ht
    have hup := List.pairwise_cons.1 hu
    have hx := h x.key
    have hy := h y.key
    rw [look_of_mem ht (List.mem_cons_self ..)] at hx
    rw [look_of_mem hu (List.mem_cons_self ..)] at hy
    have hxy : x = y := by
      obtain ⟨m1, e1⟩ := look_mem hx.symm
      obtain ⟨m2, e2⟩ := look_mem hy
      rcases List.mem_cons.1 m1 with r | m1
      · exact r
      · rcases List.mem_cons.1 m2 with r | m2
        · exact r.symm
        · have a1 := hup.1 _ m1
          have a2 := htp.1 _ m2
          rw [lt_asym a1] at a2; cases a2
    subst hxy
    have : t = u := look_ext htp.2 hup.2 (fun k => by
      have hk := h k
      unfold lookT at hk ⊢
      rw [List.find?_cons, List.find?_cons] at hk
      by_cases e : x.key = k
      · have n1 : lookT t k = none := look_none.2 (fun r hr e2 => by have := htp.1 r hr; rw [e, e2, lt_irr] at this; cases this)
        have n2 : lookT u k = none := look_none.2 (fun r hr e2 => by have := hup.1 r hr; rw [e, e2, lt_irr] at this; cases this)
        exact n1.trans n2.symm
      · simp only [e, decide_false] at hk
        exact hk)
    rw [this]
end Go.Proofs.Ytgckoihangccbaa


/-
  Plain mathematics of tables (stage 12): an op changes what its key has, and nothing else.
-/
namespace Go.Proofs.Ytgckoihangccbaa
set_option linter.unusedVariables false

theorem check_ok {v : Int} {o : OpR} (h : checkO v o = 0) : ¬ BadO v o ∧ ¬ (v = 1 ∧ o.kind = 5) := by
  unfold checkO at h
  by_cases hb : BadO v o
  · rw [if_pos hb] at h; cases h
  · rw [if_neg hb] at h
    refine ⟨hb, fun h2 => ?_⟩
    rw [if_pos h2] at h; cases h
theorem op_ok {o : OpR} (h : checkO 2 o = 0) : (1 ≤ o.kind ∧ o.kind ≤ 6) ∧ o.key.size ≤ 16 ∧ (o.kind ≠ 6 → 1 ≤ o.key.size) ∧ o.value.size ≤ 200 ∧ o.note.size ≤ 40 ∧ (0 ≤ o.rev ∧ o.rev ≤ maxN) ∧ (0 ≤ o.life ∧ o.life ≤ maxN) := by
  have hb := (check_ok h).1
  unfold BadO at hb
  simp only [not_or] at hb
  obtain ⟨_, h2, h3, h4, h5, h6, _, h8, h9, h10, h11, h12⟩ := hb
  refine ⟨⟨by omega, by omega⟩, by omega, fun hk => ?_, by omega, by omega, ⟨by omega, by omega⟩, by omega, by omega⟩
  rcases Nat.eq_zero_or_pos o.key.size with e | e
  · exact absurd ⟨e, hk⟩ h5
  · exact e
theorem RightT.rise {t : List Rcd} (h : RightT t) : Rise t := h.2.1
theorem RightT.at {t : List Rcd} (h : RightT t) {r : Rcd} (hr : r ∈ t) : RightP 2 r := rightR_iff.1 (h.1 r hr)
theorem right_nil : RightT [] := ⟨(fun r h => nomatch h), List.Pairwise.nil, by simp⟩
/-! ### What each change does -/
theorem ins_mem {t : List Rcd} {r x : Rcd} : x ∈ insT t r ↔ x = r ∨ x ∈ t := by
  induction t with
  | nil => simp [insT]
  | cons y l ih =>
    unfold insT
    split
    · simp
    · simp only [List.mem_cons, ih]
      constructor
      · rintro (h | h | h)
        · exact .inr (.inl h)
        · exact .inl h
        · exact .inr (.inr h)
      · rintro (h | h | h)
        · exact .inr (.inl h)
        · exact .inl h
        · exact .inr (.inr h)
theorem ins_len (t : List Rcd) (r : Rcd) : (insT t r).length = t.length + 1 := by
  induction t with
  | nil => rfl
  | cons y l ih => unfold insT; split <;> simp [ih]
theorem ins_rise {t : List Rcd} {r : Rcd} (h : Rise t) (hn : ∀ x ∈ t, x.key ≠ r.key) : Rise (insT t r) := by
  induction t with
  | nil => exact List.pairwise_singleton _ _
  | cons y l ih =>
    have hp := List.pairwise_cons.1 h
    unfold insT
    split
    · rename_i hlt
      refine List.pairwise_cons.2 ⟨fun x hx => ?_, h⟩
      rcases List.mem_cons.1 hx with rfl | hx
      · exact hlt
      · exact lt_trans hlt (hp.1 x hx)
    · rename_i hlt
      refine List.pairwise_cons.2 ⟨fun x hx => ?_, ih hp.2 (fun x hx => hn x (List.mem_cons_of_mem _ hx))⟩
      rcases ins_mem.1 hx with rfl | hx
      · cases e : ltB y.key x.key with
        | true => rfl
        | false => exact absurd (lt_tri e (by simpa using hlt)) (hn y (List.mem_cons_self ..))
      · exact hp.1 x hx
theorem look_is {t : List Rcd} (h : Rise t) {k : ByteArray} {r : Rcd} : lookT t k = some r ↔ r ∈ t ∧ r.key = k :=
  ⟨look_mem, fun ⟨h1, h2⟩ => by rw [← h2]; exact look_of_mem h h1⟩
theorem look_eq {t u : List Rcd} (ht : Rise t) (hu : Rise u) {k : ByteArray} (h : ∀ r, (r ∈ t ∧ r.key = k) ↔ (r ∈ u ∧ r.key = k)) : lookT t k = lookT u k := by
  cases e : lookT t k with
  | none =>
    symm
    refine look_none.2 fun r hr hk => look_none.1 e r ((h r).2 ⟨hr, hk⟩).1 hk
  | some r => exact ((look_is hu).2 ((h r).1 ((look_is ht).1 e))).symm
theorem ins_look {t : List Rcd} {r : Rcd} (h : Rise t) (hn : ∀ x ∈ t, x.key ≠ r.key) (k : ByteArray) : lookT (insT t r) k = if k = r.key then some r else lookT t k := by
  have hi := ins_rise h hn
  by_cases e : k = r.key
  · rw [if_pos e]; exact (look_is hi).2 ⟨ins_mem.2 (.inl rfl), e.symm⟩
  · rw [if_neg e]
    refine look_eq hi h fun x => ?_
    rw [ins_mem]
    constructor
    · rintro ⟨rfl | hx, hk⟩
      · exact absurd hk.symm e
      · exact ⟨hx, hk⟩
    · rintro ⟨hx, hk⟩; exact ⟨.inr hx, hk⟩
theorem atR_set {t : List Rcd} {i j : Nat} {r : Rcd} (hj : j < t.length) : atR (t.set i r) j = if i = j then r else atR t j := by
  rw [atR_get (by simpa using hj), List.getElem_set]
  split
  · rfl
  · rw [atR_get hj]
theorem set_rise {t : List Rcd} {i : Nat} {r : Rcd} (h : Rise t) (hi : i < t.length) (hk : r.key = (atR t i).key) : Rise (t.set i r) := by
  refine List.pairwise_iff_getElem.2 fun a b ha hb hab => ?_
  simp only [List.length_set] at ha hb
  have key : ∀ j, (hj : j < t.length) → (atR (t.set i r) j).key = (atR t j).key := fun j hj => by
    rw [atR_set hj]
    split
    · rename_i e; rw [hk, e]
    · rfl
  have := rise_lt h hab hb
  rw [← key a ha, ← key b hb, atR_get (by simpa using ha), atR_get (by simpa using hb)] at this
  exact this
theorem set_mem {t : List Rcd} {i : Nat} {r x : Rcd} (h : Rise t) (hi : i < t.length) : x ∈ t.set i r ↔ x = r ∨ (x ∈ t ∧ x.key ≠ (atR t i).key) := by
  constructor
  · intro hx
    obtain ⟨j, hj, rfl⟩ := List.getElem_of_mem hx
    simp only [List.length_set] at hj
    have := atR_get (t := t.set i r) (i := j) (by simpa using hj)
    rw [← this, atR_set hj]
    split
    · exact .inl rfl
    · rename_i e
      exact .inr ⟨atR_mem hj, fun e2 => e (rise_inj h hi hj e2.symm)⟩
  · rintro (rfl | ⟨hx, hk⟩)
    · have : (t.set i x)[i]'(by simpa using hi) = x := List.getElem_set_self _
      exact List.mem_iff_getElem.2 ⟨i, by simpa using hi, this⟩
    · obtain ⟨j, hj, rfl⟩ := List.getElem_of_mem hx
      have hne : i ≠ j := fun e => by subst e; rw [atR_get hi] at hk; exact hk rfl
      have : (t.set i r)[j]'(by simpa using hj) = t[j] := List.getElem_set_ne hne _
      rw [← this]; exact List.getElem_mem _
theorem set_look {t : List Rcd} {i : Nat} {r : Rcd} (h : Rise t) (hi : i < t.length) (hk : r.key = (atR t i).key) (k : ByteArray) : lookT (t.set i r) k = if k = r.key then some r else lookT t k := by
  have hs := set_rise h hi hk
  by_cases e : k = r.key
  · rw [if_pos e]; exact (look_is hs).2 ⟨(set_mem h hi).2 (.inl rfl), e.symm⟩
  · rw [if_neg e]
    refine look_eq hs h fun x => ?_
    rw [set_mem h hi]
    constructor
    · rintro ⟨rfl | ⟨hx, _⟩, hk2⟩
      · exact absurd hk2.symm e
      · exact ⟨hx, hk2⟩
    · rintro ⟨hx, hk2⟩; exact ⟨.inr ⟨hx, fun e2 => e (by rw [hk, ← e2, hk2])⟩, hk2⟩
theorem erase_rise {t : List Rcd} (i : Nat) (h : Rise t) : Rise (t.eraseIdx i) := List.Pairwise.sublist (List.eraseIdx_sublist t i) h
theorem erase_mem {t : List Rcd} {i : Nat} {x : Rcd} (h : Rise t) (hi : i < t.length) : x ∈ t.eraseIdx i ↔ x ∈ t ∧ x.key ≠ (atR t i).key := by
  rw [List.mem_eraseIdx_iff_getElem]
  constructor
  · rintro ⟨j, hj, hne, rfl⟩
    exact ⟨List.getElem_mem _, fun e => hne (rise_inj h hj hi (by rw [atR_get hj]; exact e))⟩
  · rintro ⟨hx, hk⟩
    obtain ⟨j, hj, rfl⟩ := List.getElem_of_mem hx
    exact ⟨j, hj, fun e => by subst e; rw [atR_get hj] at hk; exact hk rfl, rfl⟩
theorem erase_look {t : List Rcd} {i : Nat} (h : Rise t) (hi : i < t.length) (k : ByteArray) : lookT (t.eraseIdx i) k = if k = (atR t i).key then none else lookT t k := by
  by_cases e : k = (atR t i).key
  · rw [if_pos e]
    exact look_none.2 fun r hr hk => ((erase_mem h hi).1 hr).2 (by rw [hk, e])
  · rw [if_neg e]
    refine look_eq (erase_rise i h) h fun x => ?_
    rw [erase_mem h hi]
    constructor
    · rintro ⟨⟨hx, _⟩, hk⟩; exact ⟨hx, hk⟩
    · rintro ⟨hx, hk⟩; exact ⟨⟨hx, fun e2 => e (by rw [← e2, hk])⟩, hk⟩
/-! ### Records that come out may be -/
theorem right_put {r : Rcd} {o : OpR} (h : RightP 2 r) (hc : checkO 2 o = 0) (hm : r.rev ≠ maxN) : RightP 2 (putR r o) := by
  obtain ⟨h1, h2, h3, h4, h5, h6⟩ := h
  have hop := op_ok hc
  refine ⟨h1, h2, hop.2.2.2.1, ⟨by simp only [putR]; omega, ?_⟩, h5, h6⟩
  unfold maxN at hm
  simp only [putR]
  omega
theorem right_mark {r : Rcd} {o : OpR} (h : RightP 2 r) (hc : checkO 2 o = 0) (hm : r.rev ≠ maxN) : RightP 2 (markR r o) := by
  obtain ⟨h1, h2, h3, h4, h5, h6⟩ := h
  have hop := op_ok hc
  refine ⟨h1, h2, h3, ⟨by simp only [markR]; omega, ?_⟩, ?_, h6⟩
  · unfold maxN at hm
    simp only [markR]
    omega
  · rw [laterB_two]
    have := hop.2.2.2.2.2.2
    unfold maxN at this
    exact ⟨this.1, this.2, hop.2.2.2.2.1⟩
theorem extra_nil (v : Int) : extraB v [] = true := by rw [extraB_iff]; exact ⟨by decide, by decide, fun i hi => by cases hi⟩
theorem right_new {o : OpR} (hc : checkO 2 o = 0) (hk : o.kind ≠ 6) : RightP 2 (newR o) := by
  have hop := op_ok hc
  exact ⟨.inr rfl, ⟨hop.2.2.1 hk, hop.2.1⟩, hop.2.2.2.1, by simp [newR], by rw [laterB_two]; simp only [newR]; exact ⟨by omega, by omega, by decide⟩, extra_nil 2⟩
theorem right_ins {t : List Rcd} {r : Rcd} (h : RightT t) (hn : ∀ x ∈ t, x.key ≠ r.key) (hr : RightP 2 r) (hl : t.length ≤ 19) : RightT (insT t r) :=
  ⟨fun x hx => by rcases ins_mem.1 hx with rfl | hx; exact rightR_iff.2 hr; exact h.1 x hx, ins_rise h.2.1 hn, by rw [ins_len]; omega⟩
theorem right_set {t : List Rcd} {i : Nat} {r : Rcd} (h : RightT t) (hi : i < t.length) (hk : r.key = (atR t i).key) (hr : RightP 2 r) : RightT (t.set i r) :=
  ⟨fun x hx => by rcases (set_mem h.2.1 hi).1 hx with rfl | hx; exact rightR_iff.2 hr; exact h.1 x hx.1, set_rise h.2.1 hi hk, by rw [List.length_set]; exact h.2.2⟩
theorem right_erase {t : List Rcd} (i : Nat) (h : RightT t) : RightT (t.eraseIdx i) :=
  ⟨fun x hx => h.1 x (List.mem_of_mem_eraseIdx hx), erase_rise i h.2.1, Nat.le_trans (by rw [List.length_eraseIdx]; split <;> omega) h.2.2⟩
/-! ### An op by what its key has -/
def revF (x : Option Rcd) : Int := match x with | none => 0 | some r => r.rev
def putF (x : Option Rcd) (o : OpR) : Option Rcd × RepR :=
  match x with
  | none => (some (newR o), ⟨0, 1, ByteArray.empty, []⟩)
  | some r => if r.rev = maxN then (some r, faultR 50) else (some (putR r o), ⟨0, r.rev + 1, ByteArray.empty, []⟩)
/-- What the key has behind the op, and the reply. -/
def keyF (x : Option Rcd) (o : OpR) : Option Rcd × RepR :=
  if o.kind = 2 then putF x o
  else if o.kind = 4 then (if revF x ≠ o.rev then (x, ⟨71, revF x, ByteArray.empty, []⟩) else putF x o)
  else match x with
    | none => (none, faultR 70)
    | some r =>
      if o.kind = 1 then (some r, ⟨0, r.rev, r.value, []⟩)
      else if o.kind = 3 then (none, ⟨0, r.rev, ByteArray.empty, []⟩)
      else if r.rev = maxN then (some r, faultR 50)
      else (some (markR r o), ⟨0, r.rev + 1, ByteArray.empty, []⟩)
/-- What comes out, key by key. -/
def Eff (t u : List Rcd) (k : ByteArray) (x : Option Rcd) : Prop := RightT u ∧ u.length ≤ t.length + 1 ∧ ∀ q, lookT u q = if q = k then x else lookT t q
theorem eff_same {t : List Rcd} (h : RightT t) (k : ByteArray) : Eff t t k (lookT t k) := ⟨h, by omega, fun q => by split; rename_i e; rw [e]; rfl⟩
theorem rev_look {t : List Rcd} (h : Rise t) (k : ByteArray) : revT t (idxT t k) = revF (lookT t k) := by
  rw [look_idx h]
  cases idxT t k <;> rfl
theorem put_eff {t : List Rcd} {o : OpR} (h : RightT t) (hc : checkO 2 o = 0) (hk : o.kind ≠ 6) (hl : t.length ≤ 19 ∨ lookT t o.key ≠ none) :
    (putT t (idxT t o.key) o).2 = (putF (lookT t o.key) o).2 ∧ Eff t (putT t (idxT t o.key) o).1 o.key (putF (lookT t o.key) o).1 := by
  have hlk := look_idx (k := o.key) h.2.1
  cases e : idxT t o.key with
  | none =>
    rw [e] at hlk
    simp only [Option.map_none] at hlk
    rw [hlk] at hl ⊢
    have hn : ∀ x ∈ t, x.key ≠ (newR o).key := idx_none e
    have hl2 : t.length ≤ 19 := by rcases hl with h | h; exact h; exact absurd rfl h
    have e1 : putT t none o = (insT t (newR o), ⟨0, 1, ByteArray.empty, []⟩) := if_neg (by omega)
    rw [e1]
    exact ⟨rfl, right_ins h hn (right_new hc hk) hl2, by rw [ins_len]; exact Nat.le_refl _, fun q => ins_look h.2.1 hn q⟩
  | some i =>
    rw [e] at hlk
    simp only [Option.map_some] at hlk
    obtain ⟨hi, hkey⟩ := idx_some e
    rw [hlk]
    unfold putT putF
    simp only
    by_cases hm : (atR t i).rev = maxN
    · rw [if_pos hm, if_pos hm]
      have := eff_same h o.key
      rw [hlk] at this
      exact ⟨rfl, this⟩
    · rw [if_neg hm, if_neg hm]
      refine ⟨rfl, right_set h hi rfl (right_put (h.at (atR_mem hi)) hc hm), by rw [List.length_set]; omega, fun q => ?_⟩
      have := set_look (r := putR (atR t i) o) h.2.1 hi rfl q
      rw [show (putR (atR t i) o).key = o.key from hkey] at this
      exact this
theorem do_eff {t : List Rcd} {o : OpR} (h : RightT t) (hc : checkO 2 o = 0) (hk : o.kind ≠ 6) (hl : t.length ≤ 19 ∨ lookT t o.key ≠ none ∨ ¬ (o.kind = 2 ∨ o.kind = 4)) :
    (doT t o).2 = (keyF (lookT t o.key) o).2 ∧ Eff t (doT t o).1 o.key (keyF (lookT t o.key) o).1 := by
  unfold doT keyF
  rw [if_neg (fun e => e ⟨h, hc⟩), if_neg hk]
  by_cases h2 : o.kind = 2
  · rw [if_pos h2, if_pos h2]
    exact put_eff h hc hk (by rcases hl with h | h | h; exact .inl h; exact .inr h; exact absurd (.inl h2) h)
  rw [if_neg h2, if_neg h2]
  by_cases h4 : o.kind = 4
  · rw [if_pos h4, if_pos h4, rev_look h.2.1]
    by_cases hr : revF (lookT t o.key) ≠ o.rev
    · rw [if_pos hr, if_pos hr]; exact ⟨rfl, eff_same h o.key⟩
    · rw [if_neg hr, if_neg hr]
      exact put_eff h hc hk (by rcases hl with h | h | h; exact .inl h; exact .inr h; exact absurd (.inr h4) h)
  rw [if_neg h4, if_neg h4]
  have hlk := look_idx (k := o.key) h.2.1
  have hsame := eff_same h o.key
  cases e : idxT t o.key with
  | none =>
    rw [e] at hlk
    simp only [Option.map_none] at hlk
    rw [hlk] at hsame ⊢
    exact ⟨rfl, hsame⟩
  | some i =>
    rw [e] at hlk
    simp only [Option.map_some] at hlk
    obtain ⟨hi, hkey⟩ := idx_some e
    rw [hlk] at hsame ⊢
    simp only
    by_cases h1 : o.kind = 1
    · rw [if_pos h1, if_pos h1]; exact ⟨rfl, hsame⟩
    rw [if_neg h1, if_neg h1]
    by_cases h3 : o.kind = 3
    · rw [if_pos h3, if_pos h3]
      refine ⟨rfl, right_erase i h, by rw [List.length_eraseIdx]; split <;> omega, fun q => ?_⟩
      have := erase_look h.2.1 hi q
      rw [hkey] at this
      exact this
    rw [if_neg h3, if_neg h3]
    by_cases hm : (atR t i).rev = maxN
    · rw [if_pos hm, if_pos hm]; exact ⟨rfl, hsame⟩
    · rw [if_neg hm, if_neg hm]
      refine ⟨rfl, right_set h hi rfl (right_mark (h.at (atR_mem hi)) hc hm), by rw [List.length_set]; omega, fun q => ?_⟩
      have := set_look (r := markR (atR t i) o) h.2.1 hi rfl q
      rw [show (markR (atR t i) o).key = o.key from hkey] at this
      exact this
/-- Whatever op: what comes out may be. -/
theorem do_right {t : List Rcd} (h : RightT t) (o : OpR) : RightT (doT t o).1 := by
  by_cases hc : checkO 2 o = 0
  · by_cases hk : o.kind = 6
    · unfold doT; rw [if_neg (fun e => e ⟨h, hc⟩), if_pos hk]; exact h
    · by_cases hl : t.length ≤ 19 ∨ lookT t o.key ≠ none ∨ ¬ (o.kind = 2 ∨ o.kind = 4)
      · exact (do_eff h hc hk hl).2.1
      · have h1 : ¬ t.length ≤ 19 := fun e => hl (.inl e)
        have h2 : lookT t o.key = none := Classical.byContradiction fun e => hl (.inr (.inl e))
        have h3 : o.kind = 2 ∨ o.kind = 4 := Classical.byContradiction fun e => hl (.inr (.inr e))
        have e : idxT t o.key = none := by
          have := look_idx (k := o.key) h.2.1
          rw [h2] at this
          cases e : idxT t o.key with
          | none => rfl
          | some i => rw [e] at this; cases this
        have ep : (putT t none o).1 = t := by unfold putT; simp only; rw [if_pos (by omega)]
        unfold doT
        rw [if_neg (fun e => e ⟨h, hc⟩), if_neg hk, e]
        rcases h3 with h3 | h3
        · rw [if_pos h3, ep]; exact h
        · rw [if_neg (by omega), if_pos h3]
          split
          · exact h
          · rw [ep]; exact h
  · unfold doT; rw [if_pos (fun e => hc e.2)]; exact h
end Go.Proofs.Ytgckoihangccbaa

