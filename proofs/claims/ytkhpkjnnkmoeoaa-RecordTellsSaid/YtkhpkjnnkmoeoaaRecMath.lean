/-
  Plain mathematics of records: what may be, a record's fields, its bytes, what fields are taken for, by two versions. Nothing of the program is named here.
-/
import Derived.Test.YtkhpkjnnkmoeoaaThere
namespace Go.Proofs.Ytkhpkjnnkmoeoaa

/-- What a key has. -/
structure Rcd where
  key : ByteArray
  value : ByteArray
  rev : Int
  life : Int
  note : ByteArray
  extra : List Fld

def zeroR : Rcd := ⟨ByteArray.empty, ByteArray.empty, 0, 0, ByteArray.empty, []⟩

/-- The greatest tag that a version knows. -/
def topT (v : Int) : Int := if v = 2 then 5 else 3
theorem topT_le (v : Int) : 3 ≤ topT v ∧ topT v ≤ 5 := by unfold topT; split <;> omega
/-- Does a version know a tag? -/
def knowB (v t : Int) : Bool := decide (1 ≤ t) && decide (t ≤ topT v)
theorem knowB_iff {v t : Int} : knowB v t = true ↔ 1 ≤ t ∧ t ≤ topT v := by unfold knowB; simp
theorem knowB_no {v t : Int} : knowB v t = false ↔ ¬ (1 ≤ t ∧ t ≤ topT v) := by rw [← knowB_iff]; simp

/-- How many fields are of other tags than 4 and 5. -/
def few (l : List Fld) : Nat := (l.filter fun f => decide (f.1 ≠ 4 ∧ f.1 ≠ 5)).length
theorem few_le (l : List Fld) : few l ≤ l.length := List.length_filter_le _ _
theorem few_snoc (l : List Fld) (f : Fld) : few (l ++ [f]) = few l + (if f.1 ≠ 4 ∧ f.1 ≠ 5 then 1 else 0) := by
  unfold few; rw [List.filter_append, List.length_append]
  by_cases h : f.1 ≠ 4 ∧ f.1 ≠ 5
  · rw [if_pos h, List.filter_cons_of_pos (by simpa using h)]; simp
  · rw [if_neg h, List.filter_cons_of_neg (by simpa using h)]; simp
theorem few_append (a b : List Fld) : few (a ++ b) = few a + few b := by unfold few; rw [List.filter_append, List.length_append]
theorem few_take {fs : List Fld} {k : Nat} (h : k < fs.length) : few (fs.take (k + 1)) = few (fs.take k) + (if tg fs k ≠ 4 ∧ tg fs k ≠ 5 then 1 else 0) := by
  rw [List.take_succ_eq_append_getElem h, few_snoc, tg_at h]
theorem few_take_le {fs : List Fld} {k : Nat} : few (fs.take k) ≤ k := Nat.le_trans (few_le _) (List.length_take_le _ _)

/-- May fields be carried? -/
def extraB (v : Int) (l : List Fld) : Bool := rightB l && decide (few l ≤ 8) && (List.range l.length).all fun i => !knowB v (tg l i)
theorem extraB_iff {v : Int} {l : List Fld} : extraB v l = true ↔ rightB l = true ∧ few l ≤ 8 ∧ ∀ i, i < l.length → knowB v (tg l i) = false := by unfold extraB; simp [and_assoc]
theorem extraB_not {v : Int} {l : List Fld} (h : ¬ (rightB l = true ∧ few l ≤ 8 ∧ ∀ i, i < l.length → knowB v (tg l i) = false)) : extraB v l = false := by
  cases hr : extraB v l with
  | false => rfl
  | true => exact absurd (extraB_iff.1 hr) h

/-- May what version 2 alone knows be? -/
def LaterP (v : Int) (r : Rcd) : Prop := if v = 1 then r.life = 0 ∧ r.note.size = 0 else 0 ≤ r.life ∧ r.life ≤ 9007199254740992 ∧ r.note.size ≤ 40
instance (v : Int) (r : Rcd) : Decidable (LaterP v r) := by unfold LaterP; infer_instance
def laterB (v : Int) (r : Rcd) : Bool := decide (LaterP v r)
/-- May a record be? -/
def RightP (v : Int) (r : Rcd) : Prop := (v = 1 ∨ v = 2) ∧ (1 ≤ r.key.size ∧ r.key.size ≤ 16) ∧ r.value.size ≤ 200 ∧ (0 ≤ r.rev ∧ r.rev ≤ 9007199254740992) ∧ laterB v r = true ∧ extraB v r.extra = true
instance (v : Int) (r : Rcd) : Decidable (RightP v r) := by unfold RightP; infer_instance
def rightR (v : Int) (r : Rcd) : Bool := decide (RightP v r)
theorem rightR_iff {v : Int} {r : Rcd} : rightR v r = true ↔ RightP v r := by unfold rightR; simp
theorem rightR_no {v : Int} {r : Rcd} (h : ¬ RightP v r) : rightR v r = false := by unfold rightR; simpa using h
theorem rightR_yes {v : Int} {r : Rcd} (h : RightP v r) : rightR v r = true := rightR_iff.2 h
theorem laterB_iff {v : Int} {r : Rcd} : laterB v r = true ↔ LaterP v r := by unfold laterB; simp
theorem laterB_one {r : Rcd} : laterB 1 r = true ↔ r.life = 0 ∧ r.note.size = 0 := by rw [laterB_iff]; unfold LaterP; simp
theorem laterB_two {r : Rcd} : laterB 2 r = true ↔ 0 ≤ r.life ∧ r.life ≤ 9007199254740992 ∧ r.note.size ≤ 40 := by rw [laterB_iff]; unfold LaterP; simp

/-- A number's Data; nothing of 0. -/
def numD (n : Int) : ByteArray := if n = 0 then ByteArray.empty else ⟨(vb n.toNat).toArray⟩
/-- The fields of which some may have no Data. -/
def five (r : Rcd) : List Fld := [(1, r.key), (2, r.value), (3, numD r.rev), (4, numD r.life), (5, r.note)]
/-- Those that have Data. -/
def full (l : List Fld) : List Fld := l.filter fun f => decide (f.2.size ≠ 0)
/-- A record's fields. -/
def fieldsR (r : Rcd) : List Fld := full (five r) ++ r.extra
/-- What Encode answers. -/
def recE (v : Int) (r : Rcd) : List UInt8 × Nat := if rightR v r then encR (fieldsR r) else ([], 1)

/-- The number whose bytes a text is; 0: it is none, or that of 0. -/
def wholeN (l : List UInt8) : Nat := if (takeR l).2.2 = 0 ∧ (takeR l).2.1 = l.length then (takeR l).1 else 0
theorem wholeN_le (l : List UInt8) : wholeN l ≤ 9007199254740992 := by unfold wholeN; split; exact takeR_fst_le l; omega
/-- What a known field becomes. -/
def setR (r : Rcd) (t : Int) (d : ByteArray) : Rcd :=
  if t = 1 then { r with key := d } else if t = 2 then { r with value := d } else if t = 3 then { r with rev := wholeN d.data.toList } else if t = 4 then { r with life := wholeN d.data.toList } else { r with note := d }
/-- .. and a field. -/
def stepR (v : Int) (r : Rcd) (f : Fld) : Rcd := if knowB v f.1 then setR r f.1 f.2 else { r with extra := r.extra ++ [f] }
def accR (v : Int) (l : List Fld) : Rcd := l.foldl (stepR v) zeroR
theorem accR_take {v : Int} {fs : List Fld} {k : Nat} (h : k < fs.length) : accR v (fs.take (k + 1)) = stepR v (accR v (fs.take k)) (tg fs k, dt fs k) := by
  unfold accR; rw [List.take_succ_eq_append_getElem h, List.foldl_append, fld_at h]; rfl
/-- May a known field's Data be? (The program's way.) -/
def okD (t : Int) (d : ByteArray) : Bool :=
  if t = 1 then decide (1 ≤ d.size ∧ d.size ≤ 16) else if t = 2 then decide (1 ≤ d.size ∧ d.size ≤ 200) else if t = 3 ∨ t = 4 then decide (0 < wholeN d.data.toList) else decide (1 ≤ d.size ∧ d.size ≤ 40)
/-- (The document's own way: what is left is asked of the record.) -/
def okQ (t : Int) (d : ByteArray) : Bool := decide (1 ≤ d.size) && (if t = 3 ∨ t = 4 then decide (0 < wholeN d.data.toList) else true)
theorem okD_1 (d : ByteArray) : okD 1 d = true ↔ 1 ≤ d.size ∧ d.size ≤ 16 := by simp [okD]
theorem okD_2 (d : ByteArray) : okD 2 d = true ↔ 1 ≤ d.size ∧ d.size ≤ 200 := by simp [okD]
theorem okD_3 (d : ByteArray) : okD 3 d = true ↔ 0 < wholeN d.data.toList := by simp [okD]
theorem okD_4 (d : ByteArray) : okD 4 d = true ↔ 0 < wholeN d.data.toList := by simp [okD]
theorem okD_5 (d : ByteArray) : okD 5 d = true ↔ 1 ≤ d.size ∧ d.size ≤ 40 := by simp [okD]
theorem okQ_1 (d : ByteArray) : okQ 1 d = true ↔ 1 ≤ d.size := by simp [okQ]
theorem okQ_2 (d : ByteArray) : okQ 2 d = true ↔ 1 ≤ d.size := by simp [okQ]
theorem okQ_3 (d : ByteArray) : okQ 3 d = true ↔ 1 ≤ d.size ∧ 0 < wholeN d.data.toList := by simp [okQ]
theorem okQ_4 (d : ByteArray) : okQ 4 d = true ↔ 1 ≤ d.size ∧ 0 < wholeN d.data.toList := by simp [okQ]
theorem okQ_5 (d : ByteArray) : okQ 5 d = true ↔ 1 ≤ d.size := by simp [okQ]
def recP (v : Int) (l : List Fld) : Bool := (List.range l.length).all (fun i => !knowB v (tg l i) || okD (tg l i) (dt l i)) && decide (few (accR v l).extra ≤ 8)
def recQ (v : Int) (l : List Fld) : Bool := (List.range l.length).all (fun i => !knowB v (tg l i) || okQ (tg l i) (dt l i)) && rightR v (accR v l)
theorem recP_iff {v : Int} {l : List Fld} : recP v l = true ↔ (∀ i, i < l.length → knowB v (tg l i) = true → okD (tg l i) (dt l i) = true) ∧ few (accR v l).extra ≤ 8 := by
  unfold recP
  simp only [Bool.and_eq_true, List.all_eq_true, List.mem_range, Bool.or_eq_true, Bool.not_eq_true', decide_eq_true_eq]
  constructor
  · rintro ⟨h1, h2⟩
    refine ⟨fun i hi hk => ?_, h2⟩
    rcases h1 i hi with h | h
    · rw [hk] at h; cases h
    · exact h
  · rintro ⟨h1, h2⟩
    refine ⟨fun i hi => ?_, h2⟩
    cases hk : knowB v (tg l i) with
    | false => exact .inl rfl
    | true => exact .inr (h1 i hi hk)
theorem recQ_iff {v : Int} {l : List Fld} : recQ v l = true ↔ (∀ i, i < l.length → knowB v (tg l i) = true → okQ (tg l i) (dt l i) = true) ∧ rightR v (accR v l) = true := by
  unfold recQ
  simp only [Bool.and_eq_true, List.all_eq_true, List.mem_range, Bool.or_eq_true, Bool.not_eq_true']
  constructor
  · rintro ⟨h1, h2⟩
    refine ⟨fun i hi hk => ?_, h2⟩
    rcases h1 i hi with h | h
    · rw [hk] at h; cases h
    · exact h
  · rintro ⟨h1, h2⟩
    refine ⟨fun i hi => ?_, h2⟩
    cases hk : knowB v (tg l i) with
    | false => exact .inl rfl
    | true => exact .inr (h1 i hi hk)
theorem recP_no {v : Int} {l : List Fld} (h : ¬ ((∀ i, i < l.length → knowB v (tg l i) = true → okD (tg l i) (dt l i) = true) ∧ few (accR v l).extra ≤ 8)) : recP v l = false := by
  cases hr : recP v l with
  | false => rfl
  | true => exact absurd (recP_iff.1 hr) h
theorem recQ_no {v : Int} {l : List Fld} (h : ¬ ((∀ i, i < l.length → knowB v (tg l i) = true → okQ (tg l i) (dt l i) = true) ∧ rightR v (accR v l) = true)) : recQ v l = false := by
  cases hr : recQ v l with
  | false => rfl
  | true => exact absurd (recQ_iff.1 hr) h

/-- What Decode answers: the record, the error. -/
def recD (v : Int) (s : List UInt8) : Rcd × Nat :=
  if ¬ (v = 1 ∨ v = 2) then (zeroR, 1)
  else if (decR s).2 ≠ 0 then (zeroR, (decR s).2)
  else if (findR (decR s).1 1).2 = false then (zeroR, 20)
  else if recP v (decR s).1 = false then (zeroR, 21)
  else (accR v (decR s).1, 0)

/-! ### fields, by their tags -/
theorem all_mem {l : List Fld} {P : Int → ByteArray → Prop} : (∀ i, i < l.length → P (tg l i) (dt l i)) ↔ ∀ f ∈ l, P f.1 f.2 := by
  constructor
  · intro h f hf
    obtain ⟨i, hi, rfl⟩ := List.mem_iff_getElem.1 hf
    have := h i hi
    rwa [tg_at hi, dt_at hi] at this
  · intro h i hi
    rw [tg_at hi, dt_at hi]
    exact h _ (List.getElem_mem _)
/-- A field that may not be there. -/
def opt (t : Int) (o : Option ByteArray) : List Fld := match o with | none => [] | some d => [(t, d)]
def gd (o : Option ByteArray) : ByteArray := o.getD ByteArray.empty
theorem mem_opt {t : Int} {o : Option ByteArray} {f : Fld} : f ∈ opt t o ↔ o = some f.2 ∧ f.1 = t := by
  cases o with
  | none => simp [opt]
  | some d =>
    simp only [opt, List.mem_singleton, Option.some.injEq]
    constructor
    · rintro rfl; exact ⟨rfl, rfl⟩
    · rintro ⟨h1, h2⟩; subst h1 h2; rfl
theorem peel {a : Int} {l : List Fld} (h : chain a l) : ∃ o l', l = opt (a + 1) o ++ l' ∧ chain (a + 1) l' := by
  cases l with
  | nil => exact ⟨none, [], rfl, trivial⟩
  | cons f l =>
    obtain ⟨t, d⟩ := f
    simp only [chain] at h
    by_cases he : t = a + 1
    · subst he; exact ⟨some d, l, rfl, h.2⟩
    · exact ⟨none, (t, d) :: l, rfl, by simp only [chain]; exact ⟨⟨by omega, h.1.2⟩, h.2⟩⟩
/-- The known ones, by their tags; and the others. -/
def parts (o1 o2 o3 o4 o5 : Option ByteArray) (E : List Fld) : List Fld := opt 1 o1 ++ (opt 2 o2 ++ (opt 3 o3 ++ (opt 4 o4 ++ (opt 5 o5 ++ E))))
theorem decomp {v : Int} (hv : v = 1 ∨ v = 2) {l : List Fld} (h : rightB l = true) : ∃ o1 o2 o3 o4 o5 E, l = parts o1 o2 o3 o4 o5 E ∧ (v = 1 → o4 = none ∧ o5 = none) ∧ chain (topT v) E ∧ E.length ≤ 64 := by
  obtain ⟨h64, h⟩ := right_chain.1 h
  obtain ⟨o1, l1, rfl, h1⟩ := peel h
  obtain ⟨o2, l2, rfl, h2⟩ := peel h1
  obtain ⟨o3, l3, rfl, h3⟩ := peel h2
  simp only [List.length_append] at h64
  rcases hv with rfl | rfl
  · exact ⟨o1, o2, o3, none, none, l3, rfl, fun _ => ⟨rfl, rfl⟩, h3, by omega⟩
  · obtain ⟨o4, l4, rfl, h4⟩ := peel h3
    obtain ⟨o5, l5, rfl, h5⟩ := peel h4
    simp only [List.length_append] at h64
    exact ⟨o1, o2, o3, o4, o5, l5, rfl, fun h => by omega, h5, by omega⟩
theorem chain_unknown {v : Int} : ∀ {E : List Fld} {a : Int}, topT v ≤ a → chain a E → ∀ f ∈ E, knowB v f.1 = false ∧ a < f.1 := by
  intro E
  induction E with
  | nil => intro a _ _ f hf; cases hf
  | cons g E ih =>
    intro a ha h f hf
    simp only [chain] at h
    rcases List.mem_cons.1 hf with rfl | hf
    · exact ⟨knowB_no.2 (by omega), h.1.1⟩
    · have := ih (a := g.1) (by omega) h.2 f hf
      exact ⟨this.1, by omega⟩
theorem fold_unknown {v : Int} : ∀ (E : List Fld) (r : Rcd), (∀ f ∈ E, knowB v f.1 = false) → E.foldl (stepR v) r = { r with extra := r.extra ++ E } := by
  intro E
  induction E with
  | nil => intro r _; simp
  | cons f E ih =>
    intro r h
    rw [List.foldl_cons, ih _ (fun g hg => h g (List.mem_cons_of_mem _ hg))]
    unfold stepR
    rw [h f List.mem_cons_self]
    simp
theorem whole_nil : wholeN [] = 0 := by rfl
theorem gd_none : gd none = ByteArray.empty := rfl
theorem gd_some (d : ByteArray) : gd (some d) = d := rfl
theorem acc_parts {v : Int} (hv : v = 1 ∨ v = 2) {o1 o2 o3 o4 o5 : Option ByteArray} {E : List Fld} (h1 : v = 1 → o4 = none ∧ o5 = none) (hE : ∀ f ∈ E, knowB v f.1 = false) :
    accR v (parts o1 o2 o3 o4 o5 E) = ⟨gd o1, gd o2, wholeN (gd o3).data.toList, wholeN (gd o4).data.toList, gd o5, E⟩ := by
  have k1 : knowB v 1 = true := knowB_iff.2 (by have := topT_le v; omega)
  have k2 : knowB v 2 = true := knowB_iff.2 (by have := topT_le v; omega)
  have k3 : knowB v 3 = true := knowB_iff.2 (by have := topT_le v; omega)
  have s1 : ∀ (o : Option ByteArray) (b : ByteArray) (c d : Int) (e : ByteArray) (x : List Fld), (opt 1 o).foldl (stepR v) ⟨ByteArray.empty, b, c, d, e, x⟩ = ⟨gd o, b, c, d, e, x⟩ := by
    intro o b c d e x; cases o <;> simp [opt, gd, stepR, setR, k1]
  have s2 : ∀ (o : Option ByteArray) (b : ByteArray) (c d : Int) (e : ByteArray) (x : List Fld), (opt 2 o).foldl (stepR v) ⟨b, ByteArray.empty, c, d, e, x⟩ = ⟨b, gd o, c, d, e, x⟩ := by
    intro o b c d e x; cases o <;> simp [opt, gd, stepR, setR, k2]
  have s3 : ∀ (o : Option ByteArray) (a b : ByteArray) (d : Int) (e : ByteArray) (x : List Fld), (opt 3 o).foldl (stepR v) ⟨a, b, 0, d, e, x⟩ = ⟨a, b, wholeN (gd o).data.toList, d, e, x⟩ := by
    intro o a b d e x; cases o <;> simp [opt, gd, stepR, setR, k3]; simp [whole_nil]
  have s4 : ∀ (o : Option ByteArray) (a b : ByteArray) (c : Int) (e : ByteArray) (x : List Fld), (v = 1 → o = none) → (opt 4 o).foldl (stepR v) ⟨a, b, c, 0, e, x⟩ = ⟨a, b, c, wholeN (gd o).data.toList, e, x⟩ := by
    intro o a b c e x ho
    cases o with
    | none => simp [opt, gd, whole_nil]
    | some d =>
      have : v = 2 := by rcases hv with h | h; exact absurd (ho h) (by simp); exact h
      subst this
      simp [opt, gd, stepR, setR, knowB, topT]
  have s5 : ∀ (o : Option ByteArray) (a b : ByteArray) (c d : Int) (x : List Fld), (v = 1 → o = none) → (opt 5 o).foldl (stepR v) ⟨a, b, c, d, ByteArray.empty, x⟩ = ⟨a, b, c, d, gd o, x⟩ := by
    intro o a b c d x ho
    cases o with
    | none => simp [opt, gd]
    | some d =>
      have : v = 2 := by rcases hv with h | h; exact absurd (ho h) (by simp); exact h
      subst this
      simp [opt, gd, stepR, setR, knowB, topT]
  unfold accR parts zeroR
  rw [List.foldl_append, s1, List.foldl_append, s2, List.foldl_append, s3, List.foldl_append, s4 _ _ _ _ _ _ (fun h => (h1 h).1), List.foldl_append, s5 _ _ _ _ _ _ (fun h => (h1 h).2), fold_unknown _ _ hE]
  simp
theorem all_parts {v : Int} (hv : v = 1 ∨ v = 2) {o1 o2 o3 o4 o5 : Option ByteArray} {E : List Fld} (h1 : v = 1 → o4 = none ∧ o5 = none) (hE : ∀ f ∈ E, knowB v f.1 = false) (P : Int → ByteArray → Bool) :
    (∀ i, i < (parts o1 o2 o3 o4 o5 E).length → knowB v (tg (parts o1 o2 o3 o4 o5 E) i) = true → P (tg (parts o1 o2 o3 o4 o5 E) i) (dt (parts o1 o2 o3 o4 o5 E) i) = true) ↔
      (∀ d, o1 = some d → P 1 d = true) ∧ (∀ d, o2 = some d → P 2 d = true) ∧ (∀ d, o3 = some d → P 3 d = true) ∧ (∀ d, o4 = some d → P 4 d = true) ∧ (∀ d, o5 = some d → P 5 d = true) := by
  have k1 : knowB v 1 = true := knowB_iff.2 (by have := topT_le v; omega)
  have k2 : knowB v 2 = true := knowB_iff.2 (by have := topT_le v; omega)
  have k3 : knowB v 3 = true := knowB_iff.2 (by have := topT_le v; omega)
  have k4 : ∀ d, o4 = some d → knowB v 4 = true := fun d hd => by
    rcases hv with rfl | rfl
    · rw [(h1 rfl).1] at hd; cases hd
    · decide
  have k5 : ∀ d, o5 = some d → knowB v 5 = true := fun d hd => by
    rcases hv with rfl | rfl
    · rw [(h1 rfl).2] at hd; cases hd
    · decide
  rw [all_mem (P := fun t d => knowB v t = true → P t d = true)]
  constructor
  · intro h
    refine ⟨fun d hd => h (1, d) ?_ k1, fun d hd => h (2, d) ?_ k2, fun d hd => h (3, d) ?_ k3, fun d hd => h (4, d) ?_ (k4 d hd), fun d hd => h (5, d) ?_ (k5 d hd)⟩ <;> subst hd <;> simp [parts, opt]
  · rintro ⟨a1, a2, a3, a4, a5⟩ f hf hk
    obtain ⟨t, d⟩ := f
    simp only [parts, List.mem_append, mem_opt] at hf
    rcases hf with ⟨h, rfl⟩ | ⟨h, rfl⟩ | ⟨h, rfl⟩ | ⟨h, rfl⟩ | ⟨h, rfl⟩ | h
    · exact a1 d h
    · exact a2 d h
    · exact a3 d h
    · exact a4 d h
    · exact a5 d h
    · have := hE _ h
      simp only at this hk
      rw [this] at hk; cases hk
theorem opt_size {o : Option ByteArray} (h : ∀ d, o = some d → 1 ≤ d.size) : (gd o).size = 0 ↔ o = none := by
  cases o with
  | none => simp [gd]
  | some d => have := h d rfl; simp only [gd, Option.getD_some]; constructor <;> intro h2; omega; cases h2
theorem find_parts1 {o1 o2 o3 o4 o5 : Option ByteArray} {E : List Fld} (hE : ∀ f ∈ E, (1 : Int) < f.1) : (findR (parts o1 o2 o3 o4 o5 E) 1).2 = true ↔ o1 ≠ none := by
  cases o1 with
  | some d => simp [parts, opt, findR]
  | none =>
    have : findR (parts none o2 o3 o4 o5 E) 1 = (ByteArray.empty, false) := by
      apply findR_no
      rw [all_mem (P := fun t _ => t ≠ 1)]
      intro f hf
      simp only [parts, List.mem_append, mem_opt] at hf
      rcases hf with ⟨h, h2⟩ | ⟨h, h2⟩ | ⟨h, h2⟩ | ⟨h, h2⟩ | ⟨h, h2⟩ | h
      · cases h
      · omega
      · omega
      · omega
      · omega
      · have := hE _ h; omega
    rw [this]; simp
theorem right_extra {v : Int} {E : List Fld} (h : chain (topT v) E) (h64 : E.length ≤ 64) : extraB v E = true ↔ few E ≤ 8 := by
  have hR : rightB E = true := right_chain.2 ⟨h64, chain_mono h (by have := topT_le v; omega)⟩
  have hU : ∀ i, i < E.length → knowB v (tg E i) = false := (all_mem (P := fun t _ => knowB v t = false)).2 fun f hf => (chain_unknown (Int.le_refl _) h f hf).1
  rw [extraB_iff]
  exact ⟨fun h => h.2.1, fun h => ⟨hR, h, hU⟩⟩

/-- (A.) The program's way, and the document's, are one. -/
theorem recP_recQ {v : Int} (hv : v = 1 ∨ v = 2) {l : List Fld} (h : rightB l = true) (hk : (findR l 1).2 = true) : recP v l = recQ v l := by
  obtain ⟨o1, o2, o3, o4, o5, E, rfl, h1, hE, h64⟩ := decomp hv h
  have hU : ∀ f ∈ E, knowB v f.1 = false := fun f hf => (chain_unknown (Int.le_refl _) hE f hf).1
  have hg : ∀ f ∈ E, (1 : Int) < f.1 := fun f hf => by have := (chain_unknown (Int.le_refl _) hE f hf).2; have := topT_le v; omega
  rw [find_parts1 hg] at hk
  obtain ⟨d1, rfl⟩ := Option.ne_none_iff_exists'.1 hk
  rw [Bool.eq_iff_iff, recP_iff, recQ_iff, all_parts hv h1 hU okD, all_parts hv h1 hU okQ, acc_parts hv h1 hU, rightR_iff]
  unfold RightP
  simp only [right_extra hE h64]
  have n3 := wholeN_le (gd o3).data.toList
  have n4 := wholeN_le (gd o4).data.toList
  simp only [okD_1, okD_2, okD_3, okD_4, okD_5, okQ_1, okQ_2, okQ_3, okQ_4, okQ_5, Option.some.injEq]
  have z0 : ∀ (d : ByteArray), 0 < wholeN d.data.toList → 1 ≤ d.size := by
    intro d hd
    rcases Nat.eq_zero_or_pos d.size with h0 | h0
    · have : d.data.toList = [] := List.eq_nil_of_length_eq_zero (by simpa using h0)
      rw [this, whole_nil] at hd; omega
    · exact h0
  have e1 : ∀ (P : ByteArray → Prop), (∀ d, d1 = d → P d) ↔ P d1 := fun P => ⟨fun h => h d1 rfl, fun h d hd => hd ▸ h⟩
  rw [e1 (fun d => 1 ≤ d.size ∧ d.size ≤ 16), e1 (fun d => 1 ≤ d.size)]
  have hl : laterB v ⟨gd (some d1), gd o2, wholeN (gd o3).data.toList, wholeN (gd o4).data.toList, gd o5, E⟩ = true ↔ (gd o5).size ≤ 40 := by
    rcases hv with rfl | rfl
    · obtain ⟨rfl, rfl⟩ := h1 rfl
      rw [laterB_one]; simp [gd_none]; exact whole_nil
    · rw [laterB_two]; simp only; omega
  rw [hl]
  simp only [gd_some]
  constructor
  · rintro ⟨⟨a1, a2, a3, a4, a5⟩, a6⟩
    refine ⟨⟨a1.1, fun d hd => (a2 d hd).1, fun d hd => ⟨z0 d (a3 d hd), a3 d hd⟩, fun d hd => ⟨z0 d (a4 d hd), a4 d hd⟩, fun d hd => (a5 d hd).1⟩, hv, a1, ?_, by omega, ?_, a6⟩
    · cases o2 with
      | none => simp [gd]
      | some d => exact (a2 d rfl).2
    · cases o5 with
      | none => simp [gd]
      | some d => exact (a5 d rfl).2
  · rintro ⟨⟨a1, a2, a3, a4, a5⟩, _, b1, b2, b3, b4, b5⟩
    refine ⟨⟨b1, fun d hd => ⟨a2 d hd, ?_⟩, fun d hd => (a3 d hd).2, fun d hd => (a4 d hd).2, fun d hd => ⟨a5 d hd, ?_⟩⟩, b5⟩
    · subst hd; exact b2
    · subst hd; exact b4
end Go.Proofs.Ytkhpkjnnkmoeoaa
