/-
  Plain mathematics of fields: what may be, their bytes, what bytes are taken for, what is found. Nothing of the program is named here.
-/
import Derived.Test.YtkhpkjnnkmoeoaaMath
namespace Go.Proofs.Ytkhpkjnnkmoeoaa

/-- A field: its tag and its text. -/
abbrev Fld := Int × ByteArray
def tg (fs : List Fld) (i : Nat) : Int := (fs.getD i (0, ByteArray.empty)).1
def dt (fs : List Fld) (i : Nat) : ByteArray := (fs.getD i (0, ByteArray.empty)).2
theorem tg_at {fs : List Fld} {i : Nat} (h : i < fs.length) : tg fs i = fs[i].1 := by unfold tg; rw [List.getD_eq_getElem?_getD, List.getElem?_eq_getElem h]; rfl
theorem dt_at {fs : List Fld} {i : Nat} (h : i < fs.length) : dt fs i = fs[i].2 := by unfold dt; rw [List.getD_eq_getElem?_getD, List.getElem?_eq_getElem h]; rfl
theorem fld_at {fs : List Fld} {i : Nat} (h : i < fs.length) : fs[i] = (tg fs i, dt fs i) := by rw [tg_at h, dt_at h]

/-- May a tag stand behind another? -/
def mayB (t a : Int) : Bool := decide (a < t) && decide (t ≤ 1000000)
theorem mayB_yes {t a : Int} (h1 : a < t) (h2 : t ≤ 1000000) : mayB t a = true := by unfold mayB; simp [h1, h2]
theorem mayB_iff {t a : Int} : mayB t a = true ↔ a < t ∧ t ≤ 1000000 := by unfold mayB; simp
theorem mayB_no {t a : Int} : mayB t a = false ↔ ¬ (a < t ∧ t ≤ 1000000) := by rw [← mayB_iff]; simp

/-- The tag ahead of the i-th field; 0 ahead of the first one. -/
def hd (fs : List Fld) (i : Nat) : Int := if i = 0 then 0 else tg fs (i - 1)
/-- Is the i-th field right? -/
def okAt (fs : List Fld) (i : Nat) : Bool := mayB (tg fs i) (hd fs i) && decide ((dt fs i).size ≤ 1000)
/-- May the fields be? -/
def rightB (fs : List Fld) : Bool := decide (fs.length ≤ 64) && (List.range fs.length).all (okAt fs)
theorem rightB_iff {fs : List Fld} : rightB fs = true ↔ fs.length ≤ 64 ∧ ∀ i, i < fs.length → okAt fs i = true := by unfold rightB; simp
theorem rightB_yes {fs : List Fld} (h1 : fs.length ≤ 64) (h2 : ∀ i, i < fs.length → okAt fs i = true) : rightB fs = true := rightB_iff.2 ⟨h1, h2⟩
theorem rightB_no {fs : List Fld} {i : Nat} (h : i < fs.length) (h2 : okAt fs i = false) : rightB fs = false := by
  cases hr : rightB fs with
  | false => rfl
  | true => rw [(rightB_iff.1 hr).2 i h] at h2; cases h2
theorem rightB_long {fs : List Fld} (h : 64 < fs.length) : rightB fs = false := by
  cases hr : rightB fs with
  | false => rfl
  | true => have := (rightB_iff.1 hr).1; omega
theorem okAt_iff {fs : List Fld} {i : Nat} : okAt fs i = true ↔ hd fs i < tg fs i ∧ tg fs i ≤ 1000000 ∧ (dt fs i).size ≤ 1000 := by unfold okAt; simp [mayB_iff, and_assoc]
theorem okAt_no {fs : List Fld} {i : Nat} (h : ¬ (hd fs i < tg fs i ∧ tg fs i ≤ 1000000 ∧ (dt fs i).size ≤ 1000)) : okAt fs i = false := by
  cases hr : okAt fs i with
  | false => rfl
  | true => exact absurd (okAt_iff.1 hr) h
theorem hd_succ (fs : List Fld) (i : Nat) : hd fs (i + 1) = tg fs i := by unfold hd; simp
theorem hd_zero (fs : List Fld) : hd fs 0 = 0 := by unfold hd; simp
theorem hd_nonneg {fs : List Fld} : ∀ i, i ≤ fs.length → (∀ j, j < i → okAt fs j = true) → 0 ≤ hd fs i ∧ hd fs i ≤ 1000000 := by
  intro i
  induction i with
  | zero => intro _ _; rw [hd_zero]; omega
  | succ i ih =>
    intro h1 h2
    have h3 := ih (by omega) (fun j hj => h2 j (by omega))
    have h4 := okAt_iff.1 (h2 i (by omega))
    rw [hd_succ]; omega

/-- One field's bytes. -/
def enc1 (f : Fld) : List UInt8 := vb f.1.toNat ++ (vb f.2.size ++ f.2.data.toList)
/-- Fields' bytes. -/
def encL (fs : List Fld) : List UInt8 := fs.flatMap enc1
theorem encL_nil : encL [] = [] := rfl
theorem encL_cons (f : Fld) (fs : List Fld) : encL (f :: fs) = enc1 f ++ encL fs := by simp [encL]
theorem encL_append (a b : List Fld) : encL (a ++ b) = encL a ++ encL b := by simp [encL]
theorem encL_snoc {fs : List Fld} {i : Nat} (h : i < fs.length) : encL (fs.take (i + 1)) = encL (fs.take i) ++ (vb (tg fs i).toNat ++ (vb (dt fs i).size ++ (dt fs i).data.toList)) := by
  rw [List.take_succ_eq_append_getElem h, encL_append, fld_at h]
  simp [encL, enc1]
theorem enc1_len {f : Fld} (h1 : f.1 ≤ 1000000) (h2 : f.2.size ≤ 1000) : (enc1 f).length ≤ f.2.size + 5 := by
  unfold enc1
  have e1 := vb_len_le 3 f.1.toNat (by have : (128 : Nat) ^ 3 = 2097152 := by decide
                                       omega)
  have e2 := vb_len_le 2 f.2.size (by have : (128 : Nat) ^ 2 = 16384 := by decide
                                      omega)
  have e3 : f.2.data.toList.length = f.2.size := by simp
  simp only [List.length_append]; omega
theorem enc1_pos (f : Fld) : 2 ≤ (enc1 f).length := by
  unfold enc1
  have e1 := vb_pos f.1.toNat
  have e2 := vb_pos f.2.size
  simp only [List.length_append]; omega
theorem encL_take_len {fs : List Fld} (h : ∀ j, j < fs.length → okAt fs j = true) : ∀ i, i ≤ fs.length → (encL (fs.take i)).length ≤ 1005 * i := by
  intro i
  induction i with
  | zero => intro _; simp [encL]
  | succ i ih =>
    intro h1
    have h4 := okAt_iff.1 (h i (by omega))
    have h5 := ih (by omega)
    rw [List.take_succ_eq_append_getElem (by omega), encL_append, List.length_append]
    have h6 := enc1_len (f := fs[i]) (by rw [← tg_at (by omega)]; omega) (by rw [← dt_at (by omega)]; omega)
    have h7 : (fs[i].2).size ≤ 1000 := by rw [← dt_at (by omega)]; omega
    have h8 : encL [fs[i]] = enc1 fs[i] := by simp [encL]
    rw [h8]; omega

/-- What Encode answers: the text, the error. -/
def encR (fs : List Fld) : List UInt8 × Nat := if rightB fs then (if (encL fs).length ≤ 10000 then (encL fs, 0) else ([], 12)) else ([], 1)

/-- What is found. -/
def findR (fs : List Fld) (t : Int) : ByteArray × Bool := match fs.find? (fun f => f.1 == t) with | some f => (f.2, true) | none => (ByteArray.empty, false)
theorem findR_no {fs : List Fld} {t : Int} (h : ∀ j, j < fs.length → tg fs j ≠ t) : findR fs t = (ByteArray.empty, false) := by
  have : fs.find? (fun f => f.1 == t) = none := by
    rw [List.find?_eq_none]
    intro x hx
    obtain ⟨i, hi, rfl⟩ := List.mem_iff_getElem.1 hx
    have := h i hi
    rw [tg_at hi] at this
    simpa using this
  unfold findR; rw [this]
theorem findR_at {fs : List Fld} {t : Int} {k : Nat} (hk : k < fs.length) (h : ∀ j, j < k → tg fs j ≠ t) (h2 : tg fs k = t) : findR fs t = (dt fs k, true) := by
  have : fs.find? (fun f => f.1 == t) = some fs[k] := by
    rw [List.find?_eq_some_iff_getElem]
    refine ⟨by rw [← tg_at hk]; simpa using h2, k, hk, rfl, fun j hj => ?_⟩
    have := h j hj
    rw [tg_at (by omega)] at this
    simpa using this
  unfold findR; rw [this, dt_at hk]

/-- What the field at a text's beginning is taken for: the tag, the text, how many bytes, the error. -/
def takeF (l : List UInt8) (a : Nat) : Nat × List UInt8 × Nat × Nat :=
  if (takeR l).2.2 ≠ 0 then (0, [], 0, (takeR l).2.2)
  else if mayB (takeR l).1 a = false then (0, [], 0, 13)
  else if (takeR (l.drop (takeR l).2.1)).2.2 ≠ 0 then (0, [], 0, (takeR (l.drop (takeR l).2.1)).2.2)
  else if 1000 < (takeR (l.drop (takeR l).2.1)).1 then (0, [], 0, 11)
  else if l.length < (takeR l).2.1 + (takeR (l.drop (takeR l).2.1)).2.1 + (takeR (l.drop (takeR l).2.1)).1 then (0, [], 0, 10)
  else ((takeR l).1, (l.drop ((takeR l).2.1 + (takeR (l.drop (takeR l).2.1)).2.1)).take (takeR (l.drop (takeR l).2.1)).1, (takeR l).2.1 + (takeR (l.drop (takeR l).2.1)).2.1 + (takeR (l.drop (takeR l).2.1)).1, 0)

/-- What a text is taken for, field by field: the fields, the error. 'a': the tag ahead, 'c': how many there are; 'fuel': a bound on the rounds. -/
def decF : Nat → List UInt8 → Nat → Nat → List Fld × Nat
  | 0, _, _, _ => ([], 0)
  | fuel + 1, l, a, c =>
    if l = [] then ([], 0)
    else if (takeF l a).2.2.2 ≠ 0 then ([], (takeF l a).2.2.2)
    else if c = 64 then ([], 11)
    else if (decF fuel (l.drop (takeF l a).2.2.1) (takeF l a).1 (c + 1)).2 ≠ 0 then ([], (decF fuel (l.drop (takeF l a).2.2.1) (takeF l a).1 (c + 1)).2)
    else ((((takeF l a).1 : Int), (⟨(takeF l a).2.1.toArray⟩ : ByteArray)) :: (decF fuel (l.drop (takeF l a).2.2.1) (takeF l a).1 (c + 1)).1, 0)
/-- What Decode answers. -/
def decR (l : List UInt8) : List Fld × Nat := if 10000 < l.length then ([], 12) else decF l.length l 0 0
end Go.Proofs.Ytkhpkjnnkmoeoaa
