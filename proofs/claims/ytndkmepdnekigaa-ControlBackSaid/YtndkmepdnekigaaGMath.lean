/-
  Plain mathematics of numbers as few bytes (base 128): their bytes, and what a text's beginning is taken for. No condition; nothing of the program is named here.
-/
namespace Go.Proofs.Ytndkmepdnekigaa

/-- A number's bytes: its digits to the base 128, the lowest first; 128 more in each but the last. -/
def vb (n : Nat) : List UInt8 := if n < 128 then [UInt8.ofNat n] else UInt8.ofNat (n % 128 + 128) :: vb (n / 128)
termination_by n
decreasing_by omega

theorem vb_small {n : Nat} (h : n < 128) : vb n = [UInt8.ofNat n] := by rw [vb, if_pos h]
theorem vb_big {n : Nat} (h : ¬ n < 128) : vb n = UInt8.ofNat (n % 128 + 128) :: vb (n / 128) := by rw [vb, if_neg h]

/-- What digits are worth. -/
def val : List UInt8 → Nat
  | [] => 0
  | b :: t => b.toNat % 128 + 128 * val t

/-- How many bytes of 128 or more a text begins with. -/
def lead : List UInt8 → Nat
  | [] => 0
  | b :: t => if b.toNat < 128 then 0 else lead t + 1

theorem lead_le (l : List UInt8) : lead l ≤ l.length := by
  induction l with
  | nil => simp [lead]
  | cons b t ih => unfold lead; split <;> simp <;> omega

/-- What a text's beginning is taken for: the number, how many bytes, the error. -/
def takeR (l : List UInt8) : Nat × Nat × Nat :=
  if lead l < min l.length 8 then
    (if 9007199254740992 < val (l.take (lead l + 1)) ∨ (0 < lead l ∧ (l[lead l]?.getD 0).toNat = 0) then (0, 0, 11) else (val (l.take (lead l + 1)), lead l + 1, 0))
  else if 8 ≤ l.length then (0, 0, 11) else (0, 0, 10)

theorem vb_ne (n : Nat) : vb n ≠ [] := by rw [vb]; split <;> simp
theorem vb_pos (n : Nat) : 0 < (vb n).length := List.length_pos_iff.2 (vb_ne n)

theorem toNat_ofNat_lt {n : Nat} (h : n < 256) : (UInt8.ofNat n).toNat = n := by simp; omega

theorem val_vb (n : Nat) : val (vb n) = n := by
  induction n using Nat.strongRecOn with
  | _ n ih =>
    by_cases h : n < 128
    · rw [vb_small h]; simp [val]; omega
    · rw [vb_big h]; simp only [val]; rw [ih (n / 128) (by omega), toNat_ofNat_lt (by omega)]; omega

theorem vb_len_le (k : Nat) : ∀ n, n < 128 ^ k → (vb n).length ≤ max k 1 := by
  induction k with
  | zero => intro n h; rw [vb_small (by simp at h; omega)]; simp
  | succ k ih =>
    intro n h
    by_cases h1 : n < 128
    · rw [vb_small h1]; exact Nat.le_max_right _ _
    · rw [vb_big h1]
      have := ih (n / 128) (by rw [Nat.pow_succ] at h; omega)
      have hk : 0 < k := by
        rcases Nat.eq_zero_or_pos k with rfl | hk
        · simp at h; omega
        · exact hk
      simp only [List.length_cons]; omega

theorem vb_len8 {n : Nat} (h : n ≤ 9007199254740992) : (vb n).length ≤ 8 := by
  have := vb_len_le 8 n (by have : (128:Nat) ^ 8 = 72057594037927936 := by decide
                            omega)
  omega

/-- A number's bytes: all but the last are 128 or more. -/
theorem lead_vb (n : Nat) (m : List UInt8) : lead (vb n ++ m) = (vb n).length - 1 := by
  induction n using Nat.strongRecOn with
  | _ n ih =>
    by_cases h : n < 128
    · rw [vb_small h]; simp [lead]; omega
    · rw [vb_big h]; simp only [List.cons_append, lead]
      rw [toNat_ofNat_lt (by omega), if_neg (by omega), ih (n / 128) (by omega)]
      have := vb_pos (n / 128)
      simp only [List.length_cons]; omega

theorem vb_last (n : Nat) (h : 128 ≤ n) (m : List UInt8) : (((vb n ++ m)[(vb n).length - 1]?).getD 0).toNat ≠ 0 := by
  induction n using Nat.strongRecOn with
  | _ n ih =>
    rw [vb_big (by omega)]
    have hp := vb_pos (n / 128)
    have e : (UInt8.ofNat (n % 128 + 128) :: vb (n / 128)).length - 1 = ((vb (n / 128)).length - 1) + 1 := by simp only [List.length_cons]; omega
    rw [e, List.cons_append, List.getElem?_cons_succ]
    by_cases h1 : n / 128 < 128
    · rw [vb_small h1]; simp; omega
    · exact ih (n / 128) (by omega) (by omega)

/-- (Back.) What was put is taken, whatever stands behind it. -/
theorem takeR_vb {n : Nat} (h : n ≤ 9007199254740992) (m : List UInt8) : takeR (vb n ++ m) = (n, (vb n).length, 0) := by
  have hp := vb_pos n
  have h8 := vb_len8 h
  unfold takeR
  rw [lead_vb, if_pos (by simp only [List.length_append]; omega)]
  have e : (vb n).length - 1 + 1 = (vb n).length := by omega
  rw [e, List.take_left, val_vb, if_neg]
  intro hc
  rcases hc with hc | ⟨h1, h2⟩
  · omega
  · by_cases h3 : n < 128
    · rw [vb_small h3] at h1; simp at h1
    · exact vb_last n (by omega) m h2

theorem lead_take_vb (n j : Nat) (h : j < (vb n).length) : lead ((vb n).take j) = j := by
  induction n using Nat.strongRecOn generalizing j with
  | _ n ih =>
    cases j with
    | zero => simp [lead]
    | succ j =>
      by_cases h1 : n < 128
      · rw [vb_small h1] at h; simp at h
      · rw [vb_big h1] at h ⊢
        simp only [List.take_succ_cons, lead]
        rw [toNat_ofNat_lt (by omega), if_neg (by omega), ih (n / 128) (by omega) j (by simpa using h)]

/-- (Back.) Cut off it is ErrCut. -/
theorem takeR_cut {n j : Nat} (h : n ≤ 9007199254740992) (hj : j < (vb n).length) : takeR ((vb n).take j) = (0, 0, 10) := by
  have h8 := vb_len8 h
  have hl : ((vb n).take j).length = j := by simp; omega
  unfold takeR
  rw [lead_take_vb n j hj, hl, if_neg (by omega), if_neg (by omega)]

theorem val_lead (l : List UInt8) (h : lead l < l.length) (hz : 0 < lead l → (l[lead l]?.getD 0).toNat ≠ 0) : vb (val (l.take (lead l + 1))) = l.take (lead l + 1) := by
  induction l with
  | nil => simp at h
  | cons b t ih =>
    have hb : b.toNat < 256 := b.toNat_lt
    by_cases h1 : b.toNat < 128
    · have e : lead (b :: t) = 0 := by simp [lead, h1]
      rw [e]; simp only [Nat.zero_add, List.take_succ_cons, List.take_zero, val]
      rw [vb_small (by omega)]
      congr 1
      apply UInt8.toNat_inj.1
      rw [toNat_ofNat_lt (by omega)]; omega
    · have e : lead (b :: t) = lead t + 1 := by simp [lead, h1]
      rw [e] at h hz ⊢
      have ht : lead t < t.length := by simpa using h
      have hz' : (t[lead t]?.getD 0).toNat ≠ 0 := by simpa using hz (by omega)
      simp only [List.take_succ_cons, val]
      have ih' := ih ht (fun _ => hz')
      -- the rest is worth something, so that this number is 128 or more
      have hv : 0 < val (t.take (lead t + 1)) := by
        rcases Nat.eq_zero_or_pos (val (t.take (lead t + 1))) with h0 | h0
        · exfalso
          rw [h0, vb_small (by omega)] at ih'
          have hl : (t.take (lead t + 1)).length = 1 := by rw [← ih']; rfl
          have hl0 : lead t = 0 := by rw [List.length_take] at hl; omega
          rw [hl0] at ih' hz'
          cases t with
          | nil => simp at ht
          | cons c u =>
            simp at ih' hz'
            subst ih'; simp at hz'
        · exact h0
      rw [vb_big (by omega)]
      have e1 : (b.toNat % 128 + 128 * val (t.take (lead t + 1))) / 128 = val (t.take (lead t + 1)) := by omega
      rw [e1, ih']
      congr 1
      apply UInt8.toNat_inj.1
      rw [toNat_ofNat_lt (by omega)]; omega

/-- (Forth.) What is taken, put again, is what stood there. -/
theorem takeR_ok {l : List UInt8} {n k : Nat} (h : takeR l = (n, k, 0)) : n ≤ 9007199254740992 ∧ 1 ≤ k ∧ k ≤ l.length ∧ vb n = l.take k := by
  unfold takeR at h
  split at h
  · rename_i h1
    split at h
    · simp at h
    · rename_i h2
      simp only [Prod.mk.injEq] at h
      obtain ⟨rfl, rfl, _⟩ := h
      have h3 : ¬ 9007199254740992 < val (l.take (lead l + 1)) := fun hc => h2 (.inl hc)
      refine ⟨by omega, by omega, by omega, val_lead l (by omega) (fun hp hc => h2 (.inr ⟨hp, hc⟩))⟩
  · split at h <;> simp at h

theorem takeR_no {l : List UInt8} {n k e : Nat} (h : takeR l = (n, k, e)) (he : e ≠ 0) : n = 0 ∧ k = 0 ∧ (e = 10 ∨ e = 11) ∧ (e = 11 ∨ l.length < 8) := by
  unfold takeR at h
  split at h
  · split at h
    · simp only [Prod.mk.injEq] at h; omega
    · simp only [Prod.mk.injEq] at h; omega
  · split at h <;> simp only [Prod.mk.injEq] at h <;> omega

theorem takeR_fst_le (l : List UInt8) : (takeR l).1 ≤ 9007199254740992 := by
  unfold takeR; split
  · split
    · simp
    · rename_i h; simp only; omega
  · split <;> simp
theorem takeR_snd_le (l : List UInt8) : (takeR l).2.1 ≤ l.length ∧ (takeR l).2.1 ≤ 8 := by
  unfold takeR; split
  · split
    · simp
    · simp only; omega
  · split <;> simp
theorem takeR_err (l : List UInt8) : (takeR l).2.2 = 0 ∨ (takeR l).2.2 = 10 ∨ (takeR l).2.2 = 11 := by
  unfold takeR; split
  · split <;> simp
  · split <;> simp

/-- Unlike numbers have unlike bytes, and none begin with the other's. -/
theorem vb_prefix {x y : Nat} (hx : x ≤ 9007199254740992) (hy : y ≤ 9007199254740992) (m : List UInt8) (h : vb y = vb x ++ m) : x = y := by
  have h1 := takeR_vb hx m
  have h2 := takeR_vb hy []
  rw [List.append_nil, h, h1] at h2
  simp only [Prod.mk.injEq] at h2
  exact h2.1

theorem vb_len_mono {x y : Nat} (h : x ≤ y) : (vb x).length ≤ (vb y).length := by
  induction y using Nat.strongRecOn generalizing x with
  | _ y ih =>
    by_cases h1 : x < 128
    · rw [vb_small h1]; have := vb_pos y; simp; omega
    · rw [vb_big h1, vb_big (n := y) (by omega)]
      have := ih (y / 128) (by omega) (x := x / 128) (by omega)
      simp only [List.length_cons]; omega

theorem vb_len_one (x : Nat) : (vb x).length = 1 ↔ x < 128 := by
  by_cases h : x < 128
  · rw [vb_small h]; simp [h]
  · rw [vb_big h]; have := vb_pos (x / 128); simp only [List.length_cons]; omega

/-- 128 times as much, and less than that more, has one byte more, in front. -/
theorem vb_step (x m : Nat) (hx : 0 < x) (hm : m < 128) : vb (128 * x + m) = UInt8.ofNat (m + 128) :: vb x := by
  rw [vb_big (by omega)]
  have e1 : (128 * x + m) % 128 = m := by omega
  have e2 : (128 * x + m) / 128 = x := by omega
  rw [e1, e2]

end Go.Proofs.Ytndkmepdnekigaa


/-
  Plain mathematics of fields: what may be, their bytes, what bytes are taken for, what is found. Nothing of the program is named here.
-/
namespace Go.Proofs.Ytndkmepdnekigaa

/-- A field: its tag and its text. -/
abbrev Fld := Int × ByteArray
def tg (fs : List Fld) (i : Nat) : Int := (fs.getD i (0, ByteArray.empty)).1
def dt (fs : List Fld) (i : Nat) : ByteArray := (fs.getD i (0, ByteArray.empty)).2
theorem tg_at {fs : List Fld} {i : Nat} (h : i < fs.length) : tg fs i = fs[i].1 := by unfold tg; rw [List.getD_eq_getElem?_getD, List.getElem?_eq_getElem h]; rfl
theorem dt_at {fs : List Fld} {i : Nat} (h : i < fs.length) : dt fs i = fs[i].2 := by unfold dt; rw [List.getD_eq_getElem?_getD, List.getElem?_eq_getElem h]; rfl
theorem fld_at {fs : List Fld} {i : Nat} (h : i < fs.length) : fs[i] = (tg fs i, dt fs i) := by rw [tg_at h, dt_at h]

/-- May a tag stand behind another? -/
def mayB (t a : Int) : Bool := decide (a < t) && decide (t ≤ 1000000)
theorem mayB_yes {t a : Int} (h1 : a < t) (h2 : t ≤ 1000000) : mayB t a = true := by unfold mayB; simp [h1, h2]
theorem mayB_iff {t a : Int} : mayB t a = true ↔ a < t ∧ t ≤ 1000000 := by unfold mayB; simp
theorem mayB_no {t a : Int} : mayB t a = false ↔ ¬ (a < t ∧ t ≤ 1000000) := by rw [← mayB_iff]; simp

/-- The tag ahead of the i-th field; 0 ahead of the first one. -/
def hd (fs : List Fld) (i : Nat) : Int := if i = 0 then 0 else tg fs (i - 1)
/-- Is the i-th field right? -/
def okAt (fs : List Fld) (i : Nat) : Bool := mayB (tg fs i) (hd fs i) && decide ((dt fs i).size ≤ 1000)
/-- May the fields be? -/
def rightB (fs : List Fld) : Bool := decide (fs.length ≤ 64) && (List.range fs.length).all (okAt fs)
theorem rightB_iff {fs : List Fld} : rightB fs = true ↔ fs.length ≤ 64 ∧ ∀ i, i < fs.length → okAt fs i = true := by unfold rightB; simp
theorem rightB_yes {fs : List Fld} (h1 : fs.length ≤ 64) (h2 : ∀ i, i < fs.length → okAt fs i = true) : rightB fs = true := rightB_iff.2 ⟨h1, h2⟩
theorem rightB_no {fs : List Fld} {i : Nat} (h : i < fs.length) (h2 : okAt fs i = false) : rightB fs = false := by
  cases hr : rightB fs with
  | false => rfl
  | true => rw [(rightB_iff.1 hr).2 i h] at h2; cases h2
theorem rightB_long {fs : List Fld} (h : 64 < fs.length) : rightB fs = false := by
  cases hr : rightB fs with
  | false => rfl
  | true => have := (rightB_iff.1 hr).1; omega
theorem okAt_iff {fs : List Fld} {i : Nat} : okAt fs i = true ↔ hd fs i < tg fs i ∧ tg fs i ≤ 1000000 ∧ (dt fs i).size ≤ 1000 := by unfold okAt; simp [mayB_iff, and_assoc]
theorem okAt_no {fs : List Fld} {i : Nat} (h : ¬ (hd fs i < tg fs i ∧ tg fs i ≤ 1000000 ∧ (dt fs i).size ≤ 1000)) : okAt fs i = false := by
  cases hr : okAt fs i with
  | false => rfl
  | true => exact absurd (okAt_iff.1 hr) h
theorem hd_succ (fs : List Fld) (i : Nat) : hd fs (i + 1) = tg fs i := by unfold hd; simp
theorem hd_zero (fs : List Fld) : hd fs 0 = 0 := by unfold hd; simp
theorem hd_nonneg {fs : List Fld} : ∀ i, i ≤ fs.length → (∀ j, j < i → okAt fs j = true) → 0 ≤ hd fs i ∧ hd fs i ≤ 1000000 := by
  intro i
  induction i with
  | zero => intro _ _; rw [hd_zero]; omega
  | succ i ih =>
    intro h1 h2
    have h3 := ih (by omega) (fun j hj => h2 j (by omega))
    have h4 := okAt_iff.1 (h2 i (by omega))
    rw [hd_succ]; omega

/-- One field's bytes. -/
def enc1 (f : Fld) : List UInt8 := vb f.1.toNat ++ (vb f.2.size ++ f.2.data.toList)
/-- Fields' bytes. -/
def encL (fs : List Fld) : List UInt8 := fs.flatMap enc1
theorem encL_nil : encL [] = [] := rfl
theorem encL_cons (f : Fld) (fs : List Fld) : encL (f :: fs) = enc1 f ++ encL fs := by simp [encL]
theorem encL_append (a b : List Fld) : encL (a ++ b) = encL a ++ encL b := by simp [encL]
theorem encL_snoc {fs : List Fld} {i : Nat} (h : i < fs.length) : encL (fs.take (i + 1)) = encL (fs.take i) ++ (vb (tg fs i).toNat ++ (vb (dt fs i).size ++ (dt fs i).data.toList)) := by
  rw [List.take_succ_eq_append_getElem h, encL_append, fld_at h]
  simp [encL, enc1]
theorem enc1_len {f : Fld} (h1 : f.1 ≤ 1000000) (h2 : f.2.size ≤ 1000) : (enc1 f).length ≤ f.2.size + 5 := by
  unfold enc1
  have e1 := vb_len_le 3 f.1.toNat (by have : (128 : Nat) ^ 3 = 2097152 := by decide
                                       omega)
  have e2 := vb_len_le 2 f.2.size (by have : (128 : Nat) ^ 2 = 16384 := by decide
                                      omega)
  have e3 : f.2.data.toList.length = f.2.size := by simp
  simp only [List.length_append]; omega
theorem enc1_pos (f : Fld) : 2 ≤ (enc1 f).length := by
  unfold enc1
  have e1 := vb_pos f.1.toNat
  have e2 := vb_pos f.2.size
  simp only [List.length_append]; omega
theorem encL_take_len {fs : List Fld} (h : ∀ j, j < fs.length → okAt fs j = true) : ∀ i, i ≤ fs.length → (encL (fs.take i)).length ≤ 1005 * i := by
  intro i
  induction i with
  | zero => intro _; simp [encL]
  | succ i ih =>
    intro h1
    have h4 := okAt_iff.1 (h i (by omega))
    have h5 := ih (by omega)
    rw [List.take_succ_eq_append_getElem (by omega), encL_append, List.length_append]
    have h6 := enc1_len (f := fs[i]) (by rw [← tg_at (by omega)]; omega) (by rw [← dt_at (by omega)]; omega)
    have h7 : (fs[i].2).size ≤ 1000 := by rw [← dt_at (by omega)]; omega
    have h8 : encL [fs[i]] = enc1 fs[i] := by simp [encL]
    rw [h8]; omega

/-- What Encode answers: the text, the error. -/
def encR (fs : List Fld) : List UInt8 × Nat := if rightB fs then (if (encL fs).length ≤ 10000 then (encL fs, 0) else ([], 12)) else ([], 1)

/-- What is found. -/
def findR (fs : List Fld) (t : Int) : ByteArray × Bool := match fs.find? (fun f => f.1 == t) with | some f => (f.2, true) | none => (ByteArray.empty, false)
theorem findR_no {fs : List Fld} {t : Int} (h : ∀ j, j < fs.length → tg fs j ≠ t) : findR fs t = (ByteArray.empty, false) := by
  have : fs.find? (fun f => f.1 == t) = none := by
    rw [List.find?_eq_none]
    intro x hx
    obtain ⟨i, hi, rfl⟩ := List.mem_iff_getElem.1 hx
    have := h i hi
    rw [tg_at hi] at this
    simpa using this
  unfold findR; rw [this]
theorem findR_at {fs : List Fld} {t : Int} {k : Nat} (hk : k < fs.length) (h : ∀ j, j < k → tg fs j ≠ t) (h2 : tg fs k = t) : findR fs t = (dt fs k, true) := by
  have : fs.find? (fun f => f.1 == t) = some fs[k] := by
    rw [List.find?_eq_some_iff_getElem]
    refine ⟨by rw [← tg_at hk]; simpa using h2, k, hk, rfl, fun j hj => ?_⟩
    have := h j hj
    rw [tg_at (by omega)] at this
    simpa using this
  unfold findR; rw [this, dt_at hk]

/-- What the field at a text's beginning is taken for: the tag, the text, how many bytes, the error. -/
def takeF (l : List UInt8) (a : Nat) : Nat × List UInt8 × Nat × Nat :=
  if (takeR l).2.2 ≠ 0 then (0, [], 0, (takeR l).2.2)
  else if mayB (takeR l).1 a = false then (0, [], 0, 13)
  else if (takeR (l.drop (takeR l).2.1)).2.2 ≠ 0 then (0, [], 0, (takeR (l.drop (takeR l).2.1)).2.2)
  else if 1000 < (takeR (l.drop (takeR l).2.1)).1 then (0, [], 0, 11)
  else if l.length < (takeR l).2.1 + (takeR (l.drop (takeR l).2.1)).2.1 + (takeR (l.drop (takeR l).2.1)).1 then (0, [], 0, 10)
  else ((takeR l).1, (l.drop ((takeR l).2.1 + (takeR (l.drop (takeR l).2.1)).2.1)).take (takeR (l.drop (takeR l).2.1)).1, (takeR l).2.1 + (takeR (l.drop (takeR l).2.1)).2.1 + (takeR (l.drop (takeR l).2.1)).1, 0)

/-- What a text is taken for, field by field: the fields, the error. 'a': the tag ahead, 'c': how many there are; 'fuel': a bound on the rounds. -/
def decF : Nat → List UInt8 → Nat → Nat → List Fld × Nat
  | 0, _, _, _ => ([], 0)
  | fuel + 1, l, a, c =>
    if l = [] then ([], 0)
    else if (takeF l a).2.2.2 ≠ 0 then ([], (takeF l a).2.2.2)
    else if c = 64 then ([], 11)
    else if (decF fuel (l.drop (takeF l a).2.2.1) (takeF l a).1 (c + 1)).2 ≠ 0 then ([], (decF fuel (l.drop (takeF l a).2.2.1) (takeF l a).1 (c + 1)).2)
    else ((((takeF l a).1 : Int), (⟨(takeF l a).2.1.toArray⟩ : ByteArray)) :: (decF fuel (l.drop (takeF l a).2.2.1) (takeF l a).1 (c + 1)).1, 0)
/-- What Decode answers. -/
def decR (l : List UInt8) : List Fld × Nat := if 10000 < l.length then ([], 12) else decF l.length l 0 0
end Go.Proofs.Ytndkmepdnekigaa


/-
  Plain mathematics of Decode: the rounds, one by one; there and back.
-/
namespace Go.Proofs.Ytndkmepdnekigaa

theorem takeF_ok {l : List UInt8} {a : Nat} {t k : Nat} {d : List UInt8} (h : takeF l a = (t, d, k, 0)) : 2 ≤ k ∧ k ≤ l.length ∧ a < t ∧ t ≤ 1000000 ∧ d.length ≤ 1000 ∧ vb t ++ (vb d.length ++ d) = l.take k := by
  unfold takeF at h
  generalize h1 : takeR l = r1 at h
  obtain ⟨n1, k1, e1⟩ := r1
  simp only at h
  split at h
  · simp only [Prod.mk.injEq] at h; omega
  rename_i he1
  split at h
  · simp only [Prod.mk.injEq] at h; omega
  rename_i hm
  generalize h2 : takeR (l.drop k1) = r2 at h
  obtain ⟨n2, k2, e2⟩ := r2
  simp only at h
  split at h
  · simp only [Prod.mk.injEq] at h; omega
  rename_i he2
  split at h
  · simp only [Prod.mk.injEq] at h; omega
  rename_i h1000
  split at h
  · simp only [Prod.mk.injEq] at h; omega
  rename_i hcut
  simp only [Prod.mk.injEq] at h
  obtain ⟨rfl, rfl, rfl, _⟩ := h
  have e1' : e1 = 0 := by omega
  have e2' : e2 = 0 := by omega
  subst e1' e2'
  obtain ⟨_, a1, a2, a3⟩ := takeR_ok h1
  obtain ⟨_, b1, b2, b3⟩ := takeR_ok h2
  have hm' : mayB (n1 : Int) (a : Int) = true := by simpa using hm
  have hm2 := mayB_iff.1 hm'
  rw [List.length_drop] at b2
  have hd : ((l.drop (k1 + k2)).take n2).length = n2 := by rw [List.length_take, List.length_drop]; omega
  refine ⟨by omega, by omega, by omega, by omega, by omega, ?_⟩
  rw [hd, a3, b3]
  rw [show k1 + k2 + n2 = k1 + (k2 + n2) by omega, List.take_add, List.take_add, List.drop_drop]
theorem takeF_drop {l : List UInt8} {a : Nat} {t k : Nat} {d : List UInt8} (h : takeF l a = (t, d, k, 0)) : l = vb t ++ (vb d.length ++ d) ++ l.drop k := by
  rw [(takeF_ok h).2.2.2.2.2, List.take_append_drop]
theorem takeF_err {l : List UInt8} {a : Nat} : (takeF l a).2.2.2 = 0 ∨ (takeF l a).2.2.2 = 10 ∨ (takeF l a).2.2.2 = 11 ∨ (takeF l a).2.2.2 = 13 := by
  have h1 := takeR_err l
  have h2 := takeR_err (l.drop (takeR l).2.1)
  unfold takeF
  split
  · simp only; omega
  split
  · simp
  split
  · simp only; omega
  split
  · simp
  split <;> simp

/-- The fields so far, and what comes. -/
def comb (pre : List Fld) (r : List Fld × Nat) : List Fld × Nat := if r.2 = 0 then (pre ++ r.1, 0) else ([], r.2)
theorem decF_fuel : ∀ (f1 f2 : Nat) (l : List UInt8) (a c : Nat), l.length ≤ f1 → l.length ≤ f2 → decF f1 l a c = decF f2 l a c := by
  intro f1
  induction f1 with
  | zero =>
    intro f2 l a c h1 h2
    have : l = [] := List.eq_nil_of_length_eq_zero (by omega)
    subst this
    cases f2 <;> simp [decF]
  | succ f1 ih =>
    intro f2 l a c h1 h2
    by_cases hl : l = []
    · subst hl; cases f2 <;> simp [decF]
    · have hp : 0 < l.length := List.length_pos_iff.2 hl
      obtain ⟨f2, rfl⟩ : ∃ q, f2 = q + 1 := ⟨f2 - 1, by omega⟩
      unfold decF
      rw [if_neg hl, if_neg hl]
      by_cases he : (takeF l a).2.2.2 ≠ 0
      · rw [if_pos he, if_pos he]
      · rw [if_neg he, if_neg he]
        have hk : 2 ≤ (takeF l a).2.2.1 := by
          have := takeF_ok (l := l) (a := a) (t := (takeF l a).1) (d := (takeF l a).2.1) (k := (takeF l a).2.2.1) (by
            rw [show (0 : Nat) = (takeF l a).2.2.2 by omega])
          exact this.1
        have e := ih f2 (l.drop (takeF l a).2.2.1) (takeF l a).1 (c + 1) (by rw [List.length_drop]; omega) (by rw [List.length_drop]; omega)
        rw [e]
theorem comb_nil (pre : List Fld) (f a c : Nat) : comb pre (decF f [] a c) = (pre, 0) := by cases f <;> simp [decF, comb]
theorem comb_err (pre : List Fld) {l : List UInt8} {f a c e : Nat} (hl : l ≠ []) (hf : l.length ≤ f) (h : (takeF l a).2.2.2 = e) (he : e ≠ 0) : comb pre (decF f l a c) = ([], e) := by
  have hp : 0 < l.length := List.length_pos_iff.2 hl
  obtain ⟨f, rfl⟩ : ∃ q, f = q + 1 := ⟨f - 1, by omega⟩
  subst h
  unfold decF comb
  rw [if_neg hl, if_pos he]
  simp [he]
theorem comb_many (pre : List Fld) {l : List UInt8} {f a : Nat} (hl : l ≠ []) (hf : l.length ≤ f) (h : (takeF l a).2.2.2 = 0) : comb pre (decF f l a 64) = ([], 11) := by
  have hp : 0 < l.length := List.length_pos_iff.2 hl
  obtain ⟨f, rfl⟩ : ∃ q, f = q + 1 := ⟨f - 1, by omega⟩
  unfold decF comb
  rw [if_neg hl, if_neg (show ¬ (takeF l a).2.2.2 ≠ 0 from fun hh => hh h), if_pos (show (64 : Nat) = 64 from rfl)]
  simp
theorem comb_step (pre : List Fld) {l : List UInt8} {f a t k c : Nat} {d : List UInt8} (hl : l ≠ []) (hf : l.length ≤ f) (h : takeF l a = (t, d, k, 0)) (hc : c ≠ 64) :
    comb pre (decF f l a c) = comb (pre ++ [((t : Int), (⟨d.toArray⟩ : ByteArray))]) (decF (l.drop k).length (l.drop k) t (c + 1)) := by
  have hp : 0 < l.length := List.length_pos_iff.2 hl
  obtain ⟨f, rfl⟩ : ∃ q, f = q + 1 := ⟨f - 1, by omega⟩
  have hk := (takeF_ok h).1
  have e := decF_fuel f (l.drop k).length (l.drop k) t (c + 1) (by rw [List.length_drop]; omega) (Nat.le_refl _)
  rw [← e]
  conv => lhs; unfold decF
  rw [if_neg hl, h]
  simp only [ne_eq, not_true_eq_false, if_false]
  rw [if_neg hc]
  unfold comb
  by_cases hz : (decF f (l.drop k) t (c + 1)).2 = 0
  · simp [hz]
  · simp [hz]
theorem decR_long {l : List UInt8} (h : 10000 < l.length) : decR l = ([], 12) := by unfold decR; rw [if_pos h]
theorem decR_comb {l : List UInt8} (h : ¬ 10000 < l.length) : decR l = comb [] (decF l.length l 0 0) := by
  unfold decR comb; rw [if_neg h]
  by_cases hz : (decF l.length l 0 0).2 = 0
  · rw [if_pos hz]
    generalize decF l.length l 0 0 = r at hz ⊢
    obtain ⟨x, y⟩ := r
    simp only at hz
    subst hz; simp
  · rw [if_neg hz]
    have : (decF l.length l 0 0).1 = [] := by
      cases hl : l.length with
      | zero => rw [hl] at hz; simp [decF] at hz
      | succ f =>
        rw [hl] at hz
        unfold decF at hz ⊢
        split
        · rfl
        · rename_i h1
          rw [if_neg h1] at hz
          split
          · rfl
          · rename_i h2
            rw [if_neg h2] at hz
            split
            · rfl
            · rename_i h3
              rw [if_neg h3] at hz
              split
              · rfl
              · rename_i h4
                rw [if_neg h4] at hz
                exact absurd rfl hz
    rw [← this]

end Go.Proofs.Ytndkmepdnekigaa


/-
  Plain mathematics of fields: there and back, cut off, one behind the other.
-/
namespace Go.Proofs.Ytndkmepdnekigaa

/-- Fields that may stand behind a tag. -/
def chain : Int → List Fld → Prop
  | _, [] => True
  | a, f :: t => (a < f.1 ∧ f.1 ≤ 1000000 ∧ f.2.size ≤ 1000) ∧ chain f.1 t
theorem chain_at : ∀ (fs : List Fld) (a : Int), chain a fs ↔ ∀ i, i < fs.length → (if i = 0 then a else tg fs (i - 1)) < tg fs i ∧ tg fs i ≤ 1000000 ∧ (dt fs i).size ≤ 1000 := by
  intro fs
  induction fs with
  | nil => intro a; simp [chain]
  | cons f fs ih =>
    intro a
    have t0 : tg (f :: fs) 0 = f.1 := rfl
    have d0 : dt (f :: fs) 0 = f.2 := rfl
    have ts : ∀ i, tg (f :: fs) (i + 1) = tg fs i := fun i => by simp [tg]
    have ds : ∀ i, dt (f :: fs) (i + 1) = dt fs i := fun i => by simp [dt]
    constructor
    · rintro ⟨h1, h2⟩ i hi
      cases i with
      | zero => rw [if_pos rfl, t0, d0]; exact h1
      | succ i =>
        have h3 := (ih f.1).1 h2 i (by simpa using hi)
        rw [if_neg (by omega), ts, ds, Nat.add_sub_cancel]
        cases i with
        | zero => rw [t0]; simpa using h3
        | succ i => rw [ts]; rw [if_neg (by omega), Nat.add_sub_cancel] at h3; exact h3
    · intro h
      refine ⟨?_, (ih f.1).2 fun i hi => ?_⟩
      · have := h 0 (by simp); rw [if_pos rfl, t0, d0] at this; exact this
      · have h3 := h (i + 1) (by simpa using hi)
        rw [if_neg (by omega), ts, ds, Nat.add_sub_cancel] at h3
        cases i with
        | zero => rw [if_pos rfl]; rw [t0] at h3; exact h3
        | succ i => rw [if_neg (by omega), Nat.add_sub_cancel]; rw [ts] at h3; exact h3
theorem right_chain {fs : List Fld} : rightB fs = true ↔ fs.length ≤ 64 ∧ chain 0 fs := by
  rw [rightB_iff, chain_at]
  constructor
  · rintro ⟨h1, h2⟩
    refine ⟨h1, fun i hi => ?_⟩
    exact okAt_iff.1 (h2 i hi)
  · rintro ⟨h1, h2⟩
    exact ⟨h1, fun i hi => okAt_iff.2 (h2 i hi)⟩
/-- The last field's tag; 't' if there is none. -/
def lastT (t : Int) (a : List Fld) : Int := match a.getLast? with | some f => f.1 | none => t
theorem lastT_cons (t : Int) (f : Fld) (a : List Fld) : lastT t (f :: a) = lastT f.1 a := by
  unfold lastT
  cases a with
  | nil => simp
  | cons g a =>
    rw [List.getLast?_cons_cons]
    have : ∃ x, (g :: a).getLast? = some x := ⟨_, List.getLast?_eq_some_getLast (by simp)⟩
    obtain ⟨x, hx⟩ := this
    rw [hx]
theorem chain_app : ∀ {a b : List Fld} {t : Int}, chain t (a ++ b) ↔ chain t a ∧ chain (lastT t a) b := by
  intro a
  induction a with
  | nil => intro b t; simp [chain, lastT]
  | cons f a ih =>
    intro b t
    rw [List.cons_append, lastT_cons]
    show _ ∧ chain f.1 (a ++ b) ↔ (_ ∧ chain f.1 a) ∧ _
    rw [ih]
    exact ⟨fun ⟨x, y, z⟩ => ⟨⟨x, y⟩, z⟩, fun ⟨⟨x, y⟩, z⟩ => ⟨x, y, z⟩⟩
theorem chain_last : ∀ {a : List Fld} {t : Int}, chain t a → t ≤ lastT t a ∧ (a ≠ [] → lastT t a ≤ 1000000) := by
  intro a
  induction a with
  | nil => intro t _; simp [lastT]
  | cons f a ih =>
    intro t h
    have h2 := ih h.2
    have h1 := h.1
    rw [lastT_cons]
    cases a with
    | nil => simp only [lastT, List.getLast?_nil]; omega
    | cons g a =>
      have := h2.2 (by simp)
      omega
theorem chain_mono {a : List Fld} {s t : Int} (h : chain t a) (hs : s ≤ t) : chain s a := by
  cases a with
  | nil => trivial
  | cons f a => exact ⟨⟨by have := h.1; omega, h.1.2⟩, h.2⟩
theorem bsd (d : ByteArray) : (⟨d.data.toList.toArray⟩ : ByteArray) = d := by simp
theorem dlen (d : ByteArray) : d.data.toList.length = d.size := by simp
theorem takeF_enc {t a : Nat} {d rest : List UInt8} (h1 : a < t) (h2 : t ≤ 1000000) (h3 : d.length ≤ 1000) :
    takeF (vb t ++ (vb d.length ++ d) ++ rest) a = (t, d, (vb t ++ (vb d.length ++ d)).length, 0) := by
  have e1 := takeR_vb (n := t) (by omega) (vb d.length ++ d ++ rest)
  have e2 := takeR_vb (n := d.length) (by omega) (d ++ rest)
  have hm : mayB (t : Int) (a : Int) = true := mayB_yes (by omega) (by omega)
  have hl : vb t ++ (vb d.length ++ d) ++ rest = vb t ++ (vb d.length ++ d ++ rest) := by simp
  rw [hl]
  unfold takeF
  rw [e1]
  simp only [ne_eq, not_true_eq_false, if_false, hm, Bool.true_eq_false]
  rw [List.drop_left, show vb d.length ++ d ++ rest = vb d.length ++ (d ++ rest) by simp, e2]
  simp only [not_true_eq_false, if_false]
  rw [if_neg (by omega), if_neg (by simp only [List.length_append]; omega)]
  have e3 : (vb t ++ (vb d.length ++ (d ++ rest))).drop ((vb t).length + (vb d.length).length) = d ++ rest := by
    rw [← List.drop_drop, List.drop_left, List.drop_left]
  rw [e3, List.take_left]
  simp only [List.length_append, Nat.add_assoc]
theorem takeF_enc1 {f : Fld} {a : Nat} {rest : List UInt8} (h1 : (a : Int) < f.1) (h2 : f.1 ≤ 1000000) (h3 : f.2.size ≤ 1000) :
    takeF (enc1 f ++ rest) a = (f.1.toNat, f.2.data.toList, (enc1 f).length, 0) := by
  have := takeF_enc (t := f.1.toNat) (a := a) (d := f.2.data.toList) (rest := rest) (by omega) (by omega) (by rw [dlen]; exact h3)
  rw [dlen] at this
  exact this

/-- Fields ahead are told, whatever stands behind. -/
theorem dec_prefix : ∀ (fs pre : List Fld) (a c : Nat) (rest : List UInt8), chain a fs → c + fs.length ≤ 64 →
    comb pre (decF (encL fs ++ rest).length (encL fs ++ rest) a c) = comb (pre ++ fs) (decF rest.length rest (lastT a fs).toNat (c + fs.length)) := by
  intro fs
  induction fs with
  | nil => intro pre a c rest _ _; simp [encL, lastT]
  | cons f fs ih =>
    intro pre a c rest h hc
    obtain ⟨⟨h1, h2, h3⟩, h4⟩ := h
    simp only [List.length_cons] at hc
    have e := takeF_enc1 (rest := encL fs ++ rest) h1 h2 h3
    have hl : encL (f :: fs) ++ rest = enc1 f ++ (encL fs ++ rest) := by rw [encL_cons, List.append_assoc]
    have hne : enc1 f ++ (encL fs ++ rest) ≠ [] := by
      have := enc1_pos f
      intro h
      have := congrArg List.length h
      rw [List.length_append, List.length_nil] at this
      omega
    rw [hl, comb_step pre hne (Nat.le_refl _) e (by omega), List.drop_left, bsd]
    have ef : ((f.1.toNat : Int), f.2) = f := by rw [Int.toNat_of_nonneg (by omega)]
    rw [ef, ih (pre ++ [f]) f.1.toNat (c + 1) rest (by rw [Int.toNat_of_nonneg (by omega)]; exact h4) (by omega), Int.toNat_of_nonneg (by omega), lastT_cons]
    simp only [List.append_assoc, List.singleton_append, List.length_cons]
    rw [show c + 1 + fs.length = c + (fs.length + 1) by omega]
theorem dec_enc {fs : List Fld} (h : rightB fs = true) (hl : (encL fs).length ≤ 10000) : decR (encL fs) = (fs, 0) := by
  obtain ⟨h1, h2⟩ := right_chain.1 h
  rw [decR_comb (by omega)]
  have := dec_prefix fs [] 0 0 [] h2 (by omega)
  rw [List.append_nil, comb_nil] at this
  simpa using this
/-- A field behind others whose tag is not above theirs. -/
theorem dec_tags {fs : List Fld} {t : Nat} {rest : List UInt8} (h : rightB fs = true) (h1 : 1 ≤ t) (h2 : (t : Int) ≤ lastT 0 fs) (hl : (encL fs ++ (vb t ++ rest)).length ≤ 10000) : decR (encL fs ++ (vb t ++ rest)) = ([], 13) := by
  obtain ⟨h4, h5⟩ := right_chain.1 h
  have hlast := chain_last h5
  have hne : fs ≠ [] := by rintro rfl; simp [lastT] at h2; omega
  have hle := hlast.2 hne
  rw [decR_comb (by omega), dec_prefix fs [] 0 0 (vb t ++ rest) h5 (by omega)]
  have e1 := takeR_vb (n := t) (by omega) rest
  have hm : mayB (t : Int) ((lastT 0 fs).toNat : Int) = false := by
    rw [Int.toNat_of_nonneg (by omega)]; exact mayB_no.2 (by omega)
  refine comb_err _ (by have := vb_ne t; simp [this]) (Nat.le_refl _) ?_ (by decide)
  show (takeF (vb t ++ rest) (lastT 0 fs).toNat).2.2.2 = 13
  unfold takeF
  rw [e1, if_neg (by simp), if_pos hm]
theorem dec_more {fs : List Fld} {f : Fld} (h : rightB fs = true) (h64 : fs.length < 64) (h2 : lastT 0 fs < f.1) (h3 : f.1 ≤ 1000000) (h4 : f.2.size ≤ 1000) : rightB (fs ++ [f]) = true := by
  obtain ⟨h5, h6⟩ := right_chain.1 h
  exact right_chain.2 ⟨by simp; omega, chain_app.2 ⟨h6, ⟨h2, h3, h4⟩, trivial⟩⟩

/-- What is decoded, encoded again, is what stood there. -/
theorem dec_forth : ∀ (n : Nat) (l : List UInt8) (pre R : List Fld) (a c : Nat), l.length ≤ n → c ≤ 64 → comb pre (decF l.length l a c) = (R, 0) → ∃ fs, R = pre ++ fs ∧ encL fs = l ∧ chain a fs ∧ c + fs.length ≤ 64 := by
  intro n
  induction n with
  | zero =>
    intro l pre R a c hl hc h
    obtain rfl : l = [] := List.eq_nil_of_length_eq_zero (by omega)
    rw [comb_nil] at h
    simp only [Prod.mk.injEq] at h
    exact ⟨[], by simp [h.1], rfl, trivial, by simpa using hc⟩
  | succ n ih =>
    intro l pre R a c hl hc h
    by_cases hne : l = []
    · subst hne
      rw [comb_nil] at h
      simp only [Prod.mk.injEq] at h
      exact ⟨[], by simp [h.1], rfl, trivial, by simpa using hc⟩
    · generalize hT : takeF l a = T
      obtain ⟨t, d, k, e⟩ := T
      by_cases he : e = 0
      · subst he
        by_cases h64 : c = 64
        · subst h64
          rw [comb_many pre hne (Nat.le_refl _) (by rw [hT])] at h
          simp at h
        · have hok := takeF_ok hT
          rw [comb_step pre hne (Nat.le_refl _) hT h64] at h
          obtain ⟨fs, h1, h2, h3, h4⟩ := ih (l.drop k) _ R t (c + 1) (by rw [List.length_drop]; omega) (by omega) h
          refine ⟨((t : Int), (⟨d.toArray⟩ : ByteArray)) :: fs, by rw [h1]; simp, ?_, ⟨⟨by show (a : Int) < (t : Int); omega, by show (t : Int) ≤ 1000000; omega, by show d.toArray.size ≤ 1000; simpa using hok.2.2.2.2.1⟩, h3⟩, by simp only [List.length_cons]; omega⟩
          rw [encL_cons, h2]
          have : enc1 ((t : Int), (⟨d.toArray⟩ : ByteArray)) = l.take k := by
            rw [← hok.2.2.2.2.2]
            show vb (t : Int).toNat ++ (vb d.toArray.size ++ d.toArray.toList) = _
            simp
          rw [this, List.take_append_drop]
      · rw [comb_err pre hne (Nat.le_refl _) (by rw [hT]) he] at h
        simp only [Prod.mk.injEq] at h
        omega
theorem dec_ok {l : List UInt8} {fs : List Fld} (h : decR l = (fs, 0)) : l.length ≤ 10000 ∧ encL fs = l ∧ rightB fs = true := by
  by_cases hl : 10000 < l.length
  · rw [decR_long hl] at h; simp at h
  · rw [decR_comb hl] at h
    obtain ⟨gs, h1, h2, h3, h4⟩ := dec_forth l.length l [] fs 0 0 (Nat.le_refl _) (by omega) h
    simp only [List.nil_append] at h1
    subst h1
    exact ⟨by omega, h2, right_chain.2 ⟨by omega, h3⟩⟩
theorem comb_no {pre : List Fld} {r : List Fld × Nat} (h : (comb pre r).2 ≠ 0) : (comb pre r).1 = [] := by
  unfold comb at *
  split
  · rename_i h1; rw [if_pos h1] at h; simp at h
  · rfl
theorem dec_no {l : List UInt8} (h : (decR l).2 ≠ 0) : (decR l).1 = [] := by
  by_cases hl : 10000 < l.length
  · rw [decR_long hl]
  · rw [decR_comb hl] at *
    exact comb_no h

/-- A field that is cut off. -/
theorem takeF_cut {f : Fld} {a : Nat} {j : Nat} (h1 : (a : Int) < f.1) (h2 : f.1 ≤ 1000000) (h3 : f.2.size ≤ 1000) (hj : j < (enc1 f).length) : (takeF ((enc1 f).take j) a).2.2.2 = 10 := by
  have hlen : (enc1 f).length = (vb f.1.toNat).length + ((vb f.2.size).length + f.2.size) := by
    unfold enc1; simp only [List.length_append, dlen]
  rcases Nat.lt_or_ge j (vb f.1.toNat).length with h | h
  · have e : (enc1 f).take j = (vb f.1.toNat).take j := by unfold enc1; rw [List.take_append_of_le_length (by omega)]
    rw [e]
    unfold takeF
    rw [takeR_cut (n := f.1.toNat) (by omega) h]
    simp
  · have e : (enc1 f).take j = vb f.1.toNat ++ (vb f.2.size ++ f.2.data.toList).take (j - (vb f.1.toNat).length) := by
      unfold enc1; rw [List.take_append, List.take_of_length_le h]
    have hm : mayB (f.1.toNat : Int) (a : Int) = true := mayB_yes (by omega) (by omega)
    rw [e]
    have e1 := takeR_vb (n := f.1.toNat) (by omega) ((vb f.2.size ++ f.2.data.toList).take (j - (vb f.1.toNat).length))
    unfold takeF
    rw [e1]
    simp only [ne_eq, not_true_eq_false, if_false, hm, Bool.true_eq_false, List.drop_left]
    rcases Nat.lt_or_ge (j - (vb f.1.toNat).length) (vb f.2.size).length with h4 | h4
    · rw [List.take_append_of_le_length (by omega), takeR_cut (n := f.2.size) (by omega) h4]
      simp
    · rw [List.take_append, List.take_of_length_le h4, takeR_vb (n := f.2.size) (by omega)]
      simp only [not_true_eq_false, if_false]
      rw [if_neg (by omega), if_pos (by simp only [List.length_append, List.length_take, dlen]; omega)]
theorem cut_find : ∀ (fs : List Fld) (k : Nat), k ≤ (encL fs).length → ∃ i j, i ≤ fs.length ∧ k = (encL (fs.take i)).length + j ∧ (j = 0 ∨ ∃ h : i < fs.length, j < (enc1 fs[i]).length) ∧ (encL fs).take k = encL (fs.take i) ++ (encL (fs.drop i)).take j := by
  intro fs
  induction fs with
  | nil => intro k h; simp [encL] at h; subst h; exact ⟨0, 0, by simp, by simp [encL], .inl rfl, by simp [encL]⟩
  | cons f fs ih =>
    intro k h
    rw [encL_cons] at h ⊢
    rw [List.length_append] at h
    rcases Nat.lt_or_ge k (enc1 f).length with hl | hl
    · refine ⟨0, k, by simp, by simp [encL], .inr ⟨by simp, hl⟩, ?_⟩
      simp [encL]
    · obtain ⟨q, rfl⟩ : ∃ q, k = (enc1 f).length + q := ⟨k - (enc1 f).length, by omega⟩
      obtain ⟨i, j, h1, h2, h3, h4⟩ := ih q (by omega)
      refine ⟨i + 1, j, by simpa using h1, ?_, ?_, ?_⟩
      · rw [List.take_succ_cons, encL_cons, List.length_append]; omega
      · rcases h3 with h3 | ⟨h3, h5⟩
        · exact .inl h3
        · exact .inr ⟨by simpa using h3, by simpa using h5⟩
      · rw [List.take_append, List.take_of_length_le hl, Nat.add_sub_cancel_left, h4, List.take_succ_cons, encL_cons, List.drop_succ_cons, List.append_assoc]
theorem dec_cut {fs : List Fld} (h : rightB fs = true) (hl : (encL fs).length ≤ 10000) {k : Nat} (hk : k ≤ (encL fs).length) :
    (∃ i, i ≤ fs.length ∧ (encL (fs.take i)).length = k ∧ decR ((encL fs).take k) = (fs.take i, 0)) ∨ ((∀ i, i ≤ fs.length → (encL (fs.take i)).length ≠ k) ∧ decR ((encL fs).take k) = ([], 10)) := by
  obtain ⟨h1, h2⟩ := right_chain.1 h
  obtain ⟨i, j, hi, hkj, hj, e⟩ := cut_find fs k hk
  have hs : fs = fs.take i ++ fs.drop i := (List.take_append_drop i fs).symm
  have hch : chain 0 (fs.take i ++ fs.drop i) := by rw [← hs]; exact h2
  obtain ⟨c1, c2⟩ := chain_app.1 hch
  have hlen : ((encL fs).take k).length ≤ 10000 := by rw [List.length_take]; omega
  have hti : (fs.take i).length = i := by rw [List.length_take]; omega
  rcases hj with rfl | ⟨hil, hj⟩
  · left
    refine ⟨i, hi, by omega, ?_⟩
    rw [List.take_zero, List.append_nil] at e
    rw [e]
    rw [e] at hlen
    exact dec_enc (right_chain.2 ⟨by omega, c1⟩) hlen
  · rcases Nat.eq_zero_or_pos j with rfl | hj0
    · left
      refine ⟨i, hi, by omega, ?_⟩
      rw [List.take_zero, List.append_nil] at e
      rw [e]
      rw [e] at hlen
      exact dec_enc (right_chain.2 ⟨by omega, c1⟩) hlen
    · right
      have hd : fs.drop i = fs[i] :: fs.drop (i + 1) := List.drop_eq_getElem_cons hil
      constructor
      · intro q hq heq
        -- the bytes of the first fields rise with their number
        have mono : ∀ a b, a ≤ b → (encL (fs.take a)).length ≤ (encL (fs.take b)).length := by
          intro a b hab
          have : fs.take b = fs.take a ++ (fs.take b).drop a := by
            conv => lhs; rw [← List.take_append_drop a (fs.take b)]
            rw [List.take_take, Nat.min_eq_left hab]
          rw [this, encL_append, List.length_append]; omega
        have hsucc : (encL (fs.take (i + 1))).length = (encL (fs.take i)).length + (enc1 fs[i]).length := by
          rw [List.take_succ_eq_append_getElem hil, encL_append, List.length_append]; simp [encL]
        rcases Nat.lt_or_ge i q with hlt | hge
        · have := mono (i + 1) q hlt; omega
        · have := mono q i hge; omega
      · have e2 : (encL (fs.drop i)).take j = (enc1 fs[i]).take j := by rw [hd, encL_cons, List.take_append_of_le_length (by omega)]
        rw [e2] at e
        rw [e] at hlen ⊢
        rw [hd] at c2
        obtain ⟨⟨a1, a2, a3⟩, _⟩ := c2
        have hlast := (chain_last c1).1
        have hq : ((lastT 0 (fs.take i)).toNat : Int) < fs[i].1 := by rw [Int.toNat_of_nonneg hlast]; exact a1
        rw [decR_comb (by omega), dec_prefix (fs.take i) [] 0 0 _ c1 (by omega)]
        refine comb_err _ (fun h => ?_) (Nat.le_refl _) (takeF_cut hq a2 a3 hj) (by decide)
        have := congrArg List.length h
        simp only [List.length_take, List.length_nil] at this
        omega
end Go.Proofs.Ytndkmepdnekigaa


/-
  Plain mathematics of records: what may be, a record's fields, its bytes, what fields are taken for, by two versions. Nothing of the program is named here.
-/
namespace Go.Proofs.Ytndkmepdnekigaa

/-- What a key has. -/
structure Rcd where
  key : ByteArray
  value : ByteArray
  rev : Int
  life : Int
  note : ByteArray
  extra : List Fld

def zeroR : Rcd := ⟨ByteArray.empty, ByteArray.empty, 0, 0, ByteArray.empty, []⟩

/-- The greatest tag that a version knows. -/
def topT (v : Int) : Int := if v = 2 then 5 else 3
theorem topT_le (v : Int) : 3 ≤ topT v ∧ topT v ≤ 5 := by unfold topT; split <;> omega
/-- Does a version know a tag? -/
def knowB (v t : Int) : Bool := decide (1 ≤ t) && decide (t ≤ topT v)
theorem knowB_iff {v t : Int} : knowB v t = true ↔ 1 ≤ t ∧ t ≤ topT v := by unfold knowB; simp
theorem knowB_no {v t : Int} : knowB v t = false ↔ ¬ (1 ≤ t ∧ t ≤ topT v) := by rw [← knowB_iff]; simp

/-- How many fields are of other tags than 4 and 5. -/
def few (l : List Fld) : Nat := (l.filter fun f => decide (f.1 ≠ 4 ∧ f.1 ≠ 5)).length
theorem few_le (l : List Fld) : few l ≤ l.length := List.length_filter_le _ _
theorem few_snoc (l : List Fld) (f : Fld) : few (l ++ [f]) = few l + (if f.1 ≠ 4 ∧ f.1 ≠ 5 then 1 else 0) := by
  unfold few; rw [List.filter_append, List.length_append]
  by_cases h : f.1 ≠ 4 ∧ f.1 ≠ 5
  · rw [if_pos h, List.filter_cons_of_pos (by simpa using h)]; simp
  · rw [if_neg h, List.filter_cons_of_neg (by simpa using h)]; simp
theorem few_append (a b : List Fld) : few (a ++ b) = few a + few b := by unfold few; rw [List.filter_append, List.length_append]
theorem few_take {fs : List Fld} {k : Nat} (h : k < fs.length) : few (fs.take (k + 1)) = few (fs.take k) + (if tg fs k ≠ 4 ∧ tg fs k ≠ 5 then 1 else 0) := by
  rw [List.take_succ_eq_append_getElem h, few_snoc, tg_at h]
theorem few_take_le {fs : List Fld} {k : Nat} : few (fs.take k) ≤ k := Nat.le_trans (few_le _) (List.length_take_le _ _)

/-- May fields be carried? -/
def extraB (v : Int) (l : List Fld) : Bool := rightB l && decide (few l ≤ 8) && (List.range l.length).all fun i => !knowB v (tg l i)
theorem extraB_iff {v : Int} {l : List Fld} : extraB v l = true ↔ rightB l = true ∧ few l ≤ 8 ∧ ∀ i, i < l.length → knowB v (tg l i) = false := by unfold extraB; simp [and_assoc]
theorem extraB_not {v : Int} {l : List Fld} (h : ¬ (rightB l = true ∧ few l ≤ 8 ∧ ∀ i, i < l.length → knowB v (tg l i) = false)) : extraB v l = false := by
  cases hr : extraB v l with
  | false => rfl
  | true => exact absurd (extraB_iff.1 hr) h

/-- May what version 2 alone knows be? -/
def LaterP (v : Int) (r : Rcd) : Prop := if v = 1 then r.life = 0 ∧ r.note.size = 0 else 0 ≤ r.life ∧ r.life ≤ 9007199254740992 ∧ r.note.size ≤ 40
instance (v : Int) (r : Rcd) : Decidable (LaterP v r) := by unfold LaterP; infer_instance
def laterB (v : Int) (r : Rcd) : Bool := decide (LaterP v r)
/-- May a record be? -/
def RightP (v : Int) (r : Rcd) : Prop := (v = 1 ∨ v = 2) ∧ (1 ≤ r.key.size ∧ r.key.size ≤ 16) ∧ r.value.size ≤ 200 ∧ (0 ≤ r.rev ∧ r.rev ≤ 9007199254740992) ∧ laterB v r = true ∧ extraB v r.extra = true
instance (v : Int) (r : Rcd) : Decidable (RightP v r) := by unfold RightP; infer_instance
def rightR (v : Int) (r : Rcd) : Bool := decide (RightP v r)
theorem rightR_iff {v : Int} {r : Rcd} : rightR v r = true ↔ RightP v r := by unfold rightR; simp
theorem rightR_no {v : Int} {r : Rcd} (h : ¬ RightP v r) : rightR v r = false := by unfold rightR; simpa using h
theorem rightR_yes {v : Int} {r : Rcd} (h : RightP v r) : rightR v r = true := rightR_iff.2 h
theorem laterB_iff {v : Int} {r : Rcd} : laterB v r = true ↔ LaterP v r := by unfold laterB; simp
theorem laterB_one {r : Rcd} : laterB 1 r = true ↔ r.life = 0 ∧ r.note.size = 0 := by rw [laterB_iff]; unfold LaterP; simp
theorem laterB_two {r : Rcd} : laterB 2 r = true ↔ 0 ≤ r.life ∧ r.life ≤ 9007199254740992 ∧ r.note.size ≤ 40 := by rw [laterB_iff]; unfold LaterP; simp

/-- A number's Data; nothing of 0. -/
def numD (n : Int) : ByteArray := if n = 0 then ByteArray.empty else ⟨(vb n.toNat).toArray⟩
/-- The fields of which some may have no Data. -/
def five (r : Rcd) : List Fld := [(1, r.key), (2, r.value), (3, numD r.rev), (4, numD r.life), (5, r.note)]
/-- Those that have Data. -/
def full (l : List Fld) : List Fld := l.filter fun f => decide (f.2.size ≠ 0)
/-- A record's fields. -/
def fieldsR (r : Rcd) : List Fld := full (five r) ++ r.extra
/-- What Encode answers. -/
def recE (v : Int) (r : Rcd) : List UInt8 × Nat := if rightR v r then encR (fieldsR r) else ([], 1)

/-- The number whose bytes a text is; 0: it is none, or that of 0. -/
def wholeN (l : List UInt8) : Nat := if (takeR l).2.2 = 0 ∧ (takeR l).2.1 = l.length then (takeR l).1 else 0
theorem wholeN_le (l : List UInt8) : wholeN l ≤ 9007199254740992 := by unfold wholeN; split; exact takeR_fst_le l; omega
/-- What a known field becomes. -/
def setR (r : Rcd) (t : Int) (d : ByteArray) : Rcd :=
  if t = 1 then { r with key := d } else if t = 2 then { r with value := d } else if t = 3 then { r with rev := wholeN d.data.toList } else if t = 4 then { r with life := wholeN d.data.toList } else { r with note := d }
/-- .. and a field. -/
def stepR (v : Int) (r : Rcd) (f : Fld) : Rcd := if knowB v f.1 then setR r f.1 f.2 else { r with extra := r.extra ++ [f] }
def accR (v : Int) (l : List Fld) : Rcd := l.foldl (stepR v) zeroR
theorem accR_take {v : Int} {fs : List Fld} {k : Nat} (h : k < fs.length) : accR v (fs.take (k + 1)) = stepR v (accR v (fs.take k)) (tg fs k, dt fs k) := by
  unfold accR; rw [List.take_succ_eq_append_getElem h, List.foldl_append, fld_at h]; rfl
/-- May a known field's Data be? (The program's way.) -/
def okD (t : Int) (d : ByteArray) : Bool :=
  if t = 1 then decide (1 ≤ d.size ∧ d.size ≤ 16) else if t = 2 then decide (1 ≤ d.size ∧ d.size ≤ 200) else if t = 3 ∨ t = 4 then decide (0 < wholeN d.data.toList) else decide (1 ≤ d.size ∧ d.size ≤ 40)
/-- (The document's own way: what is left is asked of the record.) -/
def okQ (t : Int) (d : ByteArray) : Bool := decide (1 ≤ d.size) && (if t = 3 ∨ t = 4 then decide (0 < wholeN d.data.toList) else true)
theorem okD_1 (d : ByteArray) : okD 1 d = true ↔ 1 ≤ d.size ∧ d.size ≤ 16 := by simp [okD]
theorem okD_2 (d : ByteArray) : okD 2 d = true ↔ 1 ≤ d.size ∧ d.size ≤ 200 := by simp [okD]
theorem okD_3 (d : ByteArray) : okD 3 d = true ↔ 0 < wholeN d.data.toList := by simp [okD]
theorem okD_4 (d : ByteArray) : okD 4 d = true ↔ 0 < wholeN d.data.toList := by simp [okD]
theorem okD_5 (d : ByteArray) : okD 5 d = true ↔ 1 ≤ d.size ∧ d.size ≤ 40 := by simp [okD]
theorem okQ_1 (d : ByteArray) : okQ 1 d = true ↔ 1 ≤ d.size := by simp [okQ]
theorem okQ_2 (d : ByteArray) : okQ 2 d = true ↔ 1 ≤ d.size := by simp [okQ]
theorem okQ_3 (d : ByteArray) : okQ 3 d = true ↔ 1 ≤ d.size ∧ 0 < wholeN d.data.toList := by simp [okQ]
theorem okQ_4 (d : ByteArray) : okQ 4 d = true ↔ 1 ≤ d.size ∧ 0 < wholeN d.data.toList := by simp [okQ]
theorem okQ_5 (d : ByteArray) : okQ 5 d = true ↔ 1 ≤ d.size := by simp [okQ]
def recP (v : Int) (l : List Fld) : Bool := (List.range l.length).all (fun i => !knowB v (tg l i) || okD (tg l i) (dt l i)) && decide (few (accR v l).extra ≤ 8)
def recQ (v : Int) (l : List Fld) : Bool := (List.range l.length).all (fun i => !knowB v (tg l i) || okQ (tg l i) (dt l i)) && rightR v (accR v l)
theorem recP_iff {v : Int} {l : List Fld} : recP v l = true ↔ (∀ i, i < l.length → knowB v (tg l i) = true → okD (tg l i) (dt l i) = true) ∧ few (accR v l).extra ≤ 8 := by
  unfold recP
  simp only [Bool.and_eq_true, List.all_eq_true, List.mem_range, Bool.or_eq_true, Bool.not_eq_true', decide_eq_true_eq]
  constructor
  · rintro ⟨h1, h2⟩
    refine ⟨fun i hi hk => ?_, h2⟩
    rcases h1 i hi with h | h
    · rw [hk] at h; cases h
    · exact h
  · rintro ⟨h1, h2⟩
    refine ⟨fun i hi => ?_, h2⟩
    cases hk : knowB v (tg l i) with
    | false => exact .inl rfl
    | true => exact .inr (h1 i hi hk)
theorem recQ_iff {v : Int} {l : List Fld} : recQ v l = true ↔ (∀ i, i < l.length → knowB v (tg l i) = true → okQ (tg l i) (dt l i) = true) ∧ rightR v (accR v l) = true := by
  unfold recQ
  simp only [Bool.and_eq_true, List.all_eq_true, List.mem_range, Bool.or_eq_true, Bool.not_eq_true']
  constructor
  · rintro ⟨h1, h2⟩
    refine ⟨fun i hi hk => ?_, h2⟩
    rcases h1 i hi with h | h
    · rw [hk] at h; cases h
    · exact h
  · rintro ⟨h1, h2⟩
    refine ⟨fun i hi => ?_, h2⟩
    cases hk : knowB v (tg l i) with
    | false => exact .inl rfl
    | true => exact .inr (h1 i hi hk)
theorem recP_no {v : Int} {l : List Fld} (h : ¬ ((∀ i, i < l.length → knowB v (tg l i) = true → okD (tg l i) (dt l i) = true) ∧ few (accR v l).extra ≤ 8)) : recP v l = false := by
  cases hr : recP v l with
  | false => rfl
  | true => exact absurd (recP_iff.1 hr) h
theorem recQ_no {v : Int} {l : List Fld} (h : ¬ ((∀ i, i < l.length → knowB v (tg l i) = true → okQ (tg l i) (dt l i) = true) ∧ rightR v (accR v l) = true)) : recQ v l = false := by
  cases hr : recQ v l with
  | false => rfl
  | true => exact absurd (recQ_iff.1 hr) h

/-- What Decode answers: the record, the error. -/
def recD (v : Int) (s : List UInt8) : Rcd × Nat :=
  if ¬ (v = 1 ∨ v = 2) then (zeroR, 1)
  else if (decR s).2 ≠ 0 then (zeroR, (decR s).2)
  else if (findR (decR s).1 1).2 = false then (zeroR, 20)
  else if recP v (decR s).1 = false then (zeroR, 21)
  else (accR v (decR s).1, 0)

/-! ### fields, by their tags -/
theorem all_mem {l : List Fld} {P : Int → ByteArray → Prop} : (∀ i, i < l.length → P (tg l i) (dt l i)) ↔ ∀ f ∈ l, P f.1 f.2 := by
  constructor
  · intro h f hf
    obtain ⟨i, hi, rfl⟩ := List.mem_iff_getElem.1 hf
    have := h i hi
    rwa [tg_at hi, dt_at hi] at this
  · intro h i hi
    rw [tg_at hi, dt_at hi]
    exact h _ (List.getElem_mem _)
/-- A field that may not be there. -/
def opt (t : Int) (o : Option ByteArray) : List Fld := match o with | none => [] | some d => [(t, d)]
def gd (o : Option ByteArray) : ByteArray := o.getD ByteArray.empty
theorem mem_opt {t : Int} {o : Option ByteArray} {f : Fld} : f ∈ opt t o ↔ o = some f.2 ∧ f.1 = t := by
  cases o with
  | none => simp [opt]
  | some d =>
    simp only [opt, List.mem_singleton, Option.some.injEq]
    constructor
    · rintro rfl; exact ⟨rfl, rfl⟩
    · rintro ⟨h1, h2⟩; subst h1 h2; rfl
theorem peel {a : Int} {l : List Fld} (h : chain a l) : ∃ o l', l = opt (a + 1) o ++ l' ∧ chain (a + 1) l' := by
  cases l with
  | nil => exact ⟨none, [], rfl, trivial⟩
  | cons f l =>
    obtain ⟨t, d⟩ := f
    simp only [chain] at h
    by_cases he : t = a + 1
    · subst he; exact ⟨some d, l, rfl, h.2⟩
    · exact ⟨none, (t, d) :: l, rfl, by simp only [chain]; exact ⟨⟨by omega, h.1.2⟩, h.2⟩⟩
/-- The known ones, by their tags; and the others. -/
def parts (o1 o2 o3 o4 o5 : Option ByteArray) (E : List Fld) : List Fld := opt 1 o1 ++ (opt 2 o2 ++ (opt 3 o3 ++ (opt 4 o4 ++ (opt 5 o5 ++ E))))
theorem decomp {v : Int} (hv : v = 1 ∨ v = 2) {l : List Fld} (h : rightB l = true) : ∃ o1 o2 o3 o4 o5 E, l = parts o1 o2 o3 o4 o5 E ∧ (v = 1 → o4 = none ∧ o5 = none) ∧ chain (topT v) E ∧ E.length ≤ 64 := by
  obtain ⟨h64, h⟩ := right_chain.1 h
  obtain ⟨o1, l1, rfl, h1⟩ := peel h
  obtain ⟨o2, l2, rfl, h2⟩ := peel h1
  obtain ⟨o3, l3, rfl, h3⟩ := peel h2
  simp only [List.length_append] at h64
  rcases hv with rfl | rfl
  · exact ⟨o1, o2, o3, none, none, l3, rfl, fun _ => ⟨rfl, rfl⟩, h3, by omega⟩
  · obtain ⟨o4, l4, rfl, h4⟩ := peel h3
    obtain ⟨o5, l5, rfl, h5⟩ := peel h4
    simp only [List.length_append] at h64
    exact ⟨o1, o2, o3, o4, o5, l5, rfl, fun h => by omega, h5, by omega⟩
theorem chain_unknown {v : Int} : ∀ {E : List Fld} {a : Int}, topT v ≤ a → chain a E → ∀ f ∈ E, knowB v f.1 = false ∧ a < f.1 := by
  intro E
  induction E with
  | nil => intro a _ _ f hf; cases hf
  | cons g E ih =>
    intro a ha h f hf
    simp only [chain] at h
    rcases List.mem_cons.1 hf with rfl | hf
    · exact ⟨knowB_no.2 (by omega), h.1.1⟩
    · have := ih (a := g.1) (by omega) h.2 f hf
      exact ⟨this.1, by omega⟩
theorem fold_unknown {v : Int} : ∀ (E : List Fld) (r : Rcd), (∀ f ∈ E, knowB v f.1 = false) → E.foldl (stepR v) r = { r with extra := r.extra ++ E } := by
  intro E
  induction E with
  | nil => intro r _; simp
  | cons f E ih =>
    intro r h
    rw [List.foldl_cons, ih _ (fun g hg => h g (List.mem_cons_of_mem _ hg))]
    unfold stepR
    rw [h f List.mem_cons_self]
    simp
theorem whole_nil : wholeN [] = 0 := by rfl
theorem gd_none : gd none = ByteArray.empty := rfl
theorem gd_some (d : ByteArray) : gd (some d) = d := rfl
theorem acc_parts {v : Int} (hv : v = 1 ∨ v = 2) {o1 o2 o3 o4 o5 : Option ByteArray} {E : List Fld} (h1 : v = 1 → o4 = none ∧ o5 = none) (hE : ∀ f ∈ E, knowB v f.1 = false) :
    accR v (parts o1 o2 o3 o4 o5 E) = ⟨gd o1, gd o2, wholeN (gd o3).data.toList, wholeN (gd o4).data.toList, gd o5, E⟩ := by
  have k1 : knowB v 1 = true := knowB_iff.2 (by have := topT_le v; omega)
  have k2 : knowB v 2 = true := knowB_iff.2 (by have := topT_le v; omega)
  have k3 : knowB v 3 = true := knowB_iff.2 (by have := topT_le v; omega)
  have s1 : ∀ (o : Option ByteArray) (b : ByteArray) (c d : Int) (e : ByteArray) (x : List Fld), (opt 1 o).foldl (stepR v) ⟨ByteArray.empty, b, c, d, e, x⟩ = ⟨gd o, b, c, d, e, x⟩ := by
    intro o b c d e x; cases o <;> simp [opt, gd, stepR, setR, k1]
  have s2 : ∀ (o : Option ByteArray) (b : ByteArray) (c d : Int) (e : ByteArray) (x : List Fld), (opt 2 o).foldl (stepR v) ⟨b, ByteArray.empty, c, d, e, x⟩ = ⟨b, gd o, c, d, e, x⟩ := by
    intro o b c d e x; cases o <;> simp [opt, gd, stepR, setR, k2]
  have s3 : ∀ (o : Option ByteArray) (a b : ByteArray) (d : Int) (e : ByteArray) (x : List Fld), (opt 3 o).foldl (stepR v) ⟨a, b, 0, d, e, x⟩ = ⟨a, b, wholeN (gd o).data.toList, d, e, x⟩ := by
    intro o a b d e x; cases o <;> simp [opt, gd, stepR, setR, k3]; simp [whole_nil]
  have s4 : ∀ (o : Option ByteArray) (a b : ByteArray) (c : Int) (e : ByteArray) (x : List Fld), (v = 1 → o = none) → (opt 4 o).foldl (stepR v) ⟨a, b, c, 0, e, x⟩ = ⟨a, b, c, wholeN (gd o).data.toList, e, x⟩ := by
    intro o a b c e x ho
    cases o with
    | none => simp [opt, gd, whole_nil]
    | some d =>
      have : v = 2 := by rcases hv with h | h; exact absurd (ho h) (by simp); exact h
      subst this
      simp [opt, gd, stepR, setR, knowB, topT]
  have s5 : ∀ (o : Option ByteArray) (a b : ByteArray) (c d : Int) (x : List Fld), (v = 1 → o = none) → (opt 5 o).foldl (stepR v) ⟨a, b, c, d, ByteArray.empty, x⟩ = ⟨a, b, c, d, gd o, x⟩ := by
    intro o a b c d x ho
    cases o with
    | none => simp [opt, gd]
    | some d =>
      have : v = 2 := by rcases hv with h | h; exact absurd (ho h) (by simp); exact h
      subst this
      simp [opt, gd, stepR, setR, knowB, topT]
  unfold accR parts zeroR
  rw [List.foldl_append, s1, List.foldl_append, s2, List.foldl_append, s3, List.foldl_append, s4 _ _ _ _ _ _ (fun h => (h1 h).1), List.foldl_append, s5 _ _ _ _ _ _ (fun h => (h1 h).2), fold_unknown _ _ hE]
  simp
theorem all_parts {v : Int} (hv : v = 1 ∨ v = 2) {o1 o2 o3 o4 o5 : Option ByteArray} {E : List Fld} (h1 : v = 1 → o4 = none ∧ o5 = none) (hE : ∀ f ∈ E, knowB v f.1 = false) (P : Int → ByteArray → Bool) :
    (∀ i, i < (parts o1 o2 o3 o4 o5 E).length → knowB v (tg (parts o1 o2 o3 o4 o5 E) i) = true → P (tg (parts o1 o2 o3 o4 o5 E) i) (dt (parts o1 o2 o3 o4 o5 E) i) = true) ↔
      (∀ d, o1 = some d → P 1 d = true) ∧ (∀ d, o2 = some d → P 2 d = true) ∧ (∀ d, o3 = some d → P 3 d = true) ∧ (∀ d, o4 = some d → P 4 d = true) ∧ (∀ d, o5 = some d → P 5 d = true) := by
  have k1 : knowB v 1 = true := knowB_iff.2 (by have := topT_le v; omega)
  have k2 : knowB v 2 = true := knowB_iff.2 (by have := topT_le v; omega)
  have k3 : knowB v 3 = true := knowB_iff.2 (by have := topT_le v; omega)
  have k4 : ∀ d, o4 = some d → knowB v 4 = true := fun d hd => by
    rcases hv with rfl | rfl
    · rw [(h1 rfl).1] at hd; cases hd
    · decide
  have k5 : ∀ d, o5 = some d → knowB v 5 = true := fun d hd => by
    rcases hv with rfl | rfl
    · rw [(h1 rfl).2] at hd; cases hd
    · decide
  rw [all_mem (P := fun t d => knowB v t = true → P t d = true)]
  constructor
  · intro h
    refine ⟨fun d hd => h (1, d) ?_ k1, fun d hd => h (2, d) ?_ k2, fun d hd => h (3, d) ?_ k3, fun d hd => h (4, d) ?_ (k4 d hd), fun d hd => h (5, d) ?_ (k5 d hd)⟩ <;> subst hd <;> simp [parts, opt]
  · rintro ⟨a1, a2, a3, a4, a5⟩ f hf hk
    obtain ⟨t, d⟩ := f
    simp only [parts, List.mem_append, mem_opt] at hf
    rcases hf with ⟨h, rfl⟩ | ⟨h, rfl⟩ | ⟨h, rfl⟩ | ⟨h, rfl⟩ | ⟨h, rfl⟩ | h
    · exact a1 d h
    · exact a2 d h
    · exact a3 d h
    · exact a4 d h
    · exact a5 d h
    · have := hE _ h
      simp only at this hk
      rw [this] at hk; cases hk
theorem opt_size {o : Option ByteArray} (h : ∀ d, o = some d → 1 ≤ d.size) : (gd o).size = 0 ↔ o = none := by
  cases o with
  | none => simp [gd]
  | some d => have := h d rfl; simp only [gd, Option.getD_some]; constructor <;> intro h2; omega; cases h2
theorem find_parts1 {o1 o2 o3 o4 o5 : Option ByteArray} {E : List Fld} (hE : ∀ f ∈ E, (1 : Int) < f.1) : (findR (parts o1 o2 o3 o4 o5 E) 1).2 = true ↔ o1 ≠ none := by
  cases o1 with
  | some d => simp [parts, opt, findR]
  | none =>
    have : findR (parts none o2 o3 o4 o5 E) 1 = (ByteArray.empty, false) := by
      apply findR_no
      rw [all_mem (P := fun t _ => t ≠ 1)]
      intro f hf
      simp only [parts, List.mem_append, mem_opt] at hf
      rcases hf with ⟨h, h2⟩ | ⟨h, h2⟩ | ⟨h, h2⟩ | ⟨h, h2⟩ | ⟨h, h2⟩ | h
      · cases h
      · omega
      · omega
      · omega
      · omega
      · have := hE _ h; omega
    rw [this]; simp
theorem right_extra {v : Int} {E : List Fld} (h : chain (topT v) E) (h64 : E.length ≤ 64) : extraB v E = true ↔ few E ≤ 8 := by
  have hR : rightB E = true := right_chain.2 ⟨h64, chain_mono h (by have := topT_le v; omega)⟩
  have hU : ∀ i, i < E.length → knowB v (tg E i) = false := (all_mem (P := fun t _ => knowB v t = false)).2 fun f hf => (chain_unknown (Int.le_refl _) h f hf).1
  rw [extraB_iff]
  exact ⟨fun h => h.2.1, fun h => ⟨hR, h, hU⟩⟩

/-- (A.) The program's way, and the document's, are one. -/
theorem recP_recQ {v : Int} (hv : v = 1 ∨ v = 2) {l : List Fld} (h : rightB l = true) (hk : (findR l 1).2 = true) : recP v l = recQ v l := by
  obtain ⟨o1, o2, o3, o4, o5, E, rfl, h1, hE, h64⟩ := decomp hv h
  have hU : ∀ f ∈ E, knowB v f.1 = false := fun f hf => (chain_unknown (Int.le_refl _) hE f hf).1
  have hg : ∀ f ∈ E, (1 : Int) < f.1 := fun f hf => by have := (chain_unknown (Int.le_refl _) hE f hf).2; have := topT_le v; omega
  rw [find_parts1 hg] at hk
  obtain ⟨d1, rfl⟩ := Option.ne_none_iff_exists'.1 hk
  rw [Bool.eq_iff_iff, recP_iff, recQ_iff, all_parts hv h1 hU okD, all_parts hv h1 hU okQ, acc_parts hv h1 hU, rightR_iff]
  unfold RightP
  simp only [right_extra hE h64]
  have n3 := wholeN_le (gd o3).data.toList
  have n4 := wholeN_le (gd o4).data.toList
  simp only [okD_1, okD_2, okD_3, okD_4, okD_5, okQ_1, okQ_2, okQ_3, okQ_4, okQ_5, Option.some.injEq]
  have z0 : ∀ (d : ByteArray), 0 < wholeN d.data.toList → 1 ≤ d.size := by
    intro d hd
    rcases Nat.eq_zero_or_pos d.size with h0 | h0
    · have : d.data.toList = [] := List.eq_nil_of_length_eq_zero (by simpa using h0)
      rw [this, whole_nil] at hd; omega
    · exact h0
  have e1 : ∀ (P : ByteArray → Prop), (∀ d, d1 = d → P d) ↔ P d1 := fun P => ⟨fun h => h d1 rfl, fun h d hd => hd ▸ h⟩
  rw [e1 (fun d => 1 ≤ d.size ∧ d.size ≤ 16), e1 (fun d => 1 ≤ d.size)]
  have hl : laterB v ⟨gd (some d1), gd o2, wholeN (gd o3).data.toList, wholeN (gd o4).data.toList, gd o5, E⟩ = true ↔ (gd o5).size ≤ 40 := by
    rcases hv with rfl | rfl
    · obtain ⟨rfl, rfl⟩ := h1 rfl
      rw [laterB_one]; simp [gd_none]; exact whole_nil
    · rw [laterB_two]; simp only; omega
  rw [hl]
  simp only [gd_some]
  constructor
  · rintro ⟨⟨a1, a2, a3, a4, a5⟩, a6⟩
    refine ⟨⟨a1.1, fun d hd => (a2 d hd).1, fun d hd => ⟨z0 d (a3 d hd), a3 d hd⟩, fun d hd => ⟨z0 d (a4 d hd), a4 d hd⟩, fun d hd => (a5 d hd).1⟩, hv, a1, ?_, by omega, ?_, a6⟩
    · cases o2 with
      | none => simp [gd]
      | some d => exact (a2 d rfl).2
    · cases o5 with
      | none => simp [gd]
      | some d => exact (a5 d rfl).2
  · rintro ⟨⟨a1, a2, a3, a4, a5⟩, _, b1, b2, b3, b4, b5⟩
    refine ⟨⟨b1, fun d hd => ⟨a2 d hd, ?_⟩, fun d hd => (a3 d hd).2, fun d hd => (a4 d hd).2, fun d hd => ⟨a5 d hd, ?_⟩⟩, b5⟩
    · subst hd; exact b2
    · subst hd; exact b4
end Go.Proofs.Ytndkmepdnekigaa


/-
  Plain mathematics of records: there and back, by two versions; what one version does not know is carried.
-/
namespace Go.Proofs.Ytndkmepdnekigaa

def ob (d : ByteArray) : Option ByteArray := if d.size = 0 then none else some d
theorem ob_some {d e : ByteArray} (h : ob d = some e) : d = e ∧ 1 ≤ e.size := by
  unfold ob at h
  split at h
  · cases h
  · cases h; exact ⟨rfl, by omega⟩
theorem ob_none {d : ByteArray} : ob d = none ↔ d.size = 0 := by unfold ob; split <;> simp_all
theorem empty_of {d : ByteArray} (h : d.size = 0) : d = ByteArray.empty := by
  obtain ⟨a⟩ := d
  have : a = #[] := Array.eq_empty_of_size_eq_zero h
  subst this; rfl
theorem gd_ob (d : ByteArray) : gd (ob d) = d := by
  unfold ob
  split
  · rename_i h; rw [gd_none, empty_of h]
  · rfl
theorem ob_gd {o : Option ByteArray} (h : ∀ d, o = some d → 1 ≤ d.size) : ob (gd o) = o := by
  cases o with
  | none => rfl
  | some d => have := h d rfl; unfold ob; rw [gd_some, if_neg (by omega)]
theorem full_cons (t : Int) (d : ByteArray) (l : List Fld) : full ((t, d) :: l) = opt t (ob d) ++ full l := by
  unfold full ob
  by_cases h : d.size = 0
  · rw [List.filter_cons_of_neg (by simpa using h), if_pos h]; rfl
  · rw [List.filter_cons_of_pos (by simpa using h), if_neg h]; rfl
theorem full_nil : full [] = [] := rfl
theorem fieldsR_parts (r : Rcd) : fieldsR r = parts (ob r.key) (ob r.value) (ob (numD r.rev)) (ob (numD r.life)) (ob r.note) r.extra := by
  unfold fieldsR five parts
  rw [full_cons, full_cons, full_cons, full_cons, full_cons, full_nil]
  simp only [List.append_assoc, List.nil_append]
theorem numD_size {n : Int} (h0 : 0 ≤ n) (h : n ≤ 9007199254740992) : (numD n).size ≤ 8 := by
  unfold numD
  split
  · decide
  · show (vb n.toNat).toArray.size ≤ 8
    have := vb_len8 (n := n.toNat) (by omega)
    simpa using this
theorem whole_numD {n : Int} (h0 : 0 ≤ n) (h : n ≤ 9007199254740992) : (wholeN (numD n).data.toList : Int) = n := by
  unfold numD
  split
  · rename_i hz; subst hz; rfl
  · show (wholeN (vb n.toNat).toArray.toList : Int) = n
    have h1 := takeR_vb (n := n.toNat) (by omega) []
    rw [List.append_nil] at h1
    unfold wholeN
    rw [List.toList_toArray, h1, if_pos ⟨rfl, rfl⟩]
    simp only; omega
theorem numD_zero {n : Int} : (numD n).size = 0 ↔ n = 0 := by
  unfold numD
  split
  · rename_i h; simp [h]
  · rename_i h
    have := vb_pos n.toNat
    constructor
    · intro h2
      have h3 : (vb n.toNat).toArray.size = 0 := h2
      rw [List.size_toArray] at h3; omega
    · intro h2; exact absurd h2 h
theorem numD_whole {d : ByteArray} (h : 0 < wholeN d.data.toList) : numD (wholeN d.data.toList) = d := by
  unfold numD
  rw [if_neg (by omega)]
  unfold wholeN at h ⊢
  split at h
  · rename_i hc
    rw [if_pos hc]
    have h1 := takeR_ok (l := d.data.toList) (n := (takeR d.data.toList).1) (k := (takeR d.data.toList).2.1) (by rw [← hc.1])
    rw [hc.2, List.take_length] at h1
    rw [Int.toNat_natCast, h1.2.2.2]
  · omega
theorem chain_up {v : Int} {E : List Fld} (h : rightB E = true) (hU : ∀ i, i < E.length → knowB v (tg E i) = false) : chain (topT v) E := by
  obtain ⟨_, hc⟩ := right_chain.1 h
  cases E with
  | nil => trivial
  | cons f E =>
    have := hU 0 (by simp)
    rw [tg_at (by simp)] at this
    have h2 := knowB_no.1 this
    simp only [List.getElem_cons_zero] at h2
    simp only [chain] at hc ⊢
    exact ⟨⟨by omega, hc.1.2⟩, hc.2⟩
theorem few_all {E : List Fld} (h : chain 5 E) : few E = E.length := by
  unfold few
  rw [List.filter_eq_self.2]
  intro f hf
  have := (chain_unknown (v := 2) (a := 5) (Int.le_refl _) h f hf).2
  simp; omega
theorem opt_len (t : Int) (o : Option ByteArray) : (opt t o).length ≤ 1 := by cases o <;> simp [opt]
theorem few_len {v : Int} {E : List Fld} (h : chain (topT v) E) : E.length ≤ few E + 2 := by
  have h3 : chain 3 E := chain_mono h (topT_le v).1
  obtain ⟨o4, l4, rfl, h4⟩ := peel h3
  obtain ⟨o5, l5, rfl, h5⟩ := peel h4
  have := few_all h5
  have := opt_len (3 + 1) o4
  have := opt_len (3 + 1 + 1) o5
  rw [few_append, few_append]
  simp only [List.length_append]; omega
theorem chain_opt {t a : Int} {o : Option ByteArray} {l : List Fld} (h1 : a < t) (h2 : t ≤ 1000000) (h3 : ∀ d, o = some d → d.size ≤ 1000) (h : chain t l) : chain a (opt t o ++ l) := by
  cases o with
  | none => exact chain_mono h (by omega)
  | some d => simp only [opt, List.singleton_append, chain]; exact ⟨⟨h1, h2, h3 d rfl⟩, h⟩
theorem right_fields {v : Int} {r : Rcd} (h : RightP v r) : rightB (fieldsR r) = true ∧ (fieldsR r).length ≤ 15 := by
  obtain ⟨hv, hk, hval, hrev, hl, he⟩ := h
  obtain ⟨e1, e2, e3⟩ := extraB_iff.1 he
  have hc := chain_up e1 e3
  have h1 : v = 1 → ob (numD r.life) = none ∧ ob r.note = none := fun hv1 => by
    subst hv1
    obtain ⟨a, b⟩ := laterB_one.1 hl
    exact ⟨ob_none.2 (numD_zero.2 a), ob_none.2 b⟩
  have hlen := few_len hc
  have l1 := opt_len 1 (ob r.key)
  have l2 := opt_len 2 (ob r.value)
  have l3 := opt_len 3 (ob (numD r.rev))
  have l4 := opt_len 4 (ob (numD r.life))
  have l5 := opt_len 5 (ob r.note)
  rw [fieldsR_parts]
  have hL : (parts (ob r.key) (ob r.value) (ob (numD r.rev)) (ob (numD r.life)) (ob r.note) r.extra).length ≤ 15 := by
    unfold parts; simp only [List.length_append]; omega
  refine ⟨right_chain.2 ⟨by omega, ?_⟩, hL⟩
  unfold parts
  have hn3 := numD_size hrev.1 hrev.2
  refine chain_opt (by omega) (by omega) (fun d hd => by have := (ob_some hd).1; subst this; omega) ?_
  refine chain_opt (by omega) (by omega) (fun d hd => by have := (ob_some hd).1; subst this; omega) ?_
  refine chain_opt (by omega) (by omega) (fun d hd => by have := (ob_some hd).1; subst this; omega) ?_
  rcases hv with rfl | rfl
  · obtain ⟨a, b⟩ := h1 rfl
    rw [a, b]
    exact hc
  · obtain ⟨a, b, c⟩ := laterB_two.1 hl
    have hn4 := numD_size a b
    refine chain_opt (by omega) (by omega) (fun d hd => by have := (ob_some hd).1; subst this; omega) ?_
    exact chain_opt (by omega) (by omega) (fun d hd => by have := (ob_some hd).1; subst this; omega) hc
theorem extra_unknown {v : Int} {r : Rcd} (h : RightP v r) : ∀ f ∈ r.extra, knowB v f.1 = false :=
  (all_mem (P := fun t _ => knowB v t = false)).1 (extraB_iff.1 h.2.2.2.2.2).2.2
theorem later_none {v : Int} {r : Rcd} (h : RightP v r) : v = 1 → ob (numD r.life) = none ∧ ob r.note = none := by
  rintro rfl
  obtain ⟨a, b⟩ := laterB_one.1 h.2.2.2.2.1
  exact ⟨ob_none.2 (numD_zero.2 a), ob_none.2 b⟩
theorem life_bd {v : Int} {r : Rcd} (h : RightP v r) : 0 ≤ r.life ∧ r.life ≤ 9007199254740992 ∧ r.note.size ≤ 40 := by
  rcases h.1 with rfl | rfl
  · obtain ⟨a, b⟩ := laterB_one.1 h.2.2.2.2.1; omega
  · exact laterB_two.1 h.2.2.2.2.1
/-- (B.) A record's fields are taken for that record. -/
theorem acc_fields {v : Int} {r : Rcd} (h : RightP v r) : accR v (fieldsR r) = r ∧ recP v (fieldsR r) = true ∧ (findR (fieldsR r) 1).2 = true := by
  have hl := life_bd h
  have h3 := h.2.2.2.1
  have hacc : accR v (fieldsR r) = r := by
    rw [fieldsR_parts, acc_parts h.1 (later_none h) (extra_unknown h), gd_ob, gd_ob, gd_ob, gd_ob, gd_ob, whole_numD h3.1 h3.2, whole_numD hl.1 hl.2.1]
  refine ⟨hacc, ?_, ?_⟩
  · rw [recP_iff, hacc]
    refine ⟨?_, (extraB_iff.1 h.2.2.2.2.2).2.1⟩
    rw [fieldsR_parts, all_parts h.1 (later_none h) (extra_unknown h) okD]
    refine ⟨fun d hd => (okD_1 d).2 ?_, fun d hd => (okD_2 d).2 ?_, fun d hd => (okD_3 d).2 ?_, fun d hd => (okD_4 d).2 ?_, fun d hd => (okD_5 d).2 ?_⟩
    · obtain ⟨rfl, h2⟩ := ob_some hd; exact h.2.1
    · obtain ⟨rfl, h2⟩ := ob_some hd; exact ⟨h2, h.2.2.1⟩
    · obtain ⟨rfl, h2⟩ := ob_some hd
      have := whole_numD h3.1 h3.2
      have : r.rev ≠ 0 := fun hz => by have := numD_zero.2 hz; omega
      omega
    · obtain ⟨rfl, h2⟩ := ob_some hd
      have := whole_numD hl.1 hl.2.1
      have : r.life ≠ 0 := fun hz => by have := numD_zero.2 hz; omega
      omega
    · obtain ⟨rfl, h2⟩ := ob_some hd; exact ⟨h2, hl.2.2⟩
  · rw [fieldsR_parts, find_parts1]
    · intro hz; have := ob_none.1 hz; have := h.2.1; omega
    · intro f hf
      have hc := chain_up (extraB_iff.1 h.2.2.2.2.2).1 (extraB_iff.1 h.2.2.2.2.2).2.2
      have := (chain_unknown (Int.le_refl _) hc f hf).2
      have := topT_le v
      omega
/-- (B.) Decode undoes Encode. -/
theorem rec_back {v : Int} {r : Rcd} (h : rightR v r = true) (hl : (encL (fieldsR r)).length ≤ 10000) : recE v r = (encL (fieldsR r), 0) ∧ recD v (encL (fieldsR r)) = (r, 0) := by
  have hp := rightR_iff.1 h
  obtain ⟨a1, a2, a3⟩ := acc_fields hp
  have hR := (right_fields hp).1
  refine ⟨?_, ?_⟩
  · unfold recE encR; rw [h, if_pos rfl, hR, if_pos rfl, if_pos hl]
  · unfold recD
    rw [dec_enc hR hl, if_neg (fun hn => hn hp.1), if_neg (by simp)]
    simp only
    rw [a3, a2, a1, if_neg (by simp), if_neg (by simp)]
/-- (C.) Encode undoes Decode. -/
theorem fields_acc {v : Int} (hv : v = 1 ∨ v = 2) {l : List Fld} (h : rightB l = true) (hk : (findR l 1).2 = true) (hp : recP v l = true) : rightR v (accR v l) = true ∧ fieldsR (accR v l) = l := by
  refine ⟨(recQ_iff.1 (recP_recQ hv h hk ▸ hp)).2, ?_⟩
  obtain ⟨h1, _⟩ := recP_iff.1 hp
  obtain ⟨o1, o2, o3, o4, o5, E, rfl, h4, hE, h64⟩ := decomp hv h
  have hU : ∀ f ∈ E, knowB v f.1 = false := fun f hf => (chain_unknown (Int.le_refl _) hE f hf).1
  rw [all_parts hv h4 hU okD] at h1
  obtain ⟨a1, a2, a3, a4, a5⟩ := h1
  have hn : ∀ (o : Option ByteArray), (∀ d, o = some d → 0 < wholeN d.data.toList) → ob (numD (wholeN (gd o).data.toList)) = o := by
    intro o ho
    cases o with
    | none => rfl
    | some d =>
      have hd := ho d rfl
      rw [gd_some, numD_whole hd]
      unfold ob
      rw [if_neg]
      intro hz
      rw [empty_of hz] at hd
      exact absurd hd (by decide)
  rw [acc_parts hv h4 hU, fieldsR_parts]
  simp only
  rw [ob_gd (fun d hd => ((okD_1 d).1 (a1 d hd)).1), ob_gd (fun d hd => ((okD_2 d).1 (a2 d hd)).1), ob_gd (fun d hd => ((okD_5 d).1 (a5 d hd)).1), hn _ (fun d hd => (okD_3 d).1 (a3 d hd)), hn _ (fun d hd => (okD_4 d).1 (a4 d hd))]
theorem recD_no {v : Int} {s : List UInt8} (h : (recD v s).2 ≠ 0) : (recD v s).1 = zeroR := by
  unfold recD at h ⊢
  split
  · rfl
  · rename_i h1
    rw [if_neg h1] at h
    split
    · rfl
    · rename_i h2
      rw [if_neg h2] at h
      split
      · rfl
      · rename_i h3
        rw [if_neg h3] at h
        split
        · rfl
        · rename_i h4
          rw [if_neg h4] at h
          exact absurd rfl h
theorem rec_forth {v : Int} {s : List UInt8} {r : Rcd} (h : recD v s = (r, 0)) : rightR v r = true ∧ recE v r = (s, 0) ∧ fieldsR r = (decR s).1 := by
  unfold recD at h
  split at h
  · simp at h
  rename_i hv
  split at h
  · rename_i h2; simp only [Prod.mk.injEq] at h; exact absurd h.2 h2
  rename_i he
  split at h
  · simp at h
  rename_i hf
  split at h
  · simp at h
  rename_i hp
  simp only [Prod.mk.injEq, and_true] at h
  subst h
  have hv' : v = 1 ∨ v = 2 := by by_cases hh : v = 1 ∨ v = 2; exact hh; exact absurd hh hv
  have hd : decR s = ((decR s).1, 0) := by
    have : (decR s).2 = 0 := by omega
    rw [← this]
  obtain ⟨d1, d2, d3⟩ := dec_ok hd
  have hf' : (findR (decR s).1 1).2 = true := by simpa using hf
  have hp' : recP v (decR s).1 = true := by simpa using hp
  obtain ⟨r1, r2⟩ := fields_acc hv' d3 hf' hp'
  refine ⟨r1, ?_, r2⟩
  unfold recE encR
  rw [r1, if_pos rfl, r2, d3, if_pos rfl, d2, if_pos d1]

/-- (E.) What version 1 makes of a record of version 2: what it does not know is carried. -/
theorem acc_older {r : Rcd} (h : RightP 2 r) : accR 1 (fieldsR r) = ⟨r.key, r.value, r.rev, 0, ByteArray.empty, opt 4 (ob (numD r.life)) ++ (opt 5 (ob r.note) ++ r.extra)⟩ ∧ recP 1 (fieldsR r) = true ∧ (findR (fieldsR r) 1).2 = true := by
  have h3 := h.2.2.2.1
  have hc := chain_up (extraB_iff.1 h.2.2.2.2.2).1 (extraB_iff.1 h.2.2.2.2.2).2.2
  have hg : ∀ f ∈ r.extra, 5 < f.1 := fun f hf => (chain_unknown (Int.le_refl _) hc f hf).2
  have hU : ∀ f ∈ opt 4 (ob (numD r.life)) ++ (opt 5 (ob r.note) ++ r.extra), knowB 1 f.1 = false := by
    intro f hf
    simp only [List.mem_append, mem_opt] at hf
    apply knowB_no.2
    have : topT 1 = 3 := rfl
    rcases hf with ⟨_, h2⟩ | ⟨_, h2⟩ | h2
    · omega
    · omega
    · have := hg f h2; omega
  have he : fieldsR r = parts (ob r.key) (ob r.value) (ob (numD r.rev)) none none (opt 4 (ob (numD r.life)) ++ (opt 5 (ob r.note) ++ r.extra)) := by rw [fieldsR_parts]; rfl
  have hacc : accR 1 (fieldsR r) = ⟨r.key, r.value, r.rev, 0, ByteArray.empty, opt 4 (ob (numD r.life)) ++ (opt 5 (ob r.note) ++ r.extra)⟩ := by
    rw [he, acc_parts (.inl rfl) (fun _ => ⟨rfl, rfl⟩) hU, gd_ob, gd_ob, gd_ob, whole_numD h3.1 h3.2]
    rfl
  refine ⟨hacc, ?_, (acc_fields h).2.2⟩
  rw [recP_iff, hacc]
  refine ⟨?_, ?_⟩
  · rw [he, all_parts (.inl rfl) (fun _ => ⟨rfl, rfl⟩) hU okD]
    refine ⟨fun d hd => (okD_1 d).2 ?_, fun d hd => (okD_2 d).2 ?_, fun d hd => (okD_3 d).2 ?_, (fun d hd => by cases hd), (fun d hd => by cases hd)⟩
    · obtain ⟨rfl, h2⟩ := ob_some hd; exact h.2.1
    · obtain ⟨rfl, h2⟩ := ob_some hd; exact ⟨h2, h.2.2.1⟩
    · obtain ⟨rfl, h2⟩ := ob_some hd
      have := whole_numD h3.1 h3.2
      have : r.rev ≠ 0 := fun hz => by have := numD_zero.2 hz; omega
      omega
  · rw [few_append, few_append]
    have f4 : ∀ o, few (opt 4 o) = 0 := by intro o; cases o <;> simp [opt, few]
    have f5 : ∀ o, few (opt 5 o) = 0 := by intro o; cases o <;> simp [opt, few]
    rw [f4, f5]
    have := (extraB_iff.1 h.2.2.2.2.2).2.1
    omega
end Go.Proofs.Ytndkmepdnekigaa


/-
  Plain mathematics of records that go up and down: a record's fields, taken by the other version.
-/
namespace Go.Proofs.Ytndkmepdnekigaa

/-- What Up answers. -/
def upR (r : Rcd) : Rcd × Nat := if rightR 1 r then (if recP 2 (fieldsR r) then (accR 2 (fieldsR r), 0) else (zeroR, 21)) else (zeroR, 1)
/-- What Down answers. -/
def downR (r : Rcd) : Rcd × Nat := if rightR 2 r then (accR 1 (fieldsR r), 0) else (zeroR, 1)
/-- What To answers. -/
def toR (v u : Int) (r : Rcd) : Rcd × Nat :=
  if rightR v r = true ∧ (u = 1 ∨ u = 2) then (if v = u then (r, 0) else if u = 2 then upR r else downR r) else (zeroR, 1)

theorem upR_arg {r : Rcd} (h : rightR 1 r = false) : upR r = (zeroR, 1) := by unfold upR; rw [h]; rfl
theorem upR_known {r : Rcd} (h : rightR 1 r = true) (h2 : recP 2 (fieldsR r) = false) : upR r = (zeroR, 21) := by unfold upR; rw [h, h2]; rfl
theorem upR_ok {r : Rcd} (h : rightR 1 r = true) (h2 : recP 2 (fieldsR r) = true) : upR r = (accR 2 (fieldsR r), 0) := by unfold upR; rw [h, h2]; rfl
theorem downR_arg {r : Rcd} (h : rightR 2 r = false) : downR r = (zeroR, 1) := by unfold downR; rw [h]; rfl
theorem downR_ok {r : Rcd} (h : rightR 2 r = true) : downR r = (accR 1 (fieldsR r), 0) := by unfold downR; rw [h]; rfl
theorem downR_eq {r : Rcd} (h : rightR 2 r = true) : downR r = (⟨r.key, r.value, r.rev, 0, ByteArray.empty, opt 4 (ob (numD r.life)) ++ (opt 5 (ob r.note) ++ r.extra)⟩, 0) := by
  rw [downR_ok h, (acc_older (rightR_iff.1 h)).1]
theorem downR_err (r : Rcd) : (downR r).2 = 0 ∨ (downR r).2 = 1 := by unfold downR; split; exact .inl rfl; exact .inr rfl
theorem downR_right (r : Rcd) : ((downR r).2 = 0 ↔ rightR 2 r = true) := by
  cases h : rightR 2 r with
  | true => simp [downR_ok h]
  | false => simp [downR_arg h]
theorem upR_errs (r : Rcd) : (upR r).2 = 0 ∨ (upR r).2 = 1 ∨ (upR r).2 = 21 := by
  unfold upR; split
  · split
    · exact .inl rfl
    · exact .inr (.inr rfl)
  · exact .inr (.inl rfl)
theorem upR_right (r : Rcd) : ((upR r).2 = 1 ↔ rightR 1 r = false) := by
  cases h : rightR 1 r with
  | false => simp [upR_arg h]
  | true =>
    cases h2 : recP 2 (fieldsR r) with
    | false => simp [upR_known h h2]
    | true => simp [upR_ok h h2]

/-- (D.) Up undoes Down, and the bytes are the same. -/
theorem down_up {r d : Rcd} (h : downR r = (d, 0)) : rightR 2 r = true ∧ rightR 1 d = true ∧ upR d = (r, 0) ∧ recE 1 d = recE 2 r ∧ fieldsR d = fieldsR r := by
  have hr : rightR 2 r = true := (downR_right r).1 (by rw [h])
  have hp := rightR_iff.1 hr
  rw [downR_ok hr] at h
  have hd : accR 1 (fieldsR r) = d := (Prod.mk.inj h).1
  subst hd
  obtain ⟨_, o2, o3⟩ := acc_older hp
  obtain ⟨f1, f2⟩ := fields_acc (.inl rfl) (right_fields hp).1 o3 o2
  obtain ⟨a1, a2, a3⟩ := acc_fields hp
  refine ⟨hr, f1, ?_, ?_, f2⟩
  · rw [upR_ok f1 (by rw [f2]; exact a2), f2, a1]
  · unfold recE; rw [f1, hr, f2]
/-- (D.) Down undoes Up, and the bytes are the same. -/
theorem up_down {r u : Rcd} (h : upR r = (u, 0)) : rightR 1 r = true ∧ rightR 2 u = true ∧ downR u = (r, 0) ∧ recE 2 u = recE 1 r ∧ fieldsR u = fieldsR r := by
  cases hr : rightR 1 r with
  | false => rw [upR_arg hr] at h; cases h
  | true =>
    cases hq : recP 2 (fieldsR r) with
    | false => rw [upR_known hr hq] at h; cases h
    | true =>
      have hp := rightR_iff.1 hr
      rw [upR_ok hr hq] at h
      have hd : accR 2 (fieldsR r) = u := (Prod.mk.inj h).1
      subst hd
      obtain ⟨a1, a2, a3⟩ := acc_fields hp
      obtain ⟨f1, f2⟩ := fields_acc (.inr rfl) (right_fields hp).1 a3 hq
      refine ⟨rfl, f1, ?_, ?_, f2⟩
      · rw [downR_ok f1, f2, a1]
      · unfold recE; rw [f1, hr, f2]

/-- A right record of version 1, by what it carries. -/
theorem up_split {r : Rcd} (h : RightP 1 r) {o4 o5 : Option ByteArray} {E : List Fld} (e4 : r.extra = opt 4 o4 ++ (opt 5 o5 ++ E)) (c5 : chain 5 E) :
    accR 2 (fieldsR r) = ⟨r.key, r.value, r.rev, wholeN (gd o4).data.toList, gd o5, E⟩ ∧
    (recP 2 (fieldsR r) = true ↔ (∀ d, o4 = some d → okD 4 d = true) ∧ (∀ d, o5 = some d → okD 5 d = true)) := by
  have h3 := h.2.2.2.1
  have hex := extraB_iff.1 h.2.2.2.2.2
  have hU : ∀ f ∈ E, knowB 2 f.1 = false := fun f hf => (chain_unknown (v := 2) (a := 5) (Int.le_refl _) c5 f hf).1
  have hfew : few E ≤ 8 := by
    have h8 := hex.2.1
    rw [e4, few_append, few_append] at h8; omega
  have hl := later_none h rfl
  have hpf : fieldsR r = parts (ob r.key) (ob r.value) (ob (numD r.rev)) o4 o5 E := by
    rw [fieldsR_parts, hl.1, hl.2, e4]; rfl
  have hacc : accR 2 (fieldsR r) = ⟨r.key, r.value, r.rev, wholeN (gd o4).data.toList, gd o5, E⟩ := by
    rw [hpf, acc_parts (.inr rfl) (fun h => by omega) hU, gd_ob, gd_ob, gd_ob, whole_numD h3.1 h3.2]
  refine ⟨hacc, ?_⟩
  rw [recP_iff, hacc]
  simp only
  rw [hpf, all_parts (.inr rfl) (fun h => by omega) hU okD]
  constructor
  · rintro ⟨⟨_, _, _, a4, a5⟩, _⟩; exact ⟨a4, a5⟩
  · rintro ⟨a4, a5⟩
    refine ⟨⟨fun d hd => (okD_1 d).2 ?_, fun d hd => (okD_2 d).2 ?_, fun d hd => (okD_3 d).2 ?_, a4, a5⟩, hfew⟩
    · obtain ⟨rfl, h2⟩ := ob_some hd; exact h.2.1
    · obtain ⟨rfl, h2⟩ := ob_some hd; exact ⟨h2, h.2.2.1⟩
    · obtain ⟨rfl, h2⟩ := ob_some hd
      have := whole_numD h3.1 h3.2
      have : r.rev ≠ 0 := fun hz => by have := numD_zero.2 hz; omega
      omega
theorem up_parts {r : Rcd} (h : RightP 1 r) : ∃ o4 o5 E, r.extra = opt 4 o4 ++ (opt 5 o5 ++ E) ∧ chain 5 E ∧ E.length ≤ 8 ∧
    accR 2 (fieldsR r) = ⟨r.key, r.value, r.rev, wholeN (gd o4).data.toList, gd o5, E⟩ ∧
    (recP 2 (fieldsR r) = true ↔ (∀ d, o4 = some d → okD 4 d = true) ∧ (∀ d, o5 = some d → okD 5 d = true)) := by
  have hex := extraB_iff.1 h.2.2.2.2.2
  have hc := chain_up hex.1 hex.2.2
  obtain ⟨o4, l4, e4, c4⟩ := peel (a := 3) hc
  obtain ⟨o5, E, e5, c5⟩ := peel c4
  rw [e5] at e4
  have hfew : few E ≤ 8 := by
    have h8 := hex.2.1
    rw [e4, few_append, few_append] at h8; omega
  have hE8 : E.length ≤ 8 := by rw [← few_all c5]; exact hfew
  exact ⟨o4, o5, E, e4, c5, hE8, (up_split h e4 c5).1, (up_split h e4 c5).2⟩

/-! ### the document's own way: by the bytes -/
theorem recE_long {v : Int} {r : Rcd} (h : rightR v r = true) : recE v r = if (encL (fieldsR r)).length ≤ 10000 then (encL (fieldsR r), 0) else ([], 12) := by
  unfold recE encR
  rw [h, if_pos rfl, (right_fields (rightR_iff.1 h)).1, if_pos rfl]
theorem recD_down {r : Rcd} (h : rightR 2 r = true) (hl : (encL (fieldsR r)).length ≤ 10000) : recD 1 (encL (fieldsR r)) = downR r := by
  have hp := rightR_iff.1 h
  obtain ⟨_, o2, o3⟩ := acc_older hp
  rw [downR_ok h]
  unfold recD
  rw [dec_enc (right_fields hp).1 hl, if_neg (by simp), if_neg (by simp)]
  simp only
  rw [o3, o2, if_neg (by simp), if_neg (by simp)]
theorem recD_up {r : Rcd} (h : rightR 1 r = true) (hl : (encL (fieldsR r)).length ≤ 10000) : recD 2 (encL (fieldsR r)) = upR r := by
  have hp := rightR_iff.1 h
  have a3 := (acc_fields hp).2.2
  unfold recD
  rw [dec_enc (right_fields hp).1 hl, if_neg (by simp), if_neg (by simp)]
  simp only
  rw [a3, if_neg (by simp)]
  cases h2 : recP 2 (fieldsR r) with
  | false => rw [upR_known h h2]; rfl
  | true => rw [upR_ok h h2]; rfl
theorem small_rec {v : Int} {r : Rcd} (h : RightP v r) (hl : (fieldsR r).length ≤ 9) : (encL (fieldsR r)).length ≤ 10000 := by
  have h1 := encL_take_len (rightB_iff.1 (right_fields h).1).2 (fieldsR r).length (Nat.le_refl _)
  rw [List.take_of_length_le (Nat.le_refl _)] at h1; omega
theorem fields_le (r : Rcd) : (fieldsR r).length ≤ 5 + r.extra.length := by
  have := opt_len 1 (ob r.key)
  have := opt_len 2 (ob r.value)
  have := opt_len 3 (ob (numD r.rev))
  have := opt_len 4 (ob (numD r.life))
  have := opt_len 5 (ob r.note)
  rw [fieldsR_parts]
  unfold parts; simp only [List.length_append]; omega
theorem k107 : 1 ≤ (⟨#[107]⟩ : ByteArray).size ∧ (⟨#[107]⟩ : ByteArray).size ≤ 16 := by decide
theorem z200 : ByteArray.empty.size ≤ 200 := by decide
theorem r53 : (0 : Int) ≤ 9007199254740992 := by decide
/-- What down encodes. -/
def kDown (r : Rcd) : Rcd := ⟨⟨#[107]⟩, ByteArray.empty, 0, r.life, r.note, []⟩
theorem kDown_right {r : Rcd} (h : RightP 2 r) : RightP 2 (kDown r) := by
  have hl := life_bd h
  exact ⟨.inr rfl, k107, z200, ⟨Int.le_refl _, r53⟩, laterB_two.2 hl, rfl⟩
theorem kDown_enc {r : Rcd} (h : RightP 2 r) : recE 2 (kDown r) = (encL (fieldsR (kDown r)), 0) ∧ (encL (fieldsR (kDown r))).length ≤ 10000 := by
  have hs := small_rec (kDown_right h) (by have := fields_le (kDown r); have : (kDown r).extra.length = 0 := rfl; omega)
  refine ⟨?_, hs⟩
  rw [recE_long (rightR_yes (kDown_right h)), if_pos hs]
theorem kDown_dec {r : Rcd} (h : RightP 2 r) : recD 1 (encL (fieldsR (kDown r))) = (⟨⟨#[107]⟩, ByteArray.empty, 0, 0, ByteArray.empty, opt 4 (ob (numD r.life)) ++ opt 5 (ob r.note)⟩, 0) := by
  rw [recD_down (rightR_yes (kDown_right h)) (kDown_enc h).2, downR_eq (rightR_yes (kDown_right h))]
  unfold kDown; simp
theorem chain_rise : ∀ {l : List Fld} {a : Int}, chain a l → ∀ f ∈ l, a < f.1 := by
  intro l
  induction l with
  | nil => intro a _ f hf; cases hf
  | cons g l ih =>
    intro a h f hf
    simp only [chain] at h
    rcases List.mem_cons.1 hf with rfl | hf
    · exact h.1.1
    · have := ih h.2 f hf; have := h.1.1; omega
/-- What up encodes: the first k fields. -/
def kUp (r : Rcd) (k : Nat) : Rcd := ⟨⟨#[107]⟩, ByteArray.empty, 0, 0, ByteArray.empty, r.extra.take k⟩
theorem kUp_right {r : Rcd} (h : RightP 1 r) (k : Nat) : RightP 1 (kUp r k) := by
  obtain ⟨e1, e2, e3⟩ := extraB_iff.1 h.2.2.2.2.2
  have e3' := (all_mem (P := fun t _ => knowB 1 t = false)).1 e3
  refine ⟨.inl rfl, k107, z200, ⟨Int.le_refl _, r53⟩, laterB_one.2 ⟨rfl, rfl⟩, extraB_iff.2 ⟨?_, ?_, ?_⟩⟩
  · obtain ⟨h1, h2⟩ := right_chain.1 e1
    have hs : r.extra = r.extra.take k ++ r.extra.drop k := (List.take_append_drop k r.extra).symm
    rw [hs] at h2
    exact right_chain.2 ⟨by show (r.extra.take k).length ≤ 64; rw [List.length_take]; omega, (chain_app.1 h2).1⟩
  · have hs : r.extra = r.extra.take k ++ r.extra.drop k := (List.take_append_drop k r.extra).symm
    rw [hs, few_append] at e2
    show few (r.extra.take k) ≤ 8
    omega
  · exact (all_mem (P := fun t _ => knowB 1 t = false)).2 (fun f hf => e3' f (List.mem_of_mem_take hf))
/-- The first k fields are those that version 2 knows. -/
theorem lead_up {r : Rcd} (h : RightP 1 r) {k : Nat} (hk : k ≤ r.extra.length) (h5 : ∀ j, j < k → tg r.extra j ≤ 5) (hE : k < r.extra.length → 5 < tg r.extra k) :
    k ≤ 2 ∧ ((upR (kUp r k)).2 = (upR r).2) ∧ ((upR r).2 = 0 → (upR r).1 = ⟨r.key, r.value, r.rev, (upR (kUp r k)).1.life, (upR (kUp r k)).1.note, r.extra.drop k⟩) := by
  obtain ⟨o4, o5, E, e, c5, _, ha, hr⟩ := up_parts h
  have hg := chain_rise c5
  have hk2 : k = (opt 4 o4 ++ opt 5 o5).length := by
    rw [← List.append_assoc] at e
    have hP : ∀ f ∈ opt 4 o4 ++ opt 5 o5, f.1 ≤ 5 := by
      intro f hf
      simp only [List.mem_append, mem_opt] at hf
      omega
    rcases Nat.lt_trichotomy k (opt 4 o4 ++ opt 5 o5).length with hlt | heq | hgt
    · have hlen : k < r.extra.length := by rw [e, List.length_append]; omega
      have h6 := hE hlen
      rw [tg_at hlen] at h6
      have : r.extra[k] = (opt 4 o4 ++ opt 5 o5)[k] := by simp only [e]; rw [List.getElem_append_left hlt]
      rw [this] at h6
      have := hP _ (List.getElem_mem hlt)
      omega
    · exact heq
    · have hlen : (opt 4 o4 ++ opt 5 o5).length < r.extra.length := by omega
      have h6 := h5 _ hgt
      rw [tg_at hlen] at h6
      have hl2 : 0 < E.length := by have h9 := hlen; rw [e] at h9; simp only [List.length_append] at h9; omega
      have : r.extra[(opt 4 o4 ++ opt 5 o5).length] = E[0] := by
        simp only [e]
        rw [List.getElem_append_right (Nat.le_refl _)]
        simp
      rw [this] at h6
      have := hg _ (List.getElem_mem hl2)
      omega
  have htk : r.extra.take k = opt 4 o4 ++ (opt 5 o5 ++ []) := by rw [e, ← List.append_assoc, hk2, List.take_left, List.append_nil]
  have hdk : r.extra.drop k = E := by rw [e, ← List.append_assoc, hk2, List.drop_left]
  obtain ⟨ha2, hr2⟩ := up_split (kUp_right h k) (o4 := o4) (o5 := o5) (E := []) htk trivial
  refine ⟨by have := opt_len 4 o4; have := opt_len 5 o5; rw [hk2, List.length_append]; omega, ?_, ?_⟩
  · have hR := rightR_yes h
    have hR2 := rightR_yes (kUp_right h k)
    cases hq : recP 2 (fieldsR r) with
    | true => rw [upR_ok hR hq, upR_ok hR2 (hr2.2 (hr.1 hq))]
    | false =>
      have : recP 2 (fieldsR (kUp r k)) = false := by rw [Bool.eq_false_iff]; intro h7; rw [hr.2 (hr2.1 h7)] at hq; cases hq
      rw [upR_known hR hq, upR_known hR2 this]
  · intro h0
    have hR := rightR_yes h
    have hR2 := rightR_yes (kUp_right h k)
    cases hq : recP 2 (fieldsR r) with
    | true => rw [upR_ok hR hq, upR_ok hR2 (hr2.2 (hr.1 hq)), hdk]; simp only; rw [ha, ha2]
    | false => rw [upR_known hR hq] at h0; cases h0
theorem kUp_enc {r : Rcd} (h : RightP 1 r) {k : Nat} (hk : k ≤ 2) : recE 1 (kUp r k) = (encL (fieldsR (kUp r k)), 0) ∧ (encL (fieldsR (kUp r k))).length ≤ 10000 ∧ recD 2 (encL (fieldsR (kUp r k))) = upR (kUp r k) := by
  have hl : (kUp r k).extra.length ≤ 2 := by show (r.extra.take k).length ≤ 2; rw [List.length_take]; omega
  have hs := small_rec (kUp_right h k) (by have := fields_le (kUp r k); omega)
  have hR := rightR_yes (kUp_right h k)
  exact ⟨by rw [recE_long hR, if_pos hs], hs, recD_up hR hs⟩
end Go.Proofs.Ytndkmepdnekigaa


/-
  Plain mathematics of sums (E1 to E3): a step halves and may put a constant to it; it is linear and undone; so are eight of them, and a text's sum hangs on the state ahead by a linear map that is undone.
-/
namespace Go.Proofs.Ytndkmepdnekigaa

/-- One step: halved; if the lowest bit was 1, the constant is put to it. -/
def crcStep (n : Nat) : Nat := if n % 2 = 1 then (n / 2) ^^^ 3988292384 else n / 2
/-- Eight steps. -/
def crc8 (n : Nat) : Nat := crcStep (crcStep (crcStep (crcStep (crcStep (crcStep (crcStep (crcStep n)))))))
/-- So many steps. -/
def crcN : Nat → Nat → Nat
  | 0, n => n
  | k + 1, n => crcN k (crcStep n)
theorem crcN_eight (n : Nat) : crcN 8 n = crc8 n := rfl
/-- A text's bytes, behind a state. -/
def crcF (n : Nat) (l : List UInt8) : Nat := l.foldl (fun n b => crc8 (n ^^^ b.toNat)) n
def crcI : Nat := 4294967295
/-- What Of answers. -/
def sumR (l : List UInt8) : Nat := 4294967295 - crcF crcI l
/-- The four bytes of a number. -/
def le4 (n : Nat) : List UInt8 := [(n % 256).toUInt8, (n / 256 % 256).toUInt8, (n / 65536 % 256).toUInt8, (n / 16777216 % 256).toUInt8]

theorem crcStep_lt {n : Nat} (h : n < 4294967296) : crcStep n < 4294967296 := by
  unfold crcStep
  split
  · exact Nat.xor_lt_two_pow (n := 32) (by omega) (by omega)
  · omega
theorem crc8_lt {n : Nat} (h : n < 4294967296) : crc8 n < 4294967296 := crcStep_lt (crcStep_lt (crcStep_lt (crcStep_lt (crcStep_lt (crcStep_lt (crcStep_lt (crcStep_lt h)))))))
theorem xor_lt32 {a b : Nat} (ha : a < 4294967296) (hb : b < 4294967296) : a ^^^ b < 4294967296 := Nat.xor_lt_two_pow (n := 32) ha hb
theorem byte_lt (b : UInt8) : b.toNat < 256 := b.toNat_lt
theorem crcF_lt : ∀ (l : List UInt8) {n : Nat}, n < 4294967296 → crcF n l < 4294967296 := by
  intro l
  induction l with
  | nil => intro n h; exact h
  | cons b l ih =>
    intro n h
    show crcF (crc8 (n ^^^ b.toNat)) l < _
    exact ih (crc8_lt (xor_lt32 h (by have := byte_lt b; omega)))
theorem xor_mod2 (a b : Nat) : (a ^^^ b) % 2 = if a % 2 = b % 2 then 0 else 1 := by
  have h := Nat.testBit_xor (x := a) (y := b) (i := 0)
  simp only [Nat.testBit_zero] at h
  rcases Nat.mod_two_eq_zero_or_one a with ha | ha <;> rcases Nat.mod_two_eq_zero_or_one b with hb | hb <;> rcases Nat.mod_two_eq_zero_or_one (a ^^^ b) with hc | hc <;> simp [ha, hb, hc] at h ⊢
theorem xor_div2 (a b : Nat) : (a ^^^ b) / 2 = (a / 2) ^^^ (b / 2) := by
  apply Nat.eq_of_testBit_eq
  intro i
  rw [Nat.testBit_xor, Nat.testBit_div_two, Nat.testBit_div_two, Nat.testBit_div_two, Nat.testBit_xor]
theorem xor_self_left (a b : Nat) : a ^^^ (a ^^^ b) = b := by rw [← Nat.xor_assoc, Nat.xor_self, Nat.zero_xor]
theorem crcStep_xor (a b : Nat) : crcStep (a ^^^ b) = crcStep a ^^^ crcStep b := by
  unfold crcStep
  rw [xor_mod2, xor_div2]
  rcases Nat.mod_two_eq_zero_or_one a with ha | ha <;> rcases Nat.mod_two_eq_zero_or_one b with hb | hb
  · simp [ha, hb]
  · simp [ha, hb, Nat.xor_assoc]
  · simp only [ha, hb, if_true]
    rw [if_pos (by decide), if_neg (by decide), Nat.xor_assoc, Nat.xor_assoc, Nat.xor_comm (b / 2)]
  · simp only [ha, hb, if_true]
    rw [if_neg (by decide)]
    rw [show (a / 2 ^^^ 3988292384) ^^^ (b / 2 ^^^ 3988292384) = (a / 2 ^^^ b / 2) ^^^ (3988292384 ^^^ 3988292384) from by
      rw [Nat.xor_assoc, Nat.xor_assoc, ← Nat.xor_assoc 3988292384 (b / 2), Nat.xor_comm 3988292384 (b / 2), Nat.xor_assoc (b / 2)]]
    rw [Nat.xor_self, Nat.xor_zero]
theorem crc8_xor (a b : Nat) : crc8 (a ^^^ b) = crc8 a ^^^ crc8 b := by unfold crc8; simp only [crcStep_xor]
theorem crcStep_zero : crcStep 0 = 0 := by decide
theorem crc8_zero : crc8 0 = 0 := by decide
/-- Only 0 becomes 0. -/
theorem crcStep_nz {n : Nat} (hn : n < 4294967296) (h : crcStep n = 0) : n = 0 := by
  unfold crcStep at h
  split at h
  · have h2 : n / 2 = 3988292384 := by
      have h3 : (n / 2 ^^^ 3988292384) ^^^ 3988292384 = 0 ^^^ 3988292384 := by rw [h]
      rw [Nat.xor_assoc, Nat.xor_self, Nat.xor_zero, Nat.zero_xor] at h3
      exact h3
    omega
  · rename_i h1; omega
theorem crc8_nz {n : Nat} (hn : n < 4294967296) (h : crc8 n = 0) : n = 0 := by
  have l1 := crcStep_lt hn
  have l2 := crcStep_lt l1
  have l3 := crcStep_lt l2
  have l4 := crcStep_lt l3
  have l5 := crcStep_lt l4
  have l6 := crcStep_lt l5
  have l7 := crcStep_lt l6
  exact crcStep_nz hn (crcStep_nz l1 (crcStep_nz l2 (crcStep_nz l3 (crcStep_nz l4 (crcStep_nz l5 (crcStep_nz l6 (crcStep_nz l7 h)))))))
theorem xor_zero_iff {a b : Nat} : a ^^^ b = 0 ↔ a = b := by
  constructor
  · intro h
    have h2 := xor_self_left a b
    rw [h, Nat.xor_zero] at h2
    exact h2
  · rintro rfl; exact Nat.xor_self _
theorem crc8_inj {a b : Nat} (ha : a < 4294967296) (hb : b < 4294967296) : crc8 a = crc8 b ↔ a = b := by
  constructor
  · intro h
    have h2 : crc8 (a ^^^ b) = 0 := by rw [crc8_xor, h, Nat.xor_self]
    exact xor_zero_iff.1 (crc8_nz (xor_lt32 ha hb) h2)
  · rintro rfl; rfl
theorem crcF_append (n : Nat) (a b : List UInt8) : crcF n (a ++ b) = crcF (crcF n a) b := by unfold crcF; rw [List.foldl_append]
theorem xor_inj {a b c : Nat} : a ^^^ c = b ^^^ c ↔ a = b := by
  constructor
  · intro h
    have h2 := congrArg (fun x => x ^^^ c) h
    simp only [Nat.xor_assoc, Nat.xor_self, Nat.xor_zero] at h2
    exact h2
  · rintro rfl; rfl
/-- Behind the same bytes, the states are the same just if they were. -/
theorem crcF_inj : ∀ (l : List UInt8) {a b : Nat}, a < 4294967296 → b < 4294967296 → (crcF a l = crcF b l ↔ a = b) := by
  intro l
  induction l with
  | nil => intro a b _ _; exact Iff.rfl
  | cons c l ih =>
    intro a b ha hb
    have hc : c.toNat < 4294967296 := by have := byte_lt c; omega
    show crcF (crc8 (a ^^^ c.toNat)) l = crcF (crc8 (b ^^^ c.toNat)) l ↔ _
    rw [ih (crc8_lt (xor_lt32 ha hc)) (crc8_lt (xor_lt32 hb hc)), crc8_inj (xor_lt32 ha hc) (xor_lt32 hb hc), xor_inj]
/-- Eight halvings of what is moved by eight bits. -/
theorem crcStep_even (n : Nat) : crcStep (2 * n) = n := by unfold crcStep; rw [if_neg (by omega)]; omega
theorem crc8_shift (n : Nat) : crc8 (256 * n) = n := by
  unfold crc8
  rw [show 256 * n = 2 * (2 * (2 * (2 * (2 * (2 * (2 * (2 * n))))))) by omega]
  rw [crcStep_even, crcStep_even, crcStep_even, crcStep_even, crcStep_even, crcStep_even, crcStep_even, crcStep_even]
/-- Four bytes as a number. -/
def num4 (b0 b1 b2 b3 : Nat) : Nat := b0 ^^^ (256 * (b1 ^^^ (256 * (b2 ^^^ (256 * b3)))))
theorem crc_four (n b0 b1 b2 b3 : Nat) : crc8 (crc8 (crc8 (crc8 (n ^^^ b0) ^^^ b1) ^^^ b2) ^^^ b3) = crc8 (crc8 (crc8 (crc8 (n ^^^ num4 b0 b1 b2 b3)))) := by
  unfold num4
  have h1 : ∀ x y : Nat, crc8 x ^^^ y = crc8 (x ^^^ (256 * y)) := fun x y => by rw [crc8_xor, crc8_shift]
  have h2 : ∀ x y : Nat, 256 * (x ^^^ y) = 256 * x ^^^ 256 * y := fun x y => by
    apply Nat.eq_of_testBit_eq
    intro i
    rw [show 256 = 2 ^ 8 from rfl, Nat.testBit_xor, Nat.testBit_two_pow_mul, Nat.testBit_two_pow_mul, Nat.testBit_two_pow_mul, Nat.testBit_xor]
    by_cases h : 8 ≤ i <;> simp [h]
  simp only [h1, h2, Nat.xor_assoc]
theorem xor_add {b m : Nat} (h : b < 256) : b ^^^ (256 * m) = b + 256 * m := by
  apply Nat.eq_of_testBit_eq
  intro i
  rw [Nat.testBit_xor, show (256 : Nat) = 2 ^ 8 from rfl, Nat.add_comm, Nat.testBit_two_pow_mul_add (i := 8) m (by simpa using h), Nat.testBit_two_pow_mul]
  by_cases hi : i < 8
  · simp [hi, show ¬ 8 ≤ i from by omega]
  · have hb : b.testBit i = false := Nat.testBit_lt_two_pow (Nat.lt_of_lt_of_le h (by show 2 ^ 8 ≤ 2 ^ i; exact Nat.pow_le_pow_right (by omega) (by omega)))
    simp [hi, hb, show 8 ≤ i from by omega]
theorem num4_add {b0 b1 b2 b3 : Nat} (h0 : b0 < 256) (h1 : b1 < 256) (h2 : b2 < 256) : num4 b0 b1 b2 b3 = b0 + 256 * b1 + 65536 * b2 + 16777216 * b3 := by
  unfold num4
  rw [xor_add h2, xor_add h1, xor_add h0]; omega
/-- Four bytes' number, and back. -/
theorem num4_le {x : Nat} (h : x < 4294967296) : num4 (x % 256) (x / 256 % 256) (x / 65536 % 256) (x / 16777216 % 256) = x := by
  rw [num4_add (Nat.mod_lt _ (by omega)) (Nat.mod_lt _ (by omega)) (Nat.mod_lt _ (by omega))]; omega
theorem num4_xor (a0 a1 a2 a3 b0 b1 b2 b3 : Nat) : num4 (a0 ^^^ b0) (a1 ^^^ b1) (a2 ^^^ b2) (a3 ^^^ b3) = num4 a0 a1 a2 a3 ^^^ num4 b0 b1 b2 b3 := by
  have h2 : ∀ x y : Nat, 256 * (x ^^^ y) = 256 * x ^^^ 256 * y := fun x y => by
    apply Nat.eq_of_testBit_eq
    intro i
    rw [show 256 = 2 ^ 8 from rfl, Nat.testBit_xor, Nat.testBit_two_pow_mul, Nat.testBit_two_pow_mul, Nat.testBit_two_pow_mul, Nat.testBit_xor]
    by_cases h : 8 ≤ i <;> simp [h]
  unfold num4
  simp only [h2]
  apply Nat.eq_of_testBit_eq
  intro i
  simp only [Nat.testBit_xor]
  generalize a0.testBit i = p0
  generalize b0.testBit i = q0
  generalize (256 * a1).testBit i = p1
  generalize (256 * b1).testBit i = q1
  generalize (256 * (256 * a2)).testBit i = p2
  generalize (256 * (256 * b2)).testBit i = q2
  generalize (256 * (256 * (256 * a3))).testBit i = p3
  generalize (256 * (256 * (256 * b3))).testBit i = q3
  revert p0 q0 p1 q1 p2 q2 p3 q3
  decide
theorem num4_lt {b0 b1 b2 b3 : Nat} (h0 : b0 < 256) (h1 : b1 < 256) (h2 : b2 < 256) (h3 : b3 < 256) : num4 b0 b1 b2 b3 < 4294967296 := by rw [num4_add h0 h1 h2]; omega
/-- Thirty-two steps. -/
def crc32 (n : Nat) : Nat := crc8 (crc8 (crc8 (crc8 n)))
theorem crc32_lt {n : Nat} (h : n < 4294967296) : crc32 n < 4294967296 := crc8_lt (crc8_lt (crc8_lt (crc8_lt h)))
theorem crc32_inj {a b : Nat} (ha : a < 4294967296) (hb : b < 4294967296) : crc32 a = crc32 b ↔ a = b := by
  unfold crc32
  rw [crc8_inj (crc8_lt (crc8_lt (crc8_lt ha))) (crc8_lt (crc8_lt (crc8_lt hb))), crc8_inj (crc8_lt (crc8_lt ha)) (crc8_lt (crc8_lt hb)), crc8_inj (crc8_lt ha) (crc8_lt hb), crc8_inj ha hb]
theorem crcF_four (n : Nat) (b0 b1 b2 b3 : UInt8) : crcF n [b0, b1, b2, b3] = crc32 (n ^^^ num4 b0.toNat b1.toNat b2.toNat b3.toNat) := crc_four n _ _ _ _
theorem toU8 (n : Nat) : (n % 256).toUInt8.toNat = n % 256 := by simp
theorem crcF_le4 (n : Nat) {x : Nat} (h : x < 4294967296) : crcF n (le4 x) = crc32 (n ^^^ x) := by
  unfold le4
  rw [crcF_four, toU8, toU8, toU8, toU8, num4_le h]
theorem le4_len (x : Nat) : (le4 x).length = 4 := rfl
theorem le4_inj {x y : Nat} (hx : x < 4294967296) (hy : y < 4294967296) : le4 x = le4 y ↔ x = y := by
  constructor
  · intro h
    unfold le4 at h
    simp only [List.cons.injEq, and_true] at h
    obtain ⟨h0, h1, h2, h3⟩ := h
    have g0 := congrArg UInt8.toNat h0
    have g1 := congrArg UInt8.toNat h1
    have g2 := congrArg UInt8.toNat h2
    have g3 := congrArg UInt8.toNat h3
    rw [toU8, toU8] at g0 g1 g2 g3
    omega
  · rintro rfl; rfl
theorem sumR_lt (l : List UInt8) : sumR l < 4294967296 := by unfold sumR; omega
theorem crcI_lt : crcI < 4294967296 := by decide
theorem sumR_eq {a b : List UInt8} : sumR a = sumR b ↔ crcF crcI a = crcF crcI b := by
  have h1 := crcF_lt a crcI_lt
  have h2 := crcF_lt b crcI_lt
  unfold sumR; omega
/-- (E3.) What was put to four bytes that stand side by side is seen. -/
theorem sum_changed (u v : List UInt8) (c0 c1 c2 c3 : UInt8) {x : Nat} (hx : x < 4294967296) :
    sumR (u ++ ([c0 ^^^ (x % 256).toUInt8, c1 ^^^ (x / 256 % 256).toUInt8, c2 ^^^ (x / 65536 % 256).toUInt8, c3 ^^^ (x / 16777216 % 256).toUInt8] ++ v)) = sumR (u ++ ([c0, c1, c2, c3] ++ v)) ↔ x = 0 := by
  have hn := crcF_lt u crcI_lt
  rw [sumR_eq, crcF_append, crcF_append, crcF_append, crcF_append, crcF_four, crcF_four]
  simp only [UInt8.toNat_xor, toU8]
  rw [num4_xor, num4_le hx]
  have hc := num4_lt (byte_lt c0) (byte_lt c1) (byte_lt c2) (byte_lt c3)
  generalize num4 c0.toNat c1.toNat c2.toNat c3.toNat = c at *
  generalize crcF crcI u = n at *
  rw [crcF_inj v (crc32_lt (xor_lt32 hn (xor_lt32 hc hx))) (crc32_lt (xor_lt32 hn hc)), crc32_inj (xor_lt32 hn (xor_lt32 hc hx)) (xor_lt32 hn hc)]
  constructor
  · intro h
    rw [← Nat.xor_assoc] at h
    have h2 := congrArg (fun y => (n ^^^ c) ^^^ y) h
    simp only [xor_self_left, Nat.xor_self] at h2
    exact h2
  · rintro rfl; rw [Nat.xor_zero]
theorem xor_ones {n : Nat} (h : n < 4294967296) : n ^^^ (4294967295 - n) = 4294967295 := by
  apply Nat.eq_of_testBit_eq
  intro i
  rw [Nat.testBit_xor, show 4294967295 - n = 2 ^ 32 - (n + 1) from by omega, Nat.testBit_two_pow_sub_succ (by simpa using h), show (4294967295 : Nat) = 2 ^ 32 - 1 from rfl, Nat.testBit_two_pow_sub_one]
  by_cases hi : i < 32
  · simp [hi]
  · have hb : n.testBit i = false := Nat.testBit_lt_two_pow (Nat.lt_of_lt_of_le h (by show 2 ^ 32 ≤ 2 ^ i; exact Nat.pow_le_pow_right (by omega) (by omega)))
    simp [hi, hb]
/-- A text with its sum's bytes behind it: one state for all. -/
theorem crcF_behind (a : List UInt8) : crcF crcI (a ++ le4 (sumR a)) = crc32 4294967295 := by
  rw [crcF_append, crcF_le4 _ (sumR_lt a)]
  unfold sumR
  rw [xor_ones (crcF_lt a crcI_lt)]
theorem sum_behind (a b c : List UInt8) : sumR (a ++ le4 (sumR a)) = sumR (b ++ le4 (sumR b)) ∧ sumR ((a ++ le4 (sumR a)) ++ c) = sumR ((b ++ le4 (sumR b)) ++ c) ∧ (sumR a = sumR b ↔ sumR (a ++ c) = sumR (b ++ c)) := by
  refine ⟨?_, ?_, ?_⟩
  · rw [sumR_eq, crcF_behind, crcF_behind]
  · rw [sumR_eq, crcF_append, crcF_append _ (b ++ le4 (sumR b)), crcF_behind, crcF_behind]
  · rw [sumR_eq, sumR_eq, crcF_append, crcF_append, crcF_inj c (crcF_lt a crcI_lt) (crcF_lt b crcI_lt)]
theorem sum_one (a : List UInt8) {x y : Nat} (hx : x < 4294967296) (hy : y < 4294967296) : (sumR (le4 x) = sumR (le4 y) ↔ x = y) ∧ (sumR (le4 x ++ a) = sumR (le4 y ++ a) ↔ x = y) ∧ (sumR (a ++ le4 x) = sumR (a ++ le4 y) ↔ x = y) := by
  have hi : ∀ n, n < 4294967296 → (crc32 (n ^^^ x) = crc32 (n ^^^ y) ↔ x = y) := fun n hn => by
    rw [crc32_inj (xor_lt32 hn hx) (xor_lt32 hn hy), Nat.xor_comm n x, Nat.xor_comm n y, xor_inj]
  refine ⟨?_, ?_, ?_⟩
  · rw [sumR_eq, crcF_le4 _ hx, crcF_le4 _ hy, hi _ crcI_lt]
  · rw [sumR_eq, crcF_append, crcF_append, crcF_le4 _ hx, crcF_le4 _ hy, crcF_inj a (crc32_lt (xor_lt32 crcI_lt hx)) (crc32_lt (xor_lt32 crcI_lt hy)), hi _ crcI_lt]
  · rw [sumR_eq, crcF_append, crcF_append, crcF_le4 _ hx, crcF_le4 _ hy, hi _ (crcF_lt a crcI_lt)]
end Go.Proofs.Ytndkmepdnekigaa


/-
  Plain mathematics of frames (F1 to F4): their bytes, by two versions, and what is scanned of a text. Nothing of the program is named here.
-/
namespace Go.Proofs.Ytndkmepdnekigaa

structure Frm where
  kind : Int
  flags : Int
  data : ByteArray
def zeroF : Frm := ⟨0, 0, ⟨#[]⟩⟩
/-- A byte of a number. -/
def u8 (z : Int) : UInt8 := UInt8.ofNat z.toNat
/-- F1. -/
def okF (v : Int) (f : Frm) : Bool := decide (1 ≤ f.kind ∧ f.kind ≤ 255 ∧ 0 ≤ f.flags ∧ f.flags ≤ 255 ∧ f.data.size ≤ 4000 ∧ (v = 2 ∨ v = 1 ∧ f.kind ≤ 9 ∧ f.flags = 0))
def dL (f : Frm) : List UInt8 := f.data.data.toList
/-- What stands ahead of Data. -/
def headF (v : Int) (f : Frm) : List UInt8 := if v = 1 then [97, u8 f.kind, UInt8.ofNat (f.data.size / 256), UInt8.ofNat (f.data.size % 256)] else [98, u8 f.flags, u8 f.kind] ++ vb f.data.size
def bodyF (v : Int) (f : Frm) : List UInt8 := headF v f ++ dL f
/-- A frame's bytes. -/
def encF (v : Int) (f : Frm) : List UInt8 := bodyF v f ++ le4 (sumR (bodyF v f))
def encFs (v : Int) (l : List Frm) : List UInt8 := l.flatMap (encF v)
def at_ (l : List UInt8) (i : Nat) : Nat := (l.getD i 0).toNat
/-- How many bytes the head has, and Data; whether it is cut off, or wrong. -/
def sizeR (v : Int) (l : List UInt8) : Nat × Nat × Bool × Bool :=
  if v = 1 then (if l.length < 4 then (0, 0, true, false) else (4, at_ l 2 * 256 + at_ l 3, false, decide (4000 < at_ l 2 * 256 + at_ l 3)))
  else if l.length < 3 then (0, 0, true, false)
  else if (takeR (l.drop 3)).2.2 = 10 then (0, 0, true, false)
  else (3 + (takeR (l.drop 3)).2.1, (takeR (l.drop 3)).1, false, decide ((takeR (l.drop 3)).2.2 ≠ 0 ∨ 4000 < (takeR (l.drop 3)).1))
/-- The frame of a head, and Data. -/
def madeF (v : Int) (l : List UInt8) (k n : Nat) : Frm := ⟨(if v = 2 then (at_ l 2 : Int) else (at_ l 1 : Int)), (if v = 2 then (at_ l 1 : Int) else 0), ⟨((l.drop k).take n).toArray⟩⟩
/-- The frame that a text begins with: it, its bytes (0: none), and what is wrong. -/
def oneR (v : Int) (l : List UInt8) : Frm × Nat × Nat :=
  if at_ l 0 ≠ 97 ∧ at_ l 0 ≠ 98 then (zeroF, 0, 11)
  else if ¬ (at_ l 0 = 97 ↔ v = 1) then (zeroF, 0, 22)
  else if (sizeR v l).2.2.2 = true then (zeroF, 0, 11)
  else if (sizeR v l).2.2.1 = true ∨ l.length < (sizeR v l).1 + (sizeR v l).2.1 + 4 then (zeroF, 0, 0)
  else if okF v (madeF v l (sizeR v l).1 (sizeR v l).2.1) = false ∨ le4 (sumR (l.take ((sizeR v l).1 + (sizeR v l).2.1))) ≠ (l.drop ((sizeR v l).1 + (sizeR v l).2.1)).take 4 then (zeroF, 0, 11)
  else (madeF v l (sizeR v l).1 (sizeR v l).2.1, (sizeR v l).1 + (sizeR v l).2.1 + 4, 0)
/-- What is scanned: frames, how many bytes they are, how it ends. -/
def scanR (v : Int) (l : List UInt8) : List Frm × Nat × Nat :=
  if l = [] then ([], 0, 0)
  else if _h : (oneR v l).2.2 ≠ 0 ∨ (oneR v l).2.1 = 0 then ([], 0, (oneR v l).2.2)
  else ((oneR v l).1 :: (scanR v (l.drop (oneR v l).2.1)).1, (oneR v l).2.1 + (scanR v (l.drop (oneR v l).2.1)).2.1, (scanR v (l.drop (oneR v l).2.1)).2.2)
termination_by l.length
decreasing_by
  all_goals
    rw [List.length_drop]
    have h1 : l ≠ [] := by assumption
    have h2 := List.length_pos_iff.2 h1
    omega
/-- Of any version. -/
def scanV (v : Int) (l : List UInt8) : List Frm × Nat × Nat := if v = 1 ∨ v = 2 then scanR v l else ([], 0, 1)

theorem scan_nil (v : Int) : scanR v [] = ([], 0, 0) := by rw [scanR]; simp
theorem scan_stop {v : Int} {l : List UInt8} (hl : l ≠ []) (h : (oneR v l).2.2 ≠ 0 ∨ (oneR v l).2.1 = 0) : scanR v l = ([], 0, (oneR v l).2.2) := by
  rw [scanR, if_neg hl, dif_pos h]
theorem scan_step {v : Int} {l : List UInt8} (hl : l ≠ []) (h : ¬ ((oneR v l).2.2 ≠ 0 ∨ (oneR v l).2.1 = 0)) :
    scanR v l = ((oneR v l).1 :: (scanR v (l.drop (oneR v l).2.1)).1, (oneR v l).2.1 + (scanR v (l.drop (oneR v l).2.1)).2.1, (scanR v (l.drop (oneR v l).2.1)).2.2) := by
  rw [scanR, if_neg hl, dif_neg h]

theorem okF_iff {v : Int} {f : Frm} : okF v f = true ↔ 1 ≤ f.kind ∧ f.kind ≤ 255 ∧ 0 ≤ f.flags ∧ f.flags ≤ 255 ∧ f.data.size ≤ 4000 ∧ (v = 2 ∨ v = 1 ∧ f.kind ≤ 9 ∧ f.flags = 0) := by unfold okF; simp
theorem okF_v {v : Int} {f : Frm} (h : okF v f = true) : v = 1 ∨ v = 2 := by have := okF_iff.1 h; omega
theorem dL_len (f : Frm) : (dL f).length = f.data.size := by unfold dL; simp
theorem u8_nat {z : Int} (h0 : 0 ≤ z) (h1 : z ≤ 255) : ((u8 z).toNat : Int) = z := by unfold u8; rw [toNat_ofNat_lt (by omega)]; omega
theorem data_back (f : Frm) : (⟨(dL f).toArray⟩ : ByteArray) = f.data := by unfold dL; simp
theorem Frm.eq {f g : Frm} (h1 : f.kind = g.kind) (h2 : f.flags = g.flags) (h3 : f.data = g.data) : f = g := by cases f; cases g; simp_all
theorem head_len1 (f : Frm) : (headF 1 f).length = 4 := by unfold headF; simp
theorem head_len2 (f : Frm) : (headF 2 f).length = 3 + (vb f.data.size).length := by unfold headF; simp; omega
theorem enc_len (v : Int) (f : Frm) : (encF v f).length = (headF v f).length + f.data.size + 4 := by
  unfold encF bodyF; simp only [List.length_append, dL_len, le4_len]
theorem enc_pos (v : Int) (f : Frm) : 4 ≤ (encF v f).length := by rw [enc_len]; omega
theorem le4_four {l : List UInt8} {n : Nat} (h : l = le4 n) : l.length = 4 := by rw [h]; rfl

/-- What a head is read as, whatever stands behind it. -/
theorem size_head {v : Int} {f : Frm} (h : okF v f = true) (m : List UInt8) : sizeR v (headF v f ++ m) = ((headF v f).length, f.data.size, false, false) := by
  have ho := okF_iff.1 h
  rcases okF_v h with rfl | rfl
  · rw [head_len1]
    unfold sizeR
    rw [if_pos rfl, if_neg (by rw [List.length_append, head_len1]; omega)]
    have e2 : at_ (headF 1 f ++ m) 2 = f.data.size / 256 := by unfold at_ headF; simp; omega
    have e3 : at_ (headF 1 f ++ m) 3 = f.data.size % 256 := by unfold at_ headF; simp
    rw [e2, e3, show f.data.size / 256 * 256 + f.data.size % 256 = f.data.size by omega]
    simp; omega
  · rw [head_len2]
    have ed : (headF 2 f ++ m).drop 3 = vb f.data.size ++ m := by unfold headF; simp
    unfold sizeR
    rw [if_neg (by omega), if_neg (by rw [List.length_append, head_len2]; omega), ed, takeR_vb (by omega)]
    simp; omega
/-- The frame that is made of a head and Data. -/
theorem made_head {v : Int} {f : Frm} (h : okF v f = true) (d m : List UInt8) (hd : d.length = f.data.size) : madeF v (headF v f ++ (d ++ m)) (headF v f).length f.data.size = ⟨f.kind, f.flags, ⟨d.toArray⟩⟩ := by
  have ho := okF_iff.1 h
  have e0 : ((headF v f ++ (d ++ m)).drop (headF v f).length).take f.data.size = d := by simp [← hd]
  unfold madeF
  rw [e0]
  rcases okF_v h with rfl | rfl
  · have e1 : ((at_ (headF 1 f ++ (d ++ m)) 1 : Nat) : Int) = f.kind := by
      have : at_ (headF 1 f ++ (d ++ m)) 1 = (u8 f.kind).toNat := by unfold at_ headF; simp
      rw [this]; exact u8_nat (by omega) (by omega)
    rw [if_neg (by omega), if_neg (by omega), e1]
    exact Frm.eq rfl (by show (0 : Int) = f.flags; omega) rfl
  · have e1 : ((at_ (headF 2 f ++ (d ++ m)) 1 : Nat) : Int) = f.flags := by
      have : at_ (headF 2 f ++ (d ++ m)) 1 = (u8 f.flags).toNat := by unfold at_ headF; simp
      rw [this]; exact u8_nat (by omega) (by omega)
    have e2 : ((at_ (headF 2 f ++ (d ++ m)) 2 : Nat) : Int) = f.kind := by
      have : at_ (headF 2 f ++ (d ++ m)) 2 = (u8 f.kind).toNat := by unfold at_ headF; simp
      rw [this]; exact u8_nat (by omega) (by omega)
    rw [if_pos rfl, if_pos rfl, e1, e2]
theorem letter_head {v : Int} {f : Frm} (h : v = 1 ∨ v = 2) (m : List UInt8) : at_ (headF v f ++ m) 0 = (if v = 1 then 97 else 98) := by
  rcases h with rfl | rfl <;> (unfold at_ headF; simp)
/-- A head, as much Data as it says, four bytes, and anything: a frame, or ErrForm. -/
theorem one_form {v : Int} {f : Frm} (h : okF v f = true) (d s m : List UInt8) (hd : d.length = f.data.size) (hs : s.length = 4) :
    oneR v (headF v f ++ (d ++ (s ++ m))) = if s = le4 (sumR (headF v f ++ d)) then (⟨f.kind, f.flags, ⟨d.toArray⟩⟩, (headF v f).length + f.data.size + 4, 0) else (zeroF, 0, 11) := by
  have hv := okF_v h
  have ho := okF_iff.1 h
  have hz := size_head h (d ++ (s ++ m))
  have hm := made_head h d (s ++ m) hd
  have hl := letter_head (f := f) hv (d ++ (s ++ m))
  have hok : okF v ⟨f.kind, f.flags, ⟨d.toArray⟩⟩ = true := by
    rw [okF_iff]
    exact ⟨ho.1, ho.2.1, ho.2.2.1, ho.2.2.2.1, by show d.toArray.size ≤ 4000; simp; omega, ho.2.2.2.2.2⟩
  have ht : (headF v f ++ (d ++ (s ++ m))).take ((headF v f).length + f.data.size) = headF v f ++ d := by
    rw [← List.append_assoc, List.take_left' (by rw [List.length_append, hd])]
  have hr : ((headF v f ++ (d ++ (s ++ m))).drop ((headF v f).length + f.data.size)).take 4 = s := by
    rw [← List.append_assoc, List.drop_left' (by rw [List.length_append, hd]), List.take_left' hs]
  unfold oneR
  rw [hz, hm, ht, hr, hl]
  simp only []
  rw [if_neg (by rcases hv with rfl | rfl <;> simp), if_neg (by rcases hv with rfl | rfl <;> simp), if_neg (by simp), if_neg (by simp only [List.length_append, hd, hs]; simp; omega)]
  by_cases hs4 : s = le4 (sumR (headF v f ++ d))
  · rw [if_pos hs4, if_neg (by rw [hok, ← hs4]; simp)]
  · rw [if_neg hs4, if_pos (.inr (fun e => hs4 e.symm))]
theorem one_enc {v : Int} {f : Frm} (h : okF v f = true) (m : List UInt8) : oneR v (encF v f ++ m) = (f, (encF v f).length, 0) := by
  have e : encF v f ++ m = headF v f ++ (dL f ++ (le4 (sumR (bodyF v f)) ++ m)) := by unfold encF bodyF; simp [List.append_assoc]
  rw [e, one_form h _ _ _ (dL_len f) rfl]
  rw [if_pos (by rfl), enc_len]
  exact congrArg (fun x => (x, _, 0)) (Frm.eq rfl rfl (data_back f))
theorem scan_cons {v : Int} {f : Frm} (h : okF v f = true) (m : List UInt8) : scanR v (encF v f ++ m) = (f :: (scanR v m).1, (encF v f).length + (scanR v m).2.1, (scanR v m).2.2) := by
  have h1 := one_enc h m
  have hp := enc_pos v f
  have hne : encF v f ++ m ≠ [] := by intro e; have := congrArg List.length e; simp at this; rw [this.1] at hp; simp at hp
  rw [scan_step hne (by rw [h1]; show ¬ ((0 : Nat) ≠ 0 ∨ (encF v f).length = 0); omega), h1]
  simp
/-- Frames, one behind the other, and anything. -/
theorem scan_encs {v : Int} : ∀ (l : List Frm) (m : List UInt8), (∀ f ∈ l, okF v f = true) → scanR v (encFs v l ++ m) = (l ++ (scanR v m).1, (encFs v l).length + (scanR v m).2.1, (scanR v m).2.2)
  | [], m, _ => by simp [encFs]
  | f :: l, m, h => by
    have e : encFs v (f :: l) ++ m = encF v f ++ (encFs v l ++ m) := by simp [encFs]
    have e2 : (encFs v (f :: l)).length = (encF v f).length + (encFs v l).length := by simp [encFs]
    rw [e, scan_cons (h f (by simp)), scan_encs l m (fun g hg => h g (by simp [hg])), e2]
    simp; omega
theorem scan_back {v : Int} (l : List Frm) (h : ∀ f ∈ l, okF v f = true) : scanR v (encFs v l) = (l, (encFs v l).length, 0) := by
  have := scan_encs l [] h
  rw [List.append_nil, scan_nil] at this
  simpa using this

/-- Cut off within a frame: nothing is told, and no error. -/
theorem one_cut {v : Int} {f : Frm} (h : okF v f = true) {j : Nat} (h0 : 0 < j) (hj : j < (encF v f).length) : oneR v ((encF v f).take j) = (zeroF, 0, 0) := by
  have hv := okF_v h
  have ho := okF_iff.1 h
  have hlen : ((encF v f).take j).length = j := by rw [List.length_take]; omega
  have e : encF v f = headF v f ++ (dL f ++ le4 (sumR (bodyF v f))) := by unfold encF bodyF; simp [List.append_assoc]
  have hl : at_ ((encF v f).take j) 0 = (if v = 1 then 97 else 98) := by
    have : at_ ((encF v f).take j) 0 = at_ (encF v f) 0 := by unfold at_; rw [List.getD_eq_getElem?_getD, List.getD_eq_getElem?_getD, List.getElem?_take_of_lt h0]
    rw [this, e, letter_head hv]
  -- what is read of the head's length
  have hz : sizeR v ((encF v f).take j) = (0, 0, true, false) ∨ sizeR v ((encF v f).take j) = ((headF v f).length, f.data.size, false, false) := by
    by_cases hh : (headF v f).length ≤ j
    · right
      have e2 : (encF v f).take j = headF v f ++ (dL f ++ le4 (sumR (bodyF v f))).take (j - (headF v f).length) := by rw [e, List.take_append, List.take_of_length_le hh]
      rw [e2, size_head h]
    · left
      have e2 : (encF v f).take j = (headF v f).take j := by rw [e, List.take_append_of_le_length (by omega)]
      rcases hv with rfl | rfl
      · rw [head_len1] at hh
        unfold sizeR
        rw [if_pos rfl, if_pos (by rw [hlen]; omega)]
      · rw [head_len2] at hh
        unfold sizeR
        rw [if_neg (by omega)]
        by_cases h3 : j < 3
        · rw [if_pos (by rw [hlen]; exact h3)]
        · have e3 : ((headF 2 f).take j).drop 3 = (vb f.data.size).take (j - 3) := by
            have : (headF 2 f).drop 3 = vb f.data.size := by unfold headF; simp
            rw [List.drop_take, this]
          rw [if_neg (by rw [hlen]; exact h3), e2, e3, takeR_cut (by omega) (by omega), if_pos rfl]
  unfold oneR
  rw [hl, if_neg (by rcases hv with rfl | rfl <;> simp), if_neg (by rcases hv with rfl | rfl <;> simp)]
  rw [enc_len] at hj
  rcases hz with hz | hz
  · rw [hz, if_neg (by simp), if_pos (.inl rfl)]
  · rw [hz, if_neg (by simp), if_pos (.inr (by rw [hlen]; exact hj))]
/-- How many frames are whole ahead of a place. -/
def whole (v : Int) : List Frm → Nat → Nat
  | [], _ => 0
  | f :: l, k => if (encF v f).length ≤ k then 1 + whole v l (k - (encF v f).length) else 0
theorem whole_le (v : Int) : ∀ (l : List Frm) (k : Nat), whole v l k ≤ l.length
  | [], _ => Nat.le_refl _
  | f :: l, k => by
    unfold whole
    have := whole_le v l (k - (encF v f).length)
    split <;> simp <;> omega
theorem encFs_cons (v : Int) (f : Frm) (l : List Frm) : encFs v (f :: l) = encF v f ++ encFs v l := by simp [encFs]
theorem encFs_append (v : Int) (l m : List Frm) : encFs v (l ++ m) = encFs v l ++ encFs v m := by simp [encFs]
theorem whole_fit (v : Int) : ∀ (l : List Frm) (k : Nat), (encFs v (l.take (whole v l k))).length ≤ k ∧ (whole v l k < l.length → k < (encFs v (l.take (whole v l k + 1))).length)
  | [], k => by simp [encFs, whole]
  | f :: l, k => by
    have ih := whole_fit v l (k - (encF v f).length)
    have hp := enc_pos v f
    unfold whole
    by_cases h : (encF v f).length ≤ k
    · rw [if_pos h, Nat.add_comm 1]
      simp only [List.take_succ_cons, encFs_cons, List.length_append, List.length_cons]
      refine ⟨by omega, fun hl => ?_⟩
      have := ih.2 (by omega)
      omega
    · rw [if_neg h]
      simp only [List.take_zero, List.take_succ_cons, encFs_cons, List.length_append]
      refine ⟨by simp [encFs], fun _ => by omega⟩
/-- Whatever is cut off at the end: the frames that are whole, all their bytes, no error. -/
theorem scan_torn {v : Int} : ∀ (l : List Frm) (k : Nat), (∀ f ∈ l, okF v f = true) → scanR v ((encFs v l).take k) = (l.take (whole v l k), (encFs v (l.take (whole v l k))).length, 0)
  | [], k, _ => by simp [encFs, whole, scan_nil]
  | f :: l, k, h => by
    have hf := h f (by simp)
    have ih := scan_torn l (k - (encF v f).length) (fun g hg => h g (by simp [hg]))
    rw [encFs_cons]
    unfold whole
    by_cases hk : (encF v f).length ≤ k
    · rw [if_pos hk, List.take_append, List.take_of_length_le hk, scan_cons hf, ih, Nat.add_comm 1, List.take_succ_cons, encFs_cons]
      simp
    · rw [if_neg hk, List.take_append_of_le_length (by omega)]
      by_cases h0 : k = 0
      · subst h0; simp [scan_nil, encFs]
      · have hne : (encF v f).take k ≠ [] := by intro e; have := congrArg List.length e; rw [List.length_take, List.length_nil] at this; omega
        have h1 := one_cut hf (j := k) (by omega) (by omega)
        rw [scan_stop hne (by rw [h1]; exact .inr rfl), h1]
        simp [encFs]
/-- One byte that is another one: another sum. -/
theorem sum_byte (u v : List UInt8) (c d : UInt8) (hd : c ≠ d) : sumR (u ++ (d :: v)) ≠ sumR (u ++ (c :: v)) := by
  intro h
  have hn := crcF_lt u crcI_lt
  rw [sumR_eq, crcF_append, crcF_append] at h
  have hc := byte_lt c
  have hd' := byte_lt d
  generalize crcF crcI u = n at *
  have h2 : crcF (crc8 (n ^^^ d.toNat)) v = crcF (crc8 (n ^^^ c.toNat)) v := h
  rw [crcF_inj v (crc8_lt (xor_lt32 hn (by omega))) (crc8_lt (xor_lt32 hn (by omega))), crc8_inj (xor_lt32 hn (by omega)) (xor_lt32 hn (by omega))] at h2
  have h3 := congrArg (fun x => n ^^^ x) h2
  simp only [xor_self_left] at h3
  exact hd (UInt8.toNat_inj.1 h3.symm)
/-- One byte of Data, or of the sum, that is another one: ErrForm. (p: its place in Data and the sum.) -/
theorem one_wrong {v : Int} {f : Frm} (h : okF v f = true) (m : List UInt8) (p : Nat) (b : UInt8) (hp : p < f.data.size + 4) (hb : (encF v f)[(headF v f).length + p]? ≠ some b) :
    oneR v ((encF v f).set ((headF v f).length + p) b ++ m) = (zeroF, 0, 11) := by
  have e : encF v f = headF v f ++ (dL f ++ le4 (sumR (bodyF v f))) := by unfold encF bodyF; simp [List.append_assoc]
  have hget : (encF v f)[(headF v f).length + p]? = (dL f ++ le4 (sumR (bodyF v f)))[p]? := by rw [e, List.getElem?_append_right (by omega), Nat.add_sub_cancel_left]
  rw [hget] at hb
  have hset : (encF v f).set ((headF v f).length + p) b = headF v f ++ (dL f ++ le4 (sumR (bodyF v f))).set p b := by
    rw [e, List.set_append_right _ _ (by omega), Nat.add_sub_cancel_left]
  rw [hset, List.append_assoc]
  by_cases hpd : p < f.data.size
  · have hs : (dL f ++ le4 (sumR (bodyF v f))).set p b = (dL f).set p b ++ le4 (sumR (bodyF v f)) := by rw [List.set_append_left _ _ (by rw [dL_len]; exact hpd)]
    rw [hs, List.append_assoc, one_form h _ _ _ (by rw [List.length_set, dL_len]) rfl, if_neg]
    intro hh
    rw [le4_inj (sumR_lt _) (sumR_lt _)] at hh
    have hpl : p < (dL f).length := by rw [dL_len]; exact hpd
    rw [List.getElem?_append_left hpl, List.getElem?_eq_getElem hpl] at hb
    have d1 : dL f = (dL f).take p ++ ((dL f)[p] :: (dL f).drop (p + 1)) := by rw [List.getElem_cons_drop, List.take_append_drop]
    have d2 : (dL f).set p b = (dL f).take p ++ (b :: (dL f).drop (p + 1)) := by rw [List.set_eq_take_append_cons_drop, if_pos hpl]
    have hw := sum_byte (headF v f ++ (dL f).take p) ((dL f).drop (p + 1)) (dL f)[p] b (fun e => hb (by rw [e]))
    apply hw
    rw [List.append_assoc, List.append_assoc, ← d1, ← d2]
    exact hh.symm
  · have hs : (dL f ++ le4 (sumR (bodyF v f))).set p b = dL f ++ (le4 (sumR (bodyF v f))).set (p - f.data.size) b := by
      rw [List.set_append_right _ _ (by rw [dL_len]; omega), dL_len]
    rw [hs, List.append_assoc, one_form h _ _ _ (dL_len f) (by rw [List.length_set]; rfl), if_neg]
    intro hh
    have hq : p - f.data.size < (le4 (sumR (bodyF v f))).length := by rw [le4_len]; omega
    rw [List.getElem?_append_right (by rw [dL_len]; omega), dL_len] at hb
    apply hb
    have := congrArg (fun l => l[p - f.data.size]?) hh
    simp only [List.getElem?_set_self hq] at this
    exact this.symm
theorem scan_wrong {v : Int} (l : List Frm) (f : Frm) (hl : ∀ g ∈ l, okF v g = true) (h : okF v f = true) (m : List UInt8) (p : Nat) (b : UInt8) (hp : p < f.data.size + 4) (hb : (encF v f)[(headF v f).length + p]? ≠ some b) :
    scanR v (encFs v l ++ ((encF v f).set ((headF v f).length + p) b ++ m)) = (l, (encFs v l).length, 11) := by
  have h1 := one_wrong h m p b hp hb
  have hpos := enc_pos v f
  have hne : (encF v f).set ((headF v f).length + p) b ++ m ≠ [] := by intro e; have := congrArg List.length e; simp at this; rw [this.1] at hpos; simp at hpos
  rw [scan_encs l _ hl, scan_stop hne (by rw [h1]; exact .inl (by simp)), h1]
  simp
/-- What one version wrote the other one does not read. -/
theorem one_other {v : Int} {f : Frm} (hv : v = 1 ∨ v = 2) (m : List UInt8) : oneR (3 - v) (encF v f ++ m) = (zeroF, 0, 22) := by
  have e : encF v f ++ m = headF v f ++ (dL f ++ (le4 (sumR (bodyF v f)) ++ m)) := by unfold encF bodyF; simp [List.append_assoc]
  unfold oneR
  rw [e, letter_head hv]
  rcases hv with rfl | rfl
  · rw [if_neg (by simp), if_pos (by simp)]
  · rw [if_neg (by simp), if_pos (by simp)]
theorem scan_other {v : Int} (hv : v = 1 ∨ v = 2) (l : List Frm) : scanR (3 - v) (encFs v l) = ([], 0, if l = [] then 0 else 22) := by
  cases l with
  | nil => simp [encFs, scan_nil]
  | cons f l =>
    have h1 := one_other (f := f) hv (encFs v l)
    have hpos := enc_pos v f
    have hne : encF v f ++ encFs v l ≠ [] := by intro e; have := congrArg List.length e; simp at this; rw [this.1] at hpos; simp at hpos
    rw [encFs_cons, scan_stop hne (by rw [h1]; exact .inl (by simp)), h1]
    simp
theorem u8_of_byte (b : UInt8) : u8 ((b.toNat : Nat) : Int) = b := by unfold u8; rw [Int.toNat_natCast]; simp
theorem ofNat_byte (b : UInt8) : UInt8.ofNat b.toNat = b := by simp
theorem dL_made (v : Int) (l : List UInt8) (k n : Nat) : dL (madeF v l k n) = (l.drop k).take n := by unfold dL madeF; simp
theorem made_size (v : Int) (l : List UInt8) (k n : Nat) (h : k + n ≤ l.length) : (madeF v l k n).data.size = n := by
  rw [← dL_len, dL_made, List.length_take, List.length_drop]; omega
theorem three_of : ∀ (l : List UInt8), 3 ≤ l.length → ∃ a b c r, l = a :: b :: c :: r
  | a :: b :: c :: r, _ => ⟨a, b, c, r, rfl⟩
  | [], h => by simp at h
  | [_], h => by simp at h
  | [_, _], h => by simp at h
theorem four_of (l : List UInt8) (h : 4 ≤ l.length) : ∃ a b c e r, l = a :: b :: c :: e :: r := by
  obtain ⟨a, b, c, r, rfl⟩ := three_of l (by omega)
  cases r with
  | nil => simp at h
  | cons e r => exact ⟨a, b, c, e, r, rfl⟩
/-- What is read as a frame's head and Data are the bytes of that frame's. -/
theorem body_made {v : Int} (hv : v = 1 ∨ v = 2) (l : List UInt8) {k n : Nat} (hz : sizeR v l = (k, n, false, false)) (ha : at_ l 0 = (if v = 1 then 97 else 98)) (hl : k + n ≤ l.length) : bodyF v (madeF v l k n) = l.take (k + n) := by
  have hs := made_size v l k n hl
  unfold bodyF
  rw [dL_made, List.take_add]
  congr 1
  rcases hv with rfl | rfl
  · unfold sizeR at hz
    rw [if_pos rfl] at hz
    split at hz
    · simp at hz
    · rename_i h4
      obtain ⟨a, b, c, e, r, rfl⟩ := four_of l (by omega)
      simp [at_] at hz ha hs
      obtain ⟨rfl, rfl, _⟩ := hz
      unfold headF
      rw [if_pos rfl]
      have h256 := byte_lt e
      rw [made_size 1 _ 4 _ (by simpa using hl)]
      have e1 : (c.toNat * 256 + e.toNat) / 256 = c.toNat := by omega
      have e2 : (c.toNat * 256 + e.toNat) % 256 = e.toNat := by omega
      rw [e1, e2, ofNat_byte, ofNat_byte]
      have e0 : a = 97 := UInt8.toNat_inj.1 (by simpa using ha)
      have e3 : u8 (madeF 1 (a :: b :: c :: e :: r) 4 (c.toNat * 256 + e.toNat)).kind = b := by
        show u8 ((at_ (a :: b :: c :: e :: r) 1 : Nat) : Int) = b
        exact u8_of_byte b
      rw [e3, e0]
      simp
  · unfold sizeR at hz
    rw [if_neg (by omega)] at hz
    split at hz
    · simp at hz
    · rename_i h3
      obtain ⟨a, b, c, r, rfl⟩ := three_of l (by omega)
      have hd : (a :: b :: c :: r).drop 3 = r := rfl
      rw [hd] at hz
      split at hz
      · simp at hz
      · rename_i h10
        simp only [Prod.mk.injEq, decide_eq_false_iff_not] at hz
        obtain ⟨hk, hn, _, hw⟩ := hz
        obtain ⟨t1, t2, t3, t4⟩ := takeR_ok (l := r) (n := (takeR r).1) (k := (takeR r).2.1) (by
          have : (takeR r).2.2 = 0 := by omega
          rw [← this])
        rw [hn] at t4
        subst hk
        unfold headF
        rw [if_neg (by omega), hs, t4]
        have e0 : a = 98 := UInt8.toNat_inj.1 (by simpa [at_] using ha)
        have e1 : u8 (madeF 2 (a :: b :: c :: r) (3 + (takeR r).2.1) n).flags = b := by
          show u8 ((at_ (a :: b :: c :: r) 1 : Nat) : Int) = b
          exact u8_of_byte b
        have e2 : u8 (madeF 2 (a :: b :: c :: r) (3 + (takeR r).2.1) n).kind = c := by
          show u8 ((at_ (a :: b :: c :: r) 2 : Nat) : Int) = c
          exact u8_of_byte c
        rw [e1, e2, e0, Nat.add_comm 3]
        simp
/-- (There.) What was taken, put again, is what stood there. -/
theorem one_forth {v : Int} (hv : v = 1 ∨ v = 2) {l : List UInt8} {f : Frm} {n : Nat} (h : oneR v l = (f, n, 0)) (hn : n ≠ 0) : n ≤ l.length ∧ okF v f = true ∧ encF v f = l.take n := by
  unfold oneR at h
  split at h
  · simp at h
  rename_i hA
  split at h
  · simp at h
  rename_i hB
  split at h
  · simp at h
  rename_i hC
  split at h
  · simp only [Prod.mk.injEq] at h; exact absurd h.2.1.symm hn
  rename_i hD
  split at h
  · simp at h
  rename_i hE
  simp only [Prod.mk.injEq] at h
  obtain ⟨h1, h2, _⟩ := h
  simp only [not_or, Bool.not_eq_true, Nat.not_lt, Decidable.not_not, Bool.not_eq_false] at hC hD hE
  obtain ⟨hD1, hD2⟩ := hD
  obtain ⟨hE1, hE2⟩ := hE
  generalize hz : sizeR v l = z at *
  obtain ⟨k, d, c1, c2⟩ := z
  simp only at h1 h2 hC hD1 hD2 hE1 hE2
  subst hC
  subst hD1
  have hb := body_made hv l hz (by
    have hB' : at_ l 0 = 97 ↔ v = 1 := by simpa using hB
    rcases hv with rfl | rfl
    · rw [if_pos rfl]; exact hB'.2 rfl
    · rw [if_neg (by omega)]; have : ¬ at_ l 0 = 97 := fun e => by have := hB'.1 e; omega
      omega) (by omega)
  rw [h1] at hE1 hb
  refine ⟨by omega, hE1, ?_⟩
  unfold encF
  rw [hb, hE2, ← h2, ← List.take_add]
/-- What was scanned, put into frames again, is what was scanned from. -/
theorem scan_again {v : Int} (hv : v = 1 ∨ v = 2) : ∀ (N : Nat) (l : List UInt8), l.length ≤ N → (∀ f ∈ (scanR v l).1, okF v f = true) ∧ (scanR v l).2.1 ≤ l.length ∧ encFs v (scanR v l).1 = l.take (scanR v l).2.1 := by
  intro N
  induction N with
  | zero =>
    intro l h
    have : l = [] := List.eq_nil_of_length_eq_zero (by omega)
    subst this
    rw [scan_nil]; simp [encFs]
  | succ N ih =>
    intro l h
    by_cases hl : l = []
    · subst hl; rw [scan_nil]; simp [encFs]
    · by_cases hs : (oneR v l).2.2 ≠ 0 ∨ (oneR v l).2.1 = 0
      · rw [scan_stop hl hs]; simp [encFs]
      · have hs2 : (oneR v l).2.2 = 0 ∧ (oneR v l).2.1 ≠ 0 := by omega
        obtain ⟨o1, o2, o3⟩ := one_forth hv (l := l) (f := (oneR v l).1) (n := (oneR v l).2.1) (by rw [← hs2.1]) hs2.2
        obtain ⟨i1, i2, i3⟩ := ih (l.drop (oneR v l).2.1) (by rw [List.length_drop]; omega)
        rw [scan_step hl hs]
        rw [List.length_drop] at i2
        refine ⟨fun f hf => ?_, by show _ + _ ≤ _; omega, ?_⟩
        · rcases List.mem_cons.1 hf with rfl | hf
          · exact o2
          · exact i1 f hf
        · show encFs v (_ :: _) = l.take (_ + _)
          rw [encFs_cons, o3, i3, ← List.take_add]
theorem scan_forth {v : Int} (hv : v = 1 ∨ v = 2) (l : List UInt8) : (∀ f ∈ (scanR v l).1, okF v f = true) ∧ (scanR v l).2.1 ≤ l.length ∧ encFs v (scanR v l).1 = l.take (scanR v l).2.1 := scan_again hv l.length l (Nat.le_refl _)
/-- What version 1 may write version 2 may write, too. -/
theorem ok_both {f : Frm} (h : okF 1 f = true) : okF 2 f = true := by have := okF_iff.1 h; rw [okF_iff]; omega
theorem len_one (f : Frm) : (encF 1 f).length = f.data.size + 8 := by rw [enc_len, head_len1]; omega
theorem len_both {f : Frm} (h : okF 1 f = true) : (encF 2 f).length ≤ (encF 1 f).length + 1 := by
  have ho := okF_iff.1 h
  have := vb_len_le 2 f.data.size (by have : (128 : Nat) ^ 2 = 16384 := by decide
                                      omega)
  rw [enc_len, enc_len, head_len1, head_len2]
  omega
theorem encFs_le (v : Int) : ∀ (l : List Frm) (k : Nat), (∀ f ∈ l, okF v f = true ∧ f.data.size ≤ k) → (encFs v l).length ≤ l.length * (k + 15)
  | [], k, _ => by simp [encFs]
  | f :: l, k, h => by
    have ih := encFs_le v l k (fun g hg => h g (by simp [hg]))
    have hf := h f (by simp)
    have ho := okF_iff.1 hf.1
    have h8 := vb_len8 (n := f.data.size) (by omega)
    have hh : (headF v f).length ≤ 11 := by
      rcases okF_v hf.1 with rfl | rfl
      · rw [head_len1]; omega
      · rw [head_len2]; omega
    rw [encFs_cons, List.length_append, enc_len, List.length_cons, Nat.succ_mul]
    omega
end Go.Proofs.Ytndkmepdnekigaa


/-
  Plain mathematics of messages (stage 8): what may be, a message's fields, its bytes, there and back, by two versions. Nothing of the program is named here.
-/
namespace Go.Proofs.Ytndkmepdnekigaa

structure Mg where
  kind : Int
  frm : Int
  to : Int
  seq : Int
  body : ByteArray
  trace : Int
def zeroM : Mg := ⟨0, 0, 0, 0, ByteArray.empty, 0⟩
theorem Mg.eq {a b : Mg} (h1 : a.kind = b.kind) (h2 : a.frm = b.frm) (h3 : a.to = b.to) (h4 : a.seq = b.seq) (h5 : a.body = b.body) (h6 : a.trace = b.trace) : a = b := by cases a; cases b; simp_all
/-- H1. -/
def RightM (v : Int) (m : Mg) : Prop :=
  (v = 1 ∧ m.kind ≤ 9 ∧ m.trace = 0 ∨ v = 2) ∧ (1 ≤ m.kind ∧ m.kind ≤ 20) ∧ (0 ≤ m.frm ∧ m.frm ≤ 9007199254740992) ∧ (0 ≤ m.to ∧ m.to ≤ 9007199254740992) ∧ (0 ≤ m.seq ∧ m.seq ≤ 9007199254740992) ∧ (0 ≤ m.trace ∧ m.trace ≤ 9007199254740992) ∧ m.body.size ≤ 1000
instance (v : Int) (m : Mg) : Decidable (RightM v m) := by unfold RightM; infer_instance
def rightM (v : Int) (m : Mg) : Bool := decide (RightM v m)
theorem rightM_iff {v : Int} {m : Mg} : rightM v m = true ↔ RightM v m := by unfold rightM; simp
theorem rightM_no {v : Int} {m : Mg} (h : ¬ RightM v m) : rightM v m = false := by unfold rightM; simpa using h
theorem RightM.v {v : Int} {m : Mg} (h : RightM v m) : v = 1 ∨ v = 2 := by have := h.1; omega
theorem RightM.older {m : Mg} (h : RightM 1 m) : RightM 2 m := ⟨.inr rfl, h.2⟩
theorem RightM.only {m : Mg} (h : RightM 2 m) (h1 : ¬ RightM 1 m) : ¬ (m.kind ≤ 9 ∧ m.trace = 0) := fun hk => h1 ⟨.inl ⟨rfl, hk⟩, h.2⟩
/-- The fields of which some may have no Data. -/
def six (m : Mg) : List Fld := [(1, numD m.kind), (2, numD m.frm), (3, numD m.to), (4, numD m.seq), (5, m.body), (6, numD m.trace)]
/-- A message's fields. -/
def fieldsM (m : Mg) : List Fld := full (six m)
/-- What Encode answers. -/
def wE (v : Int) (m : Mg) : List UInt8 × Nat :=
  if rightM v m = true then (UInt8.ofNat v.toNat :: encL (fieldsM m), 0) else if v = 1 ∧ rightM 2 m = true then ([], 22) else ([], 1)
/-- What a field becomes. -/
def setM (m : Mg) (t : Int) (d : ByteArray) : Mg :=
  if t = 1 then { m with kind := wholeN d.data.toList } else if t = 2 then { m with frm := wholeN d.data.toList } else if t = 3 then { m with to := wholeN d.data.toList }
  else if t = 4 then { m with seq := wholeN d.data.toList } else if t = 5 then { m with body := d } else { m with trace := wholeN d.data.toList }
def stepM (m : Mg) (f : Fld) : Mg := setM m f.1 f.2
def accM (l : List Fld) : Mg := l.foldl stepM zeroM
theorem accM_take {fs : List Fld} {k : Nat} (h : k < fs.length) : accM (fs.take (k + 1)) = setM (accM (fs.take k)) (tg fs k) (dt fs k) := by
  unfold accM
  rw [List.take_succ_eq_append_getElem h, List.foldl_append, fld_at h]; rfl
/-- May a field be? -/
def okW (t : Int) (d : ByteArray) : Bool := decide (1 ≤ d.size) && (decide (t = 5) || decide (0 < wholeN d.data.toList)) && decide (t ≤ 6)
theorem okW_iff {t : Int} {d : ByteArray} : okW t d = true ↔ 1 ≤ d.size ∧ (t = 5 ∨ 0 < wholeN d.data.toList) ∧ t ≤ 6 := by unfold okW; simp [and_assoc]
def allW (l : List Fld) : Bool := l.all fun f => okW f.1 f.2
theorem allW_iff {l : List Fld} : allW l = true ↔ ∀ f ∈ l, okW f.1 f.2 = true := by unfold allW; simp
/-- What Decode answers. -/
def wD (s : List UInt8) : Nat × Mg × Nat :=
  match s with
  | [] => (0, zeroM, 22)
  | b :: r =>
    if b.toNat ≠ 1 ∧ b.toNat ≠ 2 then (0, zeroM, 22)
    else if (decR r).2 ≠ 0 then (0, zeroM, (decR r).2)
    else if allW (decR r).1 = true ∧ rightM b.toNat (accM (decR r).1) = true then (b.toNat, accM (decR r).1, 0) else (0, zeroM, 21)

def parts6 (o1 o2 o3 o4 o5 o6 : Option ByteArray) (E : List Fld) : List Fld := opt 1 o1 ++ (opt 2 o2 ++ (opt 3 o3 ++ (opt 4 o4 ++ (opt 5 o5 ++ (opt 6 o6 ++ E)))))
theorem fieldsM_parts (m : Mg) : fieldsM m = parts6 (ob (numD m.kind)) (ob (numD m.frm)) (ob (numD m.to)) (ob (numD m.seq)) (ob m.body) (ob (numD m.trace)) [] := by
  unfold fieldsM six parts6
  rw [full_cons, full_cons, full_cons, full_cons, full_cons, full_cons, full_nil]
theorem acc6 (o1 o2 o3 o4 o5 o6 : Option ByteArray) : accM (parts6 o1 o2 o3 o4 o5 o6 []) = ⟨wholeN (gd o1).data.toList, wholeN (gd o2).data.toList, wholeN (gd o3).data.toList, wholeN (gd o4).data.toList, gd o5, wholeN (gd o6).data.toList⟩ := by
  have s1 : ∀ (o : Option ByteArray) (b c d : Int) (e : ByteArray) (x : Int), (opt 1 o).foldl stepM ⟨0, b, c, d, e, x⟩ = ⟨wholeN (gd o).data.toList, b, c, d, e, x⟩ := by
    intro o b c d e x; cases o <;> simp [opt, gd, stepM, setM]; simp [whole_nil]
  have s2 : ∀ (o : Option ByteArray) (b c d : Int) (e : ByteArray) (x : Int), (opt 2 o).foldl stepM ⟨b, 0, c, d, e, x⟩ = ⟨b, wholeN (gd o).data.toList, c, d, e, x⟩ := by
    intro o b c d e x; cases o <;> simp [opt, gd, stepM, setM]; simp [whole_nil]
  have s3 : ∀ (o : Option ByteArray) (b c d : Int) (e : ByteArray) (x : Int), (opt 3 o).foldl stepM ⟨b, c, 0, d, e, x⟩ = ⟨b, c, wholeN (gd o).data.toList, d, e, x⟩ := by
    intro o b c d e x; cases o <;> simp [opt, gd, stepM, setM]; simp [whole_nil]
  have s4 : ∀ (o : Option ByteArray) (b c d : Int) (e : ByteArray) (x : Int), (opt 4 o).foldl stepM ⟨b, c, d, 0, e, x⟩ = ⟨b, c, d, wholeN (gd o).data.toList, e, x⟩ := by
    intro o b c d e x; cases o <;> simp [opt, gd, stepM, setM]; simp [whole_nil]
  have s5 : ∀ (o : Option ByteArray) (b c d e : Int) (x : Int), (opt 5 o).foldl stepM ⟨b, c, d, e, ByteArray.empty, x⟩ = ⟨b, c, d, e, gd o, x⟩ := by
    intro o b c d e x; cases o <;> simp [opt, gd, stepM, setM]
  have s6 : ∀ (o : Option ByteArray) (b c d e : Int) (x : ByteArray), (opt 6 o).foldl stepM ⟨b, c, d, e, x, 0⟩ = ⟨b, c, d, e, x, wholeN (gd o).data.toList⟩ := by
    intro o b c d e x; cases o <;> simp [opt, gd, stepM, setM]; simp [whole_nil]
  unfold accM parts6 zeroM
  rw [List.foldl_append, s1, List.foldl_append, s2, List.foldl_append, s3, List.foldl_append, s4, List.foldl_append, s5, List.foldl_append, s6]
  rfl
theorem fields_right {v : Int} {m : Mg} (h : RightM v m) : rightB (fieldsM m) = true ∧ (fieldsM m).length ≤ 6 ∧ (encL (fieldsM m)).length ≤ 6030 := by
  obtain ⟨_, h1, h2, h3, h4, h6, h5⟩ := h
  have n1 := numD_size (n := m.kind) (by omega) (by omega)
  have n2 := numD_size h2.1 h2.2
  have n3 := numD_size h3.1 h3.2
  have n4 := numD_size h4.1 h4.2
  have n6 := numD_size h6.1 h6.2
  have l1 := opt_len 1 (ob (numD m.kind))
  have l2 := opt_len 2 (ob (numD m.frm))
  have l3 := opt_len 3 (ob (numD m.to))
  have l4 := opt_len 4 (ob (numD m.seq))
  have l5 := opt_len 5 (ob m.body)
  have l6 := opt_len 6 (ob (numD m.trace))
  have hL : (fieldsM m).length ≤ 6 := by
    rw [fieldsM_parts]; unfold parts6; simp only [List.length_append, List.length_nil]; omega
  have hR : rightB (fieldsM m) = true := by
    refine right_chain.2 ⟨by omega, ?_⟩
    rw [fieldsM_parts]
    unfold parts6
    refine chain_opt (by omega) (by omega) (fun d hd => by have := (ob_some hd).1; subst this; omega) ?_
    refine chain_opt (by omega) (by omega) (fun d hd => by have := (ob_some hd).1; subst this; omega) ?_
    refine chain_opt (by omega) (by omega) (fun d hd => by have := (ob_some hd).1; subst this; omega) ?_
    refine chain_opt (by omega) (by omega) (fun d hd => by have := (ob_some hd).1; subst this; omega) ?_
    refine chain_opt (by omega) (by omega) (fun d hd => by have := (ob_some hd).1; subst this; omega) ?_
    refine chain_opt (by omega) (by omega) (fun d hd => by have := (ob_some hd).1; subst this; omega) ?_
    trivial
  refine ⟨hR, hL, ?_⟩
  have := encL_take_len (rightB_iff.1 hR).2 _ (Nat.le_refl _)
  rw [List.take_length] at this
  omega
theorem fields_acc_m {v : Int} {m : Mg} (h : RightM v m) : accM (fieldsM m) = m := by
  obtain ⟨_, h1, h2, h3, h4, h6, h5⟩ := h
  rw [fieldsM_parts, acc6]
  simp only [gd_ob]
  exact Mg.eq (whole_numD (by omega) (by omega)) (whole_numD h2.1 h2.2) (whole_numD h3.1 h3.2) (whole_numD h4.1 h4.2) rfl (whole_numD h6.1 h6.2)
theorem okW_num {t n : Int} {d : ByteArray} (h0 : 0 ≤ n) (h : n ≤ 9007199254740992) (ht : t ≤ 6) (hd : ob (numD n) = some d) : okW t d = true := by
  obtain ⟨rfl, h1⟩ := ob_some hd
  have h2 := whole_numD h0 h
  have h3 : n ≠ 0 := fun e => by have := numD_zero.2 e; omega
  exact okW_iff.2 ⟨h1, .inr (by omega), ht⟩
theorem fields_ok {v : Int} {m : Mg} (h : RightM v m) : allW (fieldsM m) = true := by
  obtain ⟨_, h1, h2, h3, h4, h6, h5⟩ := h
  rw [allW_iff, fieldsM_parts]
  intro f hf
  unfold parts6 at hf
  simp only [List.mem_append, mem_opt, List.not_mem_nil, or_false] at hf
  rcases hf with ⟨e, t⟩ | ⟨e, t⟩ | ⟨e, t⟩ | ⟨e, t⟩ | ⟨e, t⟩ | ⟨e, t⟩
  · exact okW_num (by omega) (by omega) (by omega) e
  · exact okW_num h2.1 h2.2 (by omega) e
  · exact okW_num h3.1 h3.2 (by omega) e
  · exact okW_num h4.1 h4.2 (by omega) e
  · exact okW_iff.2 ⟨(ob_some e).2, .inl t, by omega⟩
  · exact okW_num h6.1 h6.2 (by omega) e
/-- There and back. -/
theorem w_back {v : Int} {m : Mg} (h : rightM v m = true) : wD (UInt8.ofNat v.toNat :: encL (fieldsM m)) = (v.toNat, m, 0) := by
  have hr := rightM_iff.1 h
  have hb : (UInt8.ofNat v.toNat).toNat = v.toNat := by rcases hr.v with rfl | rfl <;> rfl
  have hv : (v.toNat : Int) = v := by rcases hr.v with rfl | rfl <;> rfl
  obtain ⟨f1, f2, f3⟩ := fields_right hr
  have hd := dec_enc f1 (by omega)
  unfold wD
  simp only [hb, hd, hv, fields_ok hr, fields_acc_m hr, h]
  rw [if_neg (by rcases hr.v with rfl | rfl <;> simp)]
  simp
/-- Fields that may be are those of a message. -/
theorem fields_of {l : List Fld} (h : rightB l = true) (ha : allW l = true) : fieldsM (accM l) = l := by
  obtain ⟨h64, hc⟩ := right_chain.1 h
  obtain ⟨o1, l1, rfl, h1⟩ := peel hc
  obtain ⟨o2, l2, rfl, h2⟩ := peel h1
  obtain ⟨o3, l3, rfl, h3⟩ := peel h2
  obtain ⟨o4, l4, rfl, h4⟩ := peel h3
  obtain ⟨o5, l5, rfl, h5⟩ := peel h4
  obtain ⟨o6, l6, rfl, h6⟩ := peel h5
  simp only [Int.zero_add, Int.reduceAdd] at *
  rw [allW_iff] at ha
  have hE : l6 = [] := by
    cases l6 with
    | nil => rfl
    | cons f l =>
      simp only [chain] at h6
      have := (okW_iff.1 (ha f (by simp))).2.2
      omega
  subst hE
  have e : opt 1 o1 ++ (opt 2 o2 ++ (opt 3 o3 ++ (opt 4 o4 ++ (opt 5 o5 ++ (opt 6 o6 ++ []))))) = parts6 o1 o2 o3 o4 o5 o6 [] := rfl
  rw [e] at ha ⊢
  have key : ∀ (t : Int) (o : Option ByteArray) (d : ByteArray), (∀ f ∈ opt t o, f ∈ parts6 o1 o2 o3 o4 o5 o6 []) → o = some d → 1 ≤ d.size ∧ (t = 5 ∨ 0 < wholeN d.data.toList) := fun t o d hin ho => by
    subst ho
    have := okW_iff.1 (ha (t, d) (hin _ (by simp [opt])))
    exact ⟨this.1, this.2.1⟩
  have k1 := fun d => key 1 o1 d (fun f hf => by unfold parts6; simp [hf])
  have k2 := fun d => key 2 o2 d (fun f hf => by unfold parts6; simp [hf])
  have k3 := fun d => key 3 o3 d (fun f hf => by unfold parts6; simp [hf])
  have k4 := fun d => key 4 o4 d (fun f hf => by unfold parts6; simp [hf])
  have k5 := fun d => key 5 o5 d (fun f hf => by unfold parts6; simp [hf])
  have k6 := fun d => key 6 o6 d (fun f hf => by unfold parts6; simp [hf])
  have num : ∀ (o : Option ByteArray), (∀ d, o = some d → 0 < wholeN d.data.toList) → (∀ d, o = some d → 1 ≤ d.size) → ob (numD (wholeN (gd o).data.toList)) = o := by
    intro o h1 h2
    cases o with
    | none => rw [gd_none]; rfl
    | some d => rw [gd_some, numD_whole (h1 d rfl)]; unfold ob; rw [if_neg (by have := h2 d rfl; omega)]
  rw [acc6, fieldsM_parts]
  simp only
  rw [num o1 (fun d hd => by have := (k1 d hd).2; omega) (fun d hd => (k1 d hd).1), num o2 (fun d hd => by have := (k2 d hd).2; omega) (fun d hd => (k2 d hd).1),
    num o3 (fun d hd => by have := (k3 d hd).2; omega) (fun d hd => (k3 d hd).1), num o4 (fun d hd => by have := (k4 d hd).2; omega) (fun d hd => (k4 d hd).1),
    ob_gd (fun d hd => (k5 d hd).1), num o6 (fun d hd => by have := (k6 d hd).2; omega) (fun d hd => (k6 d hd).1)]
/-- What is decoded, encoded again. -/
theorem w_forth {s : List UInt8} {v : Nat} {m : Mg} (h : wD s = (v, m, 0)) : rightM v m = true ∧ wE v m = (s, 0) := by
  unfold wD at h
  cases s with
  | nil => simp at h
  | cons b r =>
    simp only at h
    split at h
    · simp at h
    · rename_i hb
      split at h
      · rename_i he; simp at h; omega
      · rename_i he
        split at h
        · rename_i hk
          simp only [Prod.mk.injEq, and_true] at h
          obtain ⟨rfl, rfl⟩ := h
          obtain ⟨d1, d2, d3⟩ := dec_ok (l := r) (fs := (decR r).1) (by rw [← (by omega : (decR r).2 = 0)])
          refine ⟨hk.2, ?_⟩
          unfold wE
          rw [if_pos hk.2, fields_of d3 hk.1, d2, Int.toNat_natCast]
          simp
        · simp at h
theorem wD_no {s : List UInt8} (h : (wD s).2.2 ≠ 0) : (wD s).1 = 0 ∧ (wD s).2.1 = zeroM := by
  unfold wD at h ⊢
  cases s with
  | nil => exact ⟨rfl, rfl⟩
  | cons b r =>
    simp only at h ⊢
    split
    · exact ⟨rfl, rfl⟩
    · rename_i hb; rw [if_neg hb] at h
      split
      · exact ⟨rfl, rfl⟩
      · rename_i he; rw [if_neg he] at h
        split
        · rename_i hk; rw [if_pos hk] at h; simp at h
        · exact ⟨rfl, rfl⟩
theorem wE_ok {v : Int} {m : Mg} (h : rightM v m = true) : wE v m = (UInt8.ofNat v.toNat :: encL (fieldsM m), 0) := by unfold wE; rw [if_pos h]
/-- Unlike messages have unlike bytes. -/
theorem w_unlike {v : Int} {a b : Mg} (ha : rightM v a = true) (hb : rightM v b = true) (h : (wE v a).1 = (wE v b).1) : a = b := by
  rw [wE_ok ha, wE_ok hb] at h
  have h1 := w_back ha
  have h2 := w_back hb
  simp only at h
  rw [h, h2] at h1
  simp only [Prod.mk.injEq, and_true, true_and] at h1
  exact h1.symm
end Go.Proofs.Ytndkmepdnekigaa


/-
  Plain mathematics of messages (stage 8): the chapter's example, and others whose bytes are told.
-/
namespace Go.Proofs.Ytndkmepdnekigaa

theorem exR (k f t s : Int) (x : Int) (b : ByteArray) (v : Int) : RightM v ⟨k, f, t, s, b, x⟩ ↔ (v = 1 ∧ k ≤ 9 ∧ x = 0 ∨ v = 2) ∧ (1 ≤ k ∧ k ≤ 20) ∧ (0 ≤ f ∧ f ≤ 9007199254740992) ∧ (0 ≤ t ∧ t ≤ 9007199254740992) ∧ (0 ≤ s ∧ s ≤ 9007199254740992) ∧ (0 ≤ x ∧ x ≤ 9007199254740992) ∧ b.size ≤ 1000 := Iff.rfl
def exM : Mg := ⟨1, 2, 3, 0, ⟨#[120]⟩, 0⟩
theorem exM_right {v : Int} (hv : v = 1 ∨ v = 2) : rightM v exM = true := by
  rw [rightM_iff, exM, exR]
  have : (⟨#[120]⟩ : ByteArray).size = 1 := rfl
  omega
theorem exM_fields : encL (fieldsM exM) = [1, 1, 1, 2, 1, 2, 3, 1, 3, 5, 1, 120] := by
  have n1 : numD 1 = ⟨#[1]⟩ := by unfold numD; rw [if_neg (by decide), show (1 : Int).toNat = 1 from rfl, vb_small (by decide)]; rfl
  have n2 : numD 2 = ⟨#[2]⟩ := by unfold numD; rw [if_neg (by decide), show (2 : Int).toNat = 2 from rfl, vb_small (by decide)]; rfl
  have n3 : numD 3 = ⟨#[3]⟩ := by unfold numD; rw [if_neg (by decide), show (3 : Int).toNat = 3 from rfl, vb_small (by decide)]; rfl
  have n0 : numD 0 = ByteArray.empty := by unfold numD; rw [if_pos rfl]
  have hf : fieldsM exM = [(1, ⟨#[1]⟩), (2, ⟨#[2]⟩), (3, ⟨#[3]⟩), (5, ⟨#[120]⟩)] := by
    unfold fieldsM six exM
    simp only [n1, n2, n3, n0]
    rfl
  rw [hf]
  simp [encL, enc1]
  repeat rw [vb_small (by decide)]
  rfl
theorem exM_enc {v : Int} (hv : v = 1 ∨ v = 2) : wE v exM = (UInt8.ofNat v.toNat :: [1, 1, 1, 2, 1, 2, 3, 1, 3, 5, 1, 120], 0) := by rw [wE_ok (exM_right hv), exM_fields]
theorem exM_dec : wD (2 :: [1, 1, 1, 2, 1, 2, 3, 1, 3, 5, 1, 120]) = (2, exM, 0) := by
  have := w_back (exM_right (v := 2) (.inr rfl))
  rw [exM_fields] at this
  exact this
theorem exNo1 : wE 1 ⟨10, 0, 0, 0, ⟨#[]⟩, 0⟩ = ([], 22) := by
  have h1 : rightM 1 ⟨10, 0, 0, 0, ⟨#[]⟩, 0⟩ = false := rightM_no (by rw [exR]; omega)
  have h2 : rightM 2 ⟨10, 0, 0, 0, ⟨#[]⟩, 0⟩ = true := by rw [rightM_iff, exR]; have : (⟨#[]⟩ : ByteArray).size = 0 := rfl; omega
  unfold wE
  rw [if_neg (by simp [h1]), if_pos ⟨rfl, h2⟩]
theorem exNo2 : wE 2 ⟨21, 0, 0, 0, ⟨#[]⟩, 0⟩ = ([], 1) := by
  have h1 : rightM 2 ⟨21, 0, 0, 0, ⟨#[]⟩, 0⟩ = false := rightM_no (by rw [exR]; omega)
  unfold wE
  rw [if_neg (by simp [h1]), if_neg (by simp)]
theorem exDec3 : wD [3] = (0, zeroM, 22) := by unfold wD; simp
theorem exDecK : wD [1, 1, 1, 1, 6, 1, 1] = (0, zeroM, 21) := by
  have hd : decR [1, 1, 1, 6, 1, 1] = ([(1, ⟨#[1]⟩), (6, ⟨#[1]⟩)], 0) := by
    have hl : encL [(1, ⟨#[1]⟩), (6, ⟨#[1]⟩)] = [1, 1, 1, 6, 1, 1] := by
      simp [encL, enc1]
      repeat rw [vb_small (by decide)]
      rfl
    have hr : rightB [(1, ⟨#[1]⟩), (6, ⟨#[1]⟩)] = true := by
      refine right_chain.2 ⟨by decide, ?_⟩
      have : (⟨#[1]⟩ : ByteArray).size = 1 := rfl
      simp [chain]
      omega
    rw [← hl]
    exact dec_enc hr (by rw [hl]; decide)
  have ha : accM [(1, ⟨#[1]⟩), (6, ⟨#[1]⟩)] = ⟨wholeN [1], 0, 0, 0, ByteArray.empty, wholeN [1]⟩ := rfl
  have hw : wholeN [1] = 1 := by
    have := whole_numD (n := 1) (by decide) (by decide)
    rw [show numD 1 = ⟨#[1]⟩ from by unfold numD; rw [if_neg (by decide), show (1 : Int).toNat = 1 from rfl, vb_small (by decide)]; rfl] at this
    have h2 : wholeN (⟨#[1]⟩ : ByteArray).data.toList = wholeN [1] := rfl
    omega
  have hr : rightM 1 (accM [(1, ⟨#[1]⟩), (6, ⟨#[1]⟩)]) = false := by
    rw [ha, hw]
    exact rightM_no (by rw [exR]; omega)
  unfold wD
  simp only [show (1 : UInt8).toNat = 1 from rfl, hd]
  rw [if_neg (by omega), if_neg (by simp), if_neg (by simp [hr])]
theorem exR20 : rightM 2 ⟨20, 0, 0, 0, ⟨#[]⟩, 1⟩ = true := by rw [rightM_iff, exR]; have : (⟨#[]⟩ : ByteArray).size = 0 := rfl; omega
theorem exR1 : rightM 1 ⟨1, 0, 0, 0, ⟨#[]⟩, 1⟩ = false := rightM_no (by rw [exR]; omega)
end Go.Proofs.Ytndkmepdnekigaa


/-
  Plain mathematics of hellos (stage 9): what may be, what binaries know, what two agree on. Nothing of the program is named here.
-/
namespace Go.Proofs.Ytndkmepdnekigaa

structure Hl where
  low : Int
  high : Int
  feat : Int
/-- I1. -/
def RightH (h : Hl) : Prop := 1 ≤ h.low ∧ h.low ≤ h.high ∧ h.high ≤ 2 ∧ 0 ≤ h.feat ∧ h.feat ≤ 1048575
instance (h : Hl) : Decidable (RightH h) := by unfold RightH; infer_instance
def rightH (h : Hl) : Bool := decide (RightH h)
theorem rightH_iff {h : Hl} : rightH h = true ↔ RightH h := by unfold rightH; simp
theorem rightH_no {h : Hl} (k : ¬ RightH h) : rightH h = false := by unfold rightH; simpa using k
/-- I2. -/
def ofH (b l : Int) : Hl := if b = 1 then ⟨1, 1, 7⟩ else if b = 2 then (if l = 2 then ⟨2, 2, 1048575⟩ else ⟨1, 2, 1048575⟩) else ⟨0, 0, 0⟩
/-- The bits that both have. -/
def featB (a b : Hl) : Nat := a.feat.toNat &&& b.feat.toNat
/-- I3: the version, the bits, the error. -/
def agH (a b : Hl) : Nat × Nat × Nat :=
  if RightH a ∧ RightH b then
    if a.high = 2 ∧ b.high = 2 then (2, featB a b, 0)
    else if a.low = 1 ∧ b.low = 1 then (1, featB a b % 8, 0)
    else (0, 0, 22)
  else (0, 0, 1)
theorem featB_comm (a b : Hl) : featB a b = featB b a := Nat.and_comm _ _
theorem ag_comm (a b : Hl) : agH a b = agH b a := by
  unfold agH
  rw [featB_comm b a]
  by_cases h1 : RightH a <;> by_cases h2 : RightH b <;> simp only [h1, h2, and_self, and_true, and_false, if_true, if_false] <;> simp only [and_comm]
theorem mod8 (x : Nat) : x % 8 = x &&& 7 := (Nat.and_two_pow_sub_one_eq_mod x 3).symm
/-- Is each bit of the first one of the second? -/
def subN (x y : Nat) : Prop := x &&& y = x
theorem sub_bit {x y : Nat} : subN x y ↔ ∀ i, x.testBit i = true → y.testBit i = true := by
  unfold subN
  constructor
  · intro h i hi
    rw [← h, Nat.testBit_and, Bool.and_eq_true] at hi
    exact hi.2
  · intro h
    refine Nat.eq_of_testBit_eq fun i => ?_
    rw [Nat.testBit_and]
    cases hx : x.testBit i
    · rfl
    · rw [h i hx]; rfl
theorem sub_l (x y : Nat) : subN (x &&& y) x := sub_bit.2 fun i h => by rw [Nat.testBit_and, Bool.and_eq_true] at h; exact h.1
theorem sub_r (x y : Nat) : subN (x &&& y) y := sub_bit.2 fun i h => by rw [Nat.testBit_and, Bool.and_eq_true] at h; exact h.2
theorem sub_trans {x y z : Nat} (h : subN x y) (k : subN y z) : subN x z := sub_bit.2 fun i hi => sub_bit.1 k i (sub_bit.1 h i hi)
theorem sub_and {x y z : Nat} (h : subN x y) (k : subN x z) : subN x (y &&& z) := sub_bit.2 fun i hi => by rw [Nat.testBit_and, sub_bit.1 h i hi, sub_bit.1 k i hi]; rfl
theorem sub_or (x y : Nat) : subN x (x ||| y) := sub_bit.2 fun i h => by rw [Nat.testBit_or, h]; rfl
theorem sub_mod (x : Nat) : subN (x % 8) x := by rw [mod8]; exact sub_l _ _
theorem sub_refl (x : Nat) : subN x x := Nat.and_self x
theorem mod_mono {x y : Nat} (h : subN x y) : subN (x % 8) (y % 8) := by
  rw [mod8, mod8]
  exact sub_and (sub_trans (sub_l _ _) h) (sub_r _ _)
theorem feat_sub (a b : Hl) : subN (featB a b) a.feat.toNat ∧ subN (featB a b) b.feat.toNat := ⟨sub_l _ _, sub_r _ _⟩
theorem feat_lt {a : Hl} (h : RightH a) : a.feat.toNat < 1048576 := by obtain ⟨_, _, _, h1, h2⟩ := h; omega
theorem and_lt {x y : Nat} (h : x < 1048576) : x &&& y < 1048576 := Nat.lt_of_le_of_lt Nat.and_le_left h
theorem or_lt {x y : Nat} (h : x < 1048576) (k : y < 1048576) : x ||| y < 1048576 := Nat.or_lt_two_pow (n := 20) h k
theorem featB_lt {a b : Hl} (h : RightH a) : featB a b < 1048576 := and_lt (feat_lt h)

/-- What two that may be agree on, case by case. -/
theorem ag_cases {a b : Hl} (ha : RightH a) (hb : RightH b) :
    (agH a b = (2, featB a b, 0) ∧ a.high = 2 ∧ b.high = 2) ∨ (agH a b = (1, featB a b % 8, 0) ∧ ¬ (a.high = 2 ∧ b.high = 2) ∧ a.low = 1 ∧ b.low = 1) ∨ (agH a b = (0, 0, 22) ∧ ¬ (a.high = 2 ∧ b.high = 2) ∧ ¬ (a.low = 1 ∧ b.low = 1)) := by
  unfold agH
  rw [if_pos ⟨ha, hb⟩]
  by_cases h1 : a.high = 2 ∧ b.high = 2
  · exact .inl ⟨by rw [if_pos h1], h1⟩
  · by_cases h2 : a.low = 1 ∧ b.low = 1
    · exact .inr (.inl ⟨by rw [if_neg h1, if_pos h2], h1, h2⟩)
    · exact .inr (.inr ⟨by rw [if_neg h1, if_neg h2], h1, h2⟩)
theorem ag_no {a b : Hl} (h : ¬ (RightH a ∧ RightH b)) : agH a b = (0, 0, 1) := by unfold agH; rw [if_neg h]
theorem agH_lt (a b : Hl) : (agH a b).1 ≤ 2 ∧ (agH a b).2.1 < 1048576 ∧ (agH a b).2.2 ≤ 22 := by
  by_cases h : RightH a ∧ RightH b
  · have := featB_lt (b := b) h.1
    rcases ag_cases h.1 h.2 with ⟨e, _⟩ | ⟨e, _⟩ | ⟨e, _⟩ <;> rw [e] <;> simp <;> omega
  · rw [ag_no h]; simp
theorem of_right {b l : Int} (h : b = 1 ∨ b = 2) : RightH (ofH b l) := by
  unfold ofH RightH
  rcases h with rfl | rfl
  · simp
  · by_cases hl : l = 2 <;> simp [hl]
end Go.Proofs.Ytndkmepdnekigaa


/-
  Plain mathematics of hellos (stage 9): the chapter's examples, and others whose answers are told.
-/
namespace Go.Proofs.Ytndkmepdnekigaa

theorem rH (l h f : Int) : RightH ⟨l, h, f⟩ ↔ 1 ≤ l ∧ l ≤ h ∧ h ≤ 2 ∧ 0 ≤ f ∧ f ≤ 1048575 := Iff.rfl
theorem agEx1 : agH ⟨1, 1, 7⟩ ⟨1, 2, 1048575⟩ = (1, 7, 0) := by
  unfold agH
  rw [if_pos ⟨(rH _ _ _).2 (by omega), (rH _ _ _).2 (by omega)⟩, if_neg (by simp), if_pos ⟨rfl, rfl⟩]
  rfl
theorem agEx2 : agH ⟨1, 1, 7⟩ ⟨2, 2, 1048575⟩ = (0, 0, 22) := by
  unfold agH
  rw [if_pos ⟨(rH _ _ _).2 (by omega), (rH _ _ _).2 (by omega)⟩, if_neg (by simp), if_neg (by simp)]
theorem agEx3 : agH ⟨1, 2, 1048575⟩ ⟨2, 2, 1048575⟩ = (2, 1048575, 0) := by
  unfold agH
  rw [if_pos ⟨(rH _ _ _).2 (by omega), (rH _ _ _).2 (by omega)⟩, if_pos ⟨rfl, rfl⟩]
  rfl
theorem agEx5 : agH ⟨1, 1, 7⟩ ⟨1, 1, 7⟩ = (1, 7, 0) := by
  unfold agH
  rw [if_pos ⟨(rH _ _ _).2 (by omega), (rH _ _ _).2 (by omega)⟩, if_neg (by simp), if_pos ⟨rfl, rfl⟩]
  rfl
theorem agEx6 : agH ⟨1, 2, 1048575⟩ ⟨1, 2, 1048575⟩ = (2, 1048575, 0) := by
  unfold agH
  rw [if_pos ⟨(rH _ _ _).2 (by omega), (rH _ _ _).2 (by omega)⟩, if_pos ⟨rfl, rfl⟩]
  rfl
theorem agEx7 : agH ⟨1, 2, 1048575⟩ ⟨1, 1, 7⟩ = (1, 7, 0) := by rw [ag_comm]; exact agEx1
theorem agEx8 : agH ⟨2, 2, 1048575⟩ ⟨2, 2, 1048575⟩ = (2, 1048575, 0) := by
  unfold agH
  rw [if_pos ⟨(rH _ _ _).2 (by omega), (rH _ _ _).2 (by omega)⟩, if_pos ⟨rfl, rfl⟩]
  rfl
theorem agEx4 : agH ⟨0, 0, 0⟩ ⟨2, 2, 1048575⟩ = (0, 0, 1) := ag_no (fun h => by have := (rH _ _ _).1 h.1; omega)
theorem rEx1 : rightH ⟨1, 1, 7⟩ = true := rightH_iff.2 ((rH _ _ _).2 (by omega))
theorem rEx0 : rightH ⟨0, 0, 0⟩ = false := rightH_no (fun h => by have := (rH _ _ _).1 h; omega)
theorem of11 (l : Int) : ofH 1 l = ⟨1, 1, 7⟩ := by unfold ofH; rw [if_pos rfl]
theorem of21 : ofH 2 1 = ⟨1, 2, 1048575⟩ := by unfold ofH; rw [if_neg (by decide), if_pos rfl, if_neg (by decide)]
theorem of22 : ofH 2 2 = ⟨2, 2, 1048575⟩ := by unfold ofH; rw [if_neg (by decide), if_pos rfl, if_pos rfl]
theorem of31 : ofH 3 1 = ⟨0, 0, 0⟩ := by unfold ofH; rw [if_neg (by decide), if_neg (by decide)]
end Go.Proofs.Ytndkmepdnekigaa


/-
  Plain mathematics of hellos (stage 9): who knows more agrees on no less; alone; three.
-/
namespace Go.Proofs.Ytndkmepdnekigaa

theorem featB_mk (l u l2 u2 : Int) (F G : Nat) : featB ⟨l, u, (F : Int)⟩ ⟨l2, u2, (G : Int)⟩ = F &&& G := rfl
/-- Who knows more agrees on no less. -/
theorem ag_more {l u : Int} {F X : Nat} {B : Hl} (ha : RightH ⟨l, u, (F : Int)⟩) (hb : RightH B) (hX : X < 1048576) :
    RightH ⟨1, u, ((F ||| X : Nat) : Int)⟩ ∧ ((agH ⟨l, u, (F : Int)⟩ B).2.2 = 0 →
      (agH ⟨1, u, ((F ||| X : Nat) : Int)⟩ B).2.2 = 0 ∧ (agH ⟨1, u, ((F ||| X : Nat) : Int)⟩ B).1 = (agH ⟨l, u, (F : Int)⟩ B).1 ∧ subN (agH ⟨l, u, (F : Int)⟩ B).2.1 (agH ⟨1, u, ((F ||| X : Nat) : Int)⟩ B).2.1) := by
  have hF : F < 1048576 := by have := feat_lt ha; simpa using this
  have hFX := or_lt hF hX
  have hc : RightH ⟨1, u, ((F ||| X : Nat) : Int)⟩ := by
    rw [rH] at ha ⊢
    omega
  refine ⟨hc, fun hn => ?_⟩
  have hsub : subN (featB ⟨l, u, (F : Int)⟩ B) (featB ⟨1, u, ((F ||| X : Nat) : Int)⟩ B) := sub_and (sub_trans (sub_l _ _) (sub_or F X)) (sub_r _ _)
  rcases ag_cases ha hb with ⟨e, h1, h2⟩ | ⟨e, h1, h2, h3⟩ | ⟨e, h1, h2⟩
  · rcases ag_cases hc hb with ⟨e2, k1, k2⟩ | ⟨e2, k1, k2, k3⟩ | ⟨e2, k1, k2⟩
    · rw [e, e2]; exact ⟨rfl, rfl, hsub⟩
    · exact absurd ⟨h1, h2⟩ k1
    · exact absurd ⟨h1, h2⟩ k1
  · rcases ag_cases hc hb with ⟨e2, k1, k2⟩ | ⟨e2, k1, k2, k3⟩ | ⟨e2, k1, k2⟩
    · exact absurd ⟨k1, k2⟩ h1
    · rw [e, e2]; exact ⟨rfl, rfl, mod_mono hsub⟩
    · exact absurd ⟨rfl, h3⟩ k2
  · rw [e] at hn; simp at hn
theorem ag_self {l u : Int} {F : Nat} (ha : RightH ⟨l, u, (F : Int)⟩) :
    (agH ⟨l, u, (F : Int)⟩ ⟨l, u, (F : Int)⟩ = (2, F, 0) ∧ u = 2) ∨ (agH ⟨l, u, (F : Int)⟩ ⟨l, u, (F : Int)⟩ = (1, F % 8, 0) ∧ u = 1) := by
  have hf : featB ⟨l, u, (F : Int)⟩ ⟨l, u, (F : Int)⟩ = F := by rw [featB_mk]; exact Nat.and_self F
  have hr := (rH _ _ _).1 ha
  rcases ag_cases ha ha with ⟨e, h1, h2⟩ | ⟨e, h1, h2, h3⟩ | ⟨e, h1, h2⟩
  · exact .inl ⟨by rw [e, hf], h1⟩
  · exact .inr ⟨by rw [e, hf], by simp only at h1; omega⟩
  · simp only [and_self] at h1 h2; omega
/-- Of three. -/
theorem ag_three {A B C : Hl} (ha : RightH A) (hb : RightH B) (hc : RightH C) (h1 : (agH A B).2.2 = 0) (h2 : (agH B C).2.2 = 0) :
    ((agH A B).1 = 2 → (agH B C).1 = 2 → (agH A C).2.2 = 0 ∧ (agH A C).1 = 2) ∧
    ((agH A C).2.2 = 0 → (agH A C).1 ≠ 1 → subN ((agH A B).2.1 &&& (agH B C).2.1) (agH A C).2.1) := by
  rcases ag_cases ha hb with ⟨e, x1, x2⟩ | ⟨e, x1, x2, x3⟩ | ⟨e, x1, x2⟩
  · rcases ag_cases hb hc with ⟨f, y1, y2⟩ | ⟨f, y1, y2, y3⟩ | ⟨f, y1, y2⟩
    · rcases ag_cases ha hc with ⟨g, z1, z2⟩ | ⟨g, z1, z2, z3⟩ | ⟨g, z1, z2⟩
      · rw [e, f, g]; exact ⟨fun _ _ => ⟨rfl, rfl⟩, fun _ _ => sub_and (sub_trans (sub_l _ _) (sub_l _ _)) (sub_trans (sub_r _ _) (sub_r _ _))⟩
      · exact absurd ⟨x1, y2⟩ z1
      · exact absurd ⟨x1, y2⟩ z1
    · rw [e, f]
      refine ⟨fun _ h => by simp at h, fun h3 h4 => ?_⟩
      rcases ag_cases ha hc with ⟨g, z1, z2⟩ | ⟨g, z1, z2, z3⟩ | ⟨g, z1, z2⟩
      · rw [g]; exact sub_and (sub_trans (sub_l _ _) (sub_l _ _)) (sub_trans (sub_r _ _) (sub_trans (sub_mod _) (sub_r _ _)))
      · rw [g] at h4; simp at h4
      · rw [g] at h3; simp at h3
    · rw [f] at h2; simp at h2
  · rcases ag_cases hb hc with ⟨f, y1, y2⟩ | ⟨f, y1, y2, y3⟩ | ⟨f, y1, y2⟩
    · rw [e, f]
      refine ⟨fun h _ => by simp at h, fun h3 h4 => ?_⟩
      rcases ag_cases ha hc with ⟨g, z1, z2⟩ | ⟨g, z1, z2, z3⟩ | ⟨g, z1, z2⟩
      · rw [g]; exact sub_and (sub_trans (sub_l _ _) (sub_trans (sub_mod _) (sub_l _ _))) (sub_trans (sub_r _ _) (sub_r _ _))
      · rw [g] at h4; simp at h4
      · rw [g] at h3; simp at h3
    · rw [e, f]
      refine ⟨fun h _ => by simp at h, fun h3 h4 => ?_⟩
      rcases ag_cases ha hc with ⟨g, z1, z2⟩ | ⟨g, z1, z2, z3⟩ | ⟨g, z1, z2⟩
      · rw [g]; exact sub_and (sub_trans (sub_l _ _) (sub_trans (sub_mod _) (sub_l _ _))) (sub_trans (sub_r _ _) (sub_trans (sub_mod _) (sub_r _ _)))
      · rw [g] at h4; simp at h4
      · rw [g] at h3; simp at h3
    · rw [f] at h2; simp at h2
  · rw [e] at h1; simp at h1
end Go.Proofs.Ytndkmepdnekigaa

