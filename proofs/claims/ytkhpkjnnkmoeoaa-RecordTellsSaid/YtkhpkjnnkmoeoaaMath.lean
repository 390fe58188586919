/-
  Plain mathematics of numbers as few bytes (base 128): their bytes, and what a text's beginning is taken for. No condition; nothing of the program is named here.
-/
namespace Go.Proofs.Ytkhpkjnnkmoeoaa

/-- A number's bytes: its digits to the base 128, the lowest first; 128 more in each but the last. -/
def vb (n : Nat) : List UInt8 := if n < 128 then [UInt8.ofNat n] else UInt8.ofNat (n % 128 + 128) :: vb (n / 128)
termination_by n
decreasing_by omega

theorem vb_small {n : Nat} (h : n < 128) : vb n = [UInt8.ofNat n] := by rw [vb, if_pos h]
theorem vb_big {n : Nat} (h : ¬ n < 128) : vb n = UInt8.ofNat (n % 128 + 128) :: vb (n / 128) := by rw [vb, if_neg h]

/-- What digits are worth. -/
def val : List UInt8 → Nat
  | [] => 0
  | b :: t => b.toNat % 128 + 128 * val t

/-- How many bytes of 128 or more a text begins with. -/
def lead : List UInt8 → Nat
  | [] => 0
  | b :: t => if b.toNat < 128 then 0 else lead t + 1

theorem lead_le (l : List UInt8) : lead l ≤ l.length := by
  induction l with
  | nil => simp [lead]
  | cons b t ih => unfold lead; split <;> simp <;> omega

/-- What a text's beginning is taken for: the number, how many bytes, the error. -/
def takeR (l : List UInt8) : Nat × Nat × Nat :=
  if lead l < min l.length 8 then
    (if 9007199254740992 < val (l.take (lead l + 1)) ∨ (0 < lead l ∧ (l[lead l]?.getD 0).toNat = 0) then (0, 0, 11) else (val (l.take (lead l + 1)), lead l + 1, 0))
  else if 8 ≤ l.length then (0, 0, 11) else (0, 0, 10)

theorem vb_ne (n : Nat) : vb n ≠ [] := by rw [vb]; split <;> simp
theorem vb_pos (n : Nat) : 0 < (vb n).length := List.length_pos_iff.2 (vb_ne n)

theorem toNat_ofNat_lt {n : Nat} (h : n < 256) : (UInt8.ofNat n).toNat = n := by simp; omega

theorem val_vb (n : Nat) : val (vb n) = n := by
  induction n using Nat.strongRecOn with
  | _ n ih =>
    by_cases h : n < 128
    · rw [vb_small h]; simp [val]; omega
    · rw [vb_big h]; simp only [val]; rw [ih (n / 128) (by omega), toNat_ofNat_lt (by omega)]; omega

theorem vb_len_le (k : Nat) : ∀ n, n < 128 ^ k → (vb n).length ≤ max k 1 := by
  induction k with
  | zero => intro n h; rw [vb_small (by simp at h; omega)]; simp
  | succ k ih =>
    intro n h
    by_cases h1 : n < 128
    · rw [vb_small h1]; exact Nat.le_max_right _ _
    · rw [vb_big h1]
      have := ih (n / 128) (by rw [Nat.pow_succ] at h; omega)
      have hk : 0 < k := by
        rcases Nat.eq_zero_or_pos k with rfl | hk
        · simp at h; omega
        · exact hk
      simp only [List.length_cons]; omega

theorem vb_len8 {n : Nat} (h : n ≤ 9007199254740992) : (vb n).length ≤ 8 := by
  have := vb_len_le 8 n (by have : (128:Nat) ^ 8 = 72057594037927936 := by decide
                            omega)
  omega

/-- A number's bytes: all but the last are 128 or more. -/
theorem lead_vb (n : Nat) (m : List UInt8) : lead (vb n ++ m) = (vb n).length - 1 := by
  induction n using Nat.strongRecOn with
  | _ n ih =>
    by_cases h : n < 128
    · rw [vb_small h]; simp [lead]; omega
    · rw [vb_big h]; simp only [List.cons_append, lead]
      rw [toNat_ofNat_lt (by omega), if_neg (by omega), ih (n / 128) (by omega)]
      have := vb_pos (n / 128)
      simp only [List.length_cons]; omega

theorem vb_last (n : Nat) (h : 128 ≤ n) (m : List UInt8) : (((vb n ++ m)[(vb n).length - 1]?).getD 0).toNat ≠ 0 := by
  induction n using Nat.strongRecOn with
  | _ n ih =>
    rw [vb_big (by omega)]
    have hp := vb_pos (n / 128)
    have e : (UInt8.ofNat (n % 128 + 128) :: vb (n / 128)).length - 1 = ((vb (n / 128)).length - 1) + 1 := by simp only [List.length_cons]; omega
    rw [e, List.cons_append, List.getElem?_cons_succ]
    by_cases h1 : n / 128 < 128
    · rw [vb_small h1]; simp; omega
    · exact ih (n / 128) (by omega) (by omega)

/-- (Back.) What was put is taken, whatever stands behind it. -/
theorem takeR_vb {n : Nat} (h : n ≤ 9007199254740992) (m : List UInt8) : takeR (vb n ++ m) = (n, (vb n).length, 0) := by
  have hp := vb_pos n
  have h8 := vb_len8 h
  unfold takeR
  rw [lead_vb, if_pos (by simp only [List.length_append]; omega)]
  have e : (vb n).length - 1 + 1 = (vb n).length := by omega
  rw [e, List.take_left, val_vb, if_neg]
  intro hc
  rcases hc with hc | ⟨h1, h2⟩
  · omega
  · by_cases h3 : n < 128
    · rw [vb_small h3] at h1; simp at h1
    · exact vb_last n (by omega) m h2

theorem lead_take_vb (n j : Nat) (h : j < (vb n).length) : lead ((vb n).take j) = j := by
  induction n using Nat.strongRecOn generalizing j with
  | _ n ih =>
    cases j with
    | zero => simp [lead]
    | succ j =>
      by_cases h1 : n < 128
      · rw [vb_small h1] at h; simp at h
      · rw [vb_big h1] at h ⊢
        simp only [List.take_succ_cons, lead]
        rw [toNat_ofNat_lt (by omega), if_neg (by omega), ih (n / 128) (by omega) j (by simpa using h)]

/-- (Back.) Cut off it is ErrCut. -/
theorem takeR_cut {n j : Nat} (h : n ≤ 9007199254740992) (hj : j < (vb n).length) : takeR ((vb n).take j) = (0, 0, 10) := by
  have h8 := vb_len8 h
  have hl : ((vb n).take j).length = j := by simp; omega
  unfold takeR
  rw [lead_take_vb n j hj, hl, if_neg (by omega), if_neg (by omega)]

theorem val_lead (l : List UInt8) (h : lead l < l.length) (hz : 0 < lead l → (l[lead l]?.getD 0).toNat ≠ 0) : vb (val (l.take (lead l + 1))) = l.take (lead l + 1) := by
  induction l with
  | nil => simp at h
  | cons b t ih =>
    have hb : b.toNat < 256 := b.toNat_lt
    by_cases h1 : b.toNat < 128
    · have e : lead (b :: t) = 0 := by simp [lead, h1]
      rw [e]; simp only [Nat.zero_add, List.take_succ_cons, List.take_zero, val]
      rw [vb_small (by omega)]
      congr 1
      apply UInt8.toNat_inj.1
      rw [toNat_ofNat_lt (by omega)]; omega
    · have e : lead (b :: t) = lead t + 1 := by simp [lead, h1]
      rw [e] at h hz ⊢
      have ht : lead t < t.length := by simpa using h
      have hz' : (t[lead t]?.getD 0).toNat ≠ 0 := by simpa using hz (by omega)
      simp only [List.take_succ_cons, val]
      have ih' := ih ht (fun _ => hz')
      -- the rest is worth something, so that this number is 128 or more
      have hv : 0 < val (t.take (lead t + 1)) := by
        rcases Nat.eq_zero_or_pos (val (t.take (lead t + 1))) with h0 | h0
        · exfalso
          rw [h0, vb_small (by omega)] at ih'
          have hl : (t.take (lead t + 1)).length = 1 := by rw [← ih']; rfl
          have hl0 : lead t = 0 := by rw [List.length_take] at hl; omega
          rw [hl0] at ih' hz'
          cases t with
          | nil => simp at ht
          | cons c u =>
            simp at ih' hz'
            subst ih'; simp at hz'
        · exact h0
      rw [vb_big (by omega)]
      have e1 : (b.toNat % 128 + 128 * val (t.take (lead t + 1))) / 128 = val (t.take (lead t + 1)) := by omega
      rw [e1, ih']
      congr 1
      apply UInt8.toNat_inj.1
      rw [toNat_ofNat_lt (by omega)]; omega

/-- (Forth.) What is taken, put again, is what stood there. -/
theorem takeR_ok {l : List UInt8} {n k : Nat} (h : takeR l = (n, k, 0)) : n ≤ 9007199254740992 ∧ 1 ≤ k ∧ k ≤ l.length ∧ vb n = l.take k := by
  unfold takeR at h
  split at h
  · rename_i h1
    split at h
    · simp at h
    · rename_i h2
      simp only [Prod.mk.injEq] at h
      obtain ⟨rfl, rfl, _⟩ := h
      have h3 : ¬ 9007199254740992 < val (l.take (lead l + 1)) := fun hc => h2 (.inl hc)
      refine ⟨by omega, by omega, by omega, val_lead l (by omega) (fun hp hc => h2 (.inr ⟨hp, hc⟩))⟩
  · split at h <;> simp at h

theorem takeR_no {l : List UInt8} {n k e : Nat} (h : takeR l = (n, k, e)) (he : e ≠ 0) : n = 0 ∧ k = 0 ∧ (e = 10 ∨ e = 11) ∧ (e = 11 ∨ l.length < 8) := by
  unfold takeR at h
  split at h
  · split at h
    · simp only [Prod.mk.injEq] at h; omega
    · simp only [Prod.mk.injEq] at h; omega
  · split at h <;> simp only [Prod.mk.injEq] at h <;> omega

theorem takeR_fst_le (l : List UInt8) : (takeR l).1 ≤ 9007199254740992 := by
  unfold takeR; split
  · split
    · simp
    · rename_i h; simp only; omega
  · split <;> simp
theorem takeR_snd_le (l : List UInt8) : (takeR l).2.1 ≤ l.length ∧ (takeR l).2.1 ≤ 8 := by
  unfold takeR; split
  · split
    · simp
    · simp only; omega
  · split <;> simp
theorem takeR_err (l : List UInt8) : (takeR l).2.2 = 0 ∨ (takeR l).2.2 = 10 ∨ (takeR l).2.2 = 11 := by
  unfold takeR; split
  · split <;> simp
  · split <;> simp

/-- Unlike numbers have unlike bytes, and none begin with the other's. -/
theorem vb_prefix {x y : Nat} (hx : x ≤ 9007199254740992) (hy : y ≤ 9007199254740992) (m : List UInt8) (h : vb y = vb x ++ m) : x = y := by
  have h1 := takeR_vb hx m
  have h2 := takeR_vb hy []
  rw [List.append_nil, h, h1] at h2
  simp only [Prod.mk.injEq] at h2
  exact h2.1

theorem vb_len_mono {x y : Nat} (h : x ≤ y) : (vb x).length ≤ (vb y).length := by
  induction y using Nat.strongRecOn generalizing x with
  | _ y ih =>
    by_cases h1 : x < 128
    · rw [vb_small h1]; have := vb_pos y; simp; omega
    · rw [vb_big h1, vb_big (n := y) (by omega)]
      have := ih (y / 128) (by omega) (x := x / 128) (by omega)
      simp only [List.length_cons]; omega

theorem vb_len_one (x : Nat) : (vb x).length = 1 ↔ x < 128 := by
  by_cases h : x < 128
  · rw [vb_small h]; simp [h]
  · rw [vb_big h]; have := vb_pos (x / 128); simp only [List.length_cons]; omega

/-- 128 times as much, and less than that more, has one byte more, in front. -/
theorem vb_step (x m : Nat) (hx : 0 < x) (hm : m < 128) : vb (128 * x + m) = UInt8.ofNat (m + 128) :: vb x := by
  rw [vb_big (by omega)]
  have e1 : (128 * x + m) % 128 = m := by omega
  have e2 : (128 * x + m) / 128 = x := by omega
  rw [e1, e2]

end Go.Proofs.Ytkhpkjnnkmoeoaa
