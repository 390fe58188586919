/-
  Plain mathematics of Decode: the rounds, one by one; there and back.
-/
import Derived.Test.YtkhpkjnnkmoeoaaFieldMath
namespace Go.Proofs.Ytkhpkjnnkmoeoaa

theorem takeF_ok {l : List UInt8} {a : Nat} {t k : Nat} {d : List UInt8} (h : takeF l a = (t, d, k, 0)) : 2 ≤ k ∧ k ≤ l.length ∧ a < t ∧ t ≤ 1000000 ∧ d.length ≤ 1000 ∧ vb t ++ (vb d.length ++ d) = l.take k := by
  unfold takeF at h
  generalize h1 : takeR l = r1 at h
  obtain ⟨n1, k1, e1⟩ := r1
  simp only at h
  split at h
  · simp only [Prod.mk.injEq] at h; omega
  rename_i he1
  split at h
  · simp only [Prod.mk.injEq] at h; omega
  rename_i hm
  generalize h2 : takeR (l.drop k1) = r2 at h
  obtain ⟨n2, k2, e2⟩ := r2
  simp only at h
  split at h
  · simp only [Prod.mk.injEq] at h; omega
  rename_i he2
  split at h
  · simp only [Prod.mk.injEq] at h; omega
  rename_i h1000
  split at h
  · simp only [Prod.mk.injEq] at h; omega
  rename_i hcut
  simp only [Prod.mk.injEq] at h
  obtain ⟨rfl, rfl, rfl, _⟩ := h
  have e1' : e1 = 0 := by omega
  have e2' : e2 = 0 := by omega
  subst e1' e2'
  obtain ⟨_, a1, a2, a3⟩ := takeR_ok h1
  obtain ⟨_, b1, b2, b3⟩ := takeR_ok h2
  have hm' : mayB (n1 : Int) (a : Int) = true := by simpa using hm
  have hm2 := mayB_iff.1 hm'
  rw [List.length_drop] at b2
  have hd : ((l.drop (k1 + k2)).take n2).length = n2 := by rw [List.length_take, List.length_drop]; omega
  refine ⟨by omega, by omega, by omega, by omega, by omega, ?_⟩
  rw [hd, a3, b3]
  rw [show k1 + k2 + n2 = k1 + (k2 + n2) by omega, List.take_add, List.take_add, List.drop_drop]
theorem takeF_drop {l : List UInt8} {a : Nat} {t k : Nat} {d : List UInt8} (h : takeF l a = (t, d, k, 0)) : l = vb t ++ (vb d.length ++ d) ++ l.drop k := by
  rw [(takeF_ok h).2.2.2.2.2, List.take_append_drop]
theorem takeF_err {l : List UInt8} {a : Nat} : (takeF l a).2.2.2 = 0 ∨ (takeF l a).2.2.2 = 10 ∨ (takeF l a).2.2.2 = 11 ∨ (takeF l a).2.2.2 = 13 := by
  have h1 := takeR_err l
  have h2 := takeR_err (l.drop (takeR l).2.1)
  unfold takeF
  split
  · simp only; omega
  split
  · simp
  split
  · simp only; omega
  split
  · simp
  split <;> simp

/-- The fields so far, and what comes. -/
def comb (pre : List Fld) (r : List Fld × Nat) : List Fld × Nat := if r.2 = 0 then (pre ++ r.1, 0) else ([], r.2)
theorem decF_fuel : ∀ (f1 f2 : Nat) (l : List UInt8) (a c : Nat), l.length ≤ f1 → l.length ≤ f2 → decF f1 l a c = decF f2 l a c := by
  intro f1
  induction f1 with
  | zero =>
    intro f2 l a c h1 h2
    have : l = [] := List.eq_nil_of_length_eq_zero (by omega)
    subst this
    cases f2 <;> simp [decF]
  | succ f1 ih =>
    intro f2 l a c h1 h2
    by_cases hl : l = []
    · subst hl; cases f2 <;> simp [decF]
    · have hp : 0 < l.length := List.length_pos_iff.2 hl
      obtain ⟨f2, rfl⟩ : ∃ q, f2 = q + 1 := ⟨f2 - 1, by omega⟩
      unfold decF
      rw [if_neg hl, if_neg hl]
      by_cases he : (takeF l a).2.2.2 ≠ 0
      · rw [if_pos he, if_pos he]
      · rw [if_neg he, if_neg he]
        have hk : 2 ≤ (takeF l a).2.2.1 := by
          have := takeF_ok (l := l) (a := a) (t := (takeF l a).1) (d := (takeF l a).2.1) (k := (takeF l a).2.2.1) (by
            rw [show (0 : Nat) = (takeF l a).2.2.2 by omega])
          exact this.1
        have e := ih f2 (l.drop (takeF l a).2.2.1) (takeF l a).1 (c + 1) (by rw [List.length_drop]; omega) (by rw [List.length_drop]; omega)
        rw [e]
theorem comb_nil (pre : List Fld) (f a c : Nat) : comb pre (decF f [] a c) = (pre, 0) := by cases f <;> simp [decF, comb]
theorem comb_err (pre : List Fld) {l : List UInt8} {f a c e : Nat} (hl : l ≠ []) (hf : l.length ≤ f) (h : (takeF l a).2.2.2 = e) (he : e ≠ 0) : comb pre (decF f l a c) = ([], e) := by
  have hp : 0 < l.length := List.length_pos_iff.2 hl
  obtain ⟨f, rfl⟩ : ∃ q, f = q + 1 := ⟨f - 1, by omega⟩
  subst h
  unfold decF comb
  rw [if_neg hl, if_pos he]
  simp [he]
theorem comb_many (pre : List Fld) {l : List UInt8} {f a : Nat} (hl : l ≠ []) (hf : l.length ≤ f) (h : (takeF l a).2.2.2 = 0) : comb pre (decF f l a 64) = ([], 11) := by
  have hp : 0 < l.length := List.length_pos_iff.2 hl
  obtain ⟨f, rfl⟩ : ∃ q, f = q + 1 := ⟨f - 1, by omega⟩
  unfold decF comb
  rw [if_neg hl, if_neg (show ¬ (takeF l a).2.2.2 ≠ 0 from fun hh => hh h), if_pos (show (64 : Nat) = 64 from rfl)]
  simp
theorem comb_step (pre : List Fld) {l : List UInt8} {f a t k c : Nat} {d : List UInt8} (hl : l ≠ []) (hf : l.length ≤ f) (h : takeF l a = (t, d, k, 0)) (hc : c ≠ 64) :
    comb pre (decF f l a c) = comb (pre ++ [((t : Int), (⟨d.toArray⟩ : ByteArray))]) (decF (l.drop k).length (l.drop k) t (c + 1)) := by
  have hp : 0 < l.length := List.length_pos_iff.2 hl
  obtain ⟨f, rfl⟩ : ∃ q, f = q + 1 := ⟨f - 1, by omega⟩
  have hk := (takeF_ok h).1
  have e := decF_fuel f (l.drop k).length (l.drop k) t (c + 1) (by rw [List.length_drop]; omega) (Nat.le_refl _)
  rw [← e]
  conv => lhs; unfold decF
  rw [if_neg hl, h]
  simp only [ne_eq, not_true_eq_false, if_false]
  rw [if_neg hc]
  unfold comb
  by_cases hz : (decF f (l.drop k) t (c + 1)).2 = 0
  · simp [hz]
  · simp [hz]
theorem decR_long {l : List UInt8} (h : 10000 < l.length) : decR l = ([], 12) := by unfold decR; rw [if_pos h]
theorem decR_comb {l : List UInt8} (h : ¬ 10000 < l.length) : decR l = comb [] (decF l.length l 0 0) := by
  unfold decR comb; rw [if_neg h]
  by_cases hz : (decF l.length l 0 0).2 = 0
  · rw [if_pos hz]
    generalize decF l.length l 0 0 = r at hz ⊢
    obtain ⟨x, y⟩ := r
    simp only at hz
    subst hz; simp
  · rw [if_neg hz]
    have : (decF l.length l 0 0).1 = [] := by
      cases hl : l.length with
      | zero => rw [hl] at hz; simp [decF] at hz
      | succ f =>
        rw [hl] at hz
        unfold decF at hz ⊢
        split
        · rfl
        · rename_i h1
          rw [if_neg h1] at hz
          split
          · rfl
          · rename_i h2
            rw [if_neg h2] at hz
            split
            · rfl
            · rename_i h3
              rw [if_neg h3] at hz
              split
              · rfl
              · rename_i h4
                rw [if_neg h4] at hz
                exact absurd rfl hz
    rw [← this]

end Go.Proofs.Ytkhpkjnnkmoeoaa
