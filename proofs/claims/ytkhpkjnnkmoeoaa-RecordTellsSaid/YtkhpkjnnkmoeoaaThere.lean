/-
  Plain mathematics of fields: there and back, cut off, one behind the other.
-/
import Derived.Test.YtkhpkjnnkmoeoaaDecMath
namespace Go.Proofs.Ytkhpkjnnkmoeoaa

/-- Fields that may stand behind a tag. -/
def chain : Int → List Fld → Prop
  | _, [] => True
  | a, f :: t => (a < f.1 ∧ f.1 ≤ 1000000 ∧ f.2.size ≤ 1000) ∧ chain f.1 t
theorem chain_at : ∀ (fs : List Fld) (a : Int), chain a fs ↔ ∀ i, i < fs.length → (if i = 0 then a else tg fs (i - 1)) < tg fs i ∧ tg fs i ≤ 1000000 ∧ (dt fs i).size ≤ 1000 := by
  intro fs
  induction fs with
  | nil => intro a; simp [chain]
  | cons f fs ih =>
    intro a
    have t0 : tg (f :: fs) 0 = f.1 := rfl
    have d0 : dt (f :: fs) 0 = f.2 := rfl
    have ts : ∀ i, tg (f :: fs) (i + 1) = tg fs i := fun i => by simp [tg]
    have ds : ∀ i, dt (f :: fs) (i + 1) = dt fs i := fun i => by simp [dt]
    constructor
    · rintro ⟨h1, h2⟩ i hi
      cases i with
      | zero => rw [if_pos rfl, t0, d0]; exact h1
      | succ i =>
        have h3 := (ih f.1).1 h2 i (by simpa using hi)
        rw [if_neg (by omega), ts, ds, Nat.add_sub_cancel]
        cases i with
        | zero => rw [t0]; simpa using h3
        | succ i => rw [ts]; rw [if_neg (by omega), Nat.add_sub_cancel] at h3; exact h3
    · intro h
      refine ⟨?_, (ih f.1).2 fun i hi => ?_⟩
      · have := h 0 (by simp); rw [if_pos rfl, t0, d0] at this; exact this
      · have h3 := h (i + 1) (by simpa using hi)
        rw [if_neg (by omega), ts, ds, Nat.add_sub_cancel] at h3
        cases i with
        | zero => rw [if_pos rfl]; rw [t0] at h3; exact h3
        | succ i => rw [if_neg (by omega), Nat.add_sub_cancel]; rw [ts] at h3; exact h3
theorem right_chain {fs : List Fld} : rightB fs = true ↔ fs.length ≤ 64 ∧ chain 0 fs := by
  rw [rightB_iff, chain_at]
  constructor
  · rintro ⟨h1, h2⟩
    refine ⟨h1, fun i hi => ?_⟩
    exact okAt_iff.1 (h2 i hi)
  · rintro ⟨h1, h2⟩
    exact ⟨h1, fun i hi => okAt_iff.2 (h2 i hi)⟩
/-- The last field's tag; 't' if there is none. -/
def lastT (t : Int) (a : List Fld) : Int := match a.getLast? with | some f => f.1 | none => t
theorem lastT_cons (t : Int) (f : Fld) (a : List Fld) : lastT t (f :: a) = lastT f.1 a := by
  unfold lastT
  cases a with
  | nil => simp
  | cons g a =>
    rw [List.getLast?_cons_cons]
    have : ∃ x, (g :: a).getLast? = some x := ⟨_, List.getLast?_eq_some_getLast (by simp)⟩
    obtain ⟨x, hx⟩ := this
    rw [hx]
theorem chain_app : ∀ {a b : List Fld} {t : Int}, chain t (a ++ b) ↔ chain t a ∧ chain (lastT t a) b := by
  intro a
  induction a with
  | nil => intro b t; simp [chain, lastT]
  | cons f a ih =>
    intro b t
    rw [List.cons_append, lastT_cons]
    show _ ∧ chain f.1 (a ++ b) ↔ (_ ∧ chain f.1 a) ∧ _
    rw [ih]
    exact ⟨fun ⟨x, y, z⟩ => ⟨⟨x, y⟩, z⟩, fun ⟨⟨x, y⟩, z⟩ => ⟨x, y, z⟩⟩
theorem chain_last : ∀ {a : List Fld} {t : Int}, chain t a → t ≤ lastT t a ∧ (a ≠ [] → lastT t a ≤ 1000000) := by
  intro a
  induction a with
  | nil => intro t _; simp [lastT]
  | cons f a ih =>
    intro t h
    have h2 := ih h.2
    have h1 := h.1
    rw [lastT_cons]
    cases a with
    | nil => simp only [lastT, List.getLast?_nil]; omega
    | cons g a =>
      have := h2.2 (by simp)
      omega
theorem chain_mono {a : List Fld} {s t : Int} (h : chain t a) (hs : s ≤ t) : chain s a := by
  cases a with
  | nil => trivial
  | cons f a => exact ⟨⟨by have := h.1; omega, h.1.2⟩, h.2⟩
theorem bsd (d : ByteArray) : (⟨d.data.toList.toArray⟩ : ByteArray) = d := by simp
theorem dlen (d : ByteArray) : d.data.toList.length = d.size := by simp
theorem takeF_enc {t a : Nat} {d rest : List UInt8} (h1 : a < t) (h2 : t ≤ 1000000) (h3 : d.length ≤ 1000) :
    takeF (vb t ++ (vb d.length ++ d) ++ rest) a = (t, d, (vb t ++ (vb d.length ++ d)).length, 0) := by
  have e1 := takeR_vb (n := t) (by omega) (vb d.length ++ d ++ rest)
  have e2 := takeR_vb (n := d.length) (by omega) (d ++ rest)
  have hm : mayB (t : Int) (a : Int) = true := mayB_yes (by omega) (by omega)
  have hl : vb t ++ (vb d.length ++ d) ++ rest = vb t ++ (vb d.length ++ d ++ rest) := by simp
  rw [hl]
  unfold takeF
  rw [e1]
  simp only [ne_eq, not_true_eq_false, if_false, hm, Bool.true_eq_false]
  rw [List.drop_left, show vb d.length ++ d ++ rest = vb d.length ++ (d ++ rest) by simp, e2]
  simp only [not_true_eq_false, if_false]
  rw [if_neg (by omega), if_neg (by simp only [List.length_append]; omega)]
  have e3 : (vb t ++ (vb d.length ++ (d ++ rest))).drop ((vb t).length + (vb d.length).length) = d ++ rest := by
    rw [← List.drop_drop, List.drop_left, List.drop_left]
  rw [e3, List.take_left]
  simp only [List.length_append, Nat.add_assoc]
theorem takeF_enc1 {f : Fld} {a : Nat} {rest : List UInt8} (h1 : (a : Int) < f.1) (h2 : f.1 ≤ 1000000) (h3 : f.2.size ≤ 1000) :
    takeF (enc1 f ++ rest) a = (f.1.toNat, f.2.data.toList, (enc1 f).length, 0) := by
  have := takeF_enc (t := f.1.toNat) (a := a) (d := f.2.data.toList) (rest := rest) (by omega) (by omega) (by rw [dlen]; exact h3)
  rw [dlen] at this
  exact this

/-- Fields ahead are told, whatever stands behind. -/
theorem dec_prefix : ∀ (fs pre : List Fld) (a c : Nat) (rest : List UInt8), chain a fs → c + fs.length ≤ 64 →
    comb pre (decF (encL fs ++ rest).length (encL fs ++ rest) a c) = comb (pre ++ fs) (decF rest.length rest (lastT a fs).toNat (c + fs.length)) := by
  intro fs
  induction fs with
  | nil => intro pre a c rest _ _; simp [encL, lastT]
  | cons f fs ih =>
    intro pre a c rest h hc
    obtain ⟨⟨h1, h2, h3⟩, h4⟩ := h
    simp only [List.length_cons] at hc
    have e := takeF_enc1 (rest := encL fs ++ rest) h1 h2 h3
    have hl : encL (f :: fs) ++ rest = enc1 f ++ (encL fs ++ rest) := by rw [encL_cons, List.append_assoc]
    have hne : enc1 f ++ (encL fs ++ rest) ≠ [] := by
      have := enc1_pos f
      intro h
      have := congrArg List.length h
      rw [List.length_append, List.length_nil] at this
      omega
    rw [hl, comb_step pre hne (Nat.le_refl _) e (by omega), List.drop_left, bsd]
    have ef : ((f.1.toNat : Int), f.2) = f := by rw [Int.toNat_of_nonneg (by omega)]
    rw [ef, ih (pre ++ [f]) f.1.toNat (c + 1) rest (by rw [Int.toNat_of_nonneg (by omega)]; exact h4) (by omega), Int.toNat_of_nonneg (by omega), lastT_cons]
    simp only [List.append_assoc, List.singleton_append, List.length_cons]
    rw [show c + 1 + fs.length = c + (fs.length + 1) by omega]
theorem dec_enc {fs : List Fld} (h : rightB fs = true) (hl : (encL fs).length ≤ 10000) : decR (encL fs) = (fs, 0) := by
  obtain ⟨h1, h2⟩ := right_chain.1 h
  rw [decR_comb (by omega)]
  have := dec_prefix fs [] 0 0 [] h2 (by omega)
  rw [List.append_nil, comb_nil] at this
  simpa using this
/-- A field behind others whose tag is not above theirs. -/
theorem dec_tags {fs : List Fld} {t : Nat} {rest : List UInt8} (h : rightB fs = true) (h1 : 1 ≤ t) (h2 : (t : Int) ≤ lastT 0 fs) (hl : (encL fs ++ (vb t ++ rest)).length ≤ 10000) : decR (encL fs ++ (vb t ++ rest)) = ([], 13) := by
  obtain ⟨h4, h5⟩ := right_chain.1 h
  have hlast := chain_last h5
  have hne : fs ≠ [] := by rintro rfl; simp [lastT] at h2; omega
  have hle := hlast.2 hne
  rw [decR_comb (by omega), dec_prefix fs [] 0 0 (vb t ++ rest) h5 (by omega)]
  have e1 := takeR_vb (n := t) (by omega) rest
  have hm : mayB (t : Int) ((lastT 0 fs).toNat : Int) = false := by
    rw [Int.toNat_of_nonneg (by omega)]; exact mayB_no.2 (by omega)
  refine comb_err _ (by have := vb_ne t; simp [this]) (Nat.le_refl _) ?_ (by decide)
  show (takeF (vb t ++ rest) (lastT 0 fs).toNat).2.2.2 = 13
  unfold takeF
  rw [e1, if_neg (by simp), if_pos hm]
theorem dec_more {fs : List Fld} {f : Fld} (h : rightB fs = true) (h64 : fs.length < 64) (h2 : lastT 0 fs < f.1) (h3 : f.1 ≤ 1000000) (h4 : f.2.size ≤ 1000) : rightB (fs ++ [f]) = true := by
  obtain ⟨h5, h6⟩ := right_chain.1 h
  exact right_chain.2 ⟨by simp; omega, chain_app.2 ⟨h6, ⟨h2, h3, h4⟩, trivial⟩⟩

/-- What is decoded, encoded again, is what stood there. -/
theorem dec_forth : ∀ (n : Nat) (l : List UInt8) (pre R : List Fld) (a c : Nat), l.length ≤ n → c ≤ 64 → comb pre (decF l.length l a c) = (R, 0) → ∃ fs, R = pre ++ fs ∧ encL fs = l ∧ chain a fs ∧ c + fs.length ≤ 64 := by
  intro n
  induction n with
  | zero =>
    intro l pre R a c hl hc h
    obtain rfl : l = [] := List.eq_nil_of_length_eq_zero (by omega)
    rw [comb_nil] at h
    simp only [Prod.mk.injEq] at h
    exact ⟨[], by simp [h.1], rfl, trivial, by simpa using hc⟩
  | succ n ih =>
    intro l pre R a c hl hc h
    by_cases hne : l = []
    · subst hne
      rw [comb_nil] at h
      simp only [Prod.mk.injEq] at h
      exact ⟨[], by simp [h.1], rfl, trivial, by simpa using hc⟩
    · generalize hT : takeF l a = T
      obtain ⟨t, d, k, e⟩ := T
      by_cases he : e = 0
      · subst he
        by_cases h64 : c = 64
        · subst h64
          rw [comb_many pre hne (Nat.le_refl _) (by rw [hT])] at h
          simp at h
        · have hok := takeF_ok hT
          rw [comb_step pre hne (Nat.le_refl _) hT h64] at h
          obtain ⟨fs, h1, h2, h3, h4⟩ := ih (l.drop k) _ R t (c + 1) (by rw [List.length_drop]; omega) (by omega) h
          refine ⟨((t : Int), (⟨d.toArray⟩ : ByteArray)) :: fs, by rw [h1]; simp, ?_, ⟨⟨by show (a : Int) < (t : Int); omega, by show (t : Int) ≤ 1000000; omega, by show d.toArray.size ≤ 1000; simpa using hok.2.2.2.2.1⟩, h3⟩, by simp only [List.length_cons]; omega⟩
          rw [encL_cons, h2]
          have : enc1 ((t : Int), (⟨d.toArray⟩ : ByteArray)) = l.take k := by
            rw [← hok.2.2.2.2.2]
            show vb (t : Int).toNat ++ (vb d.toArray.size ++ d.toArray.toList) = _
            simp
          rw [this, List.take_append_drop]
      · rw [comb_err pre hne (Nat.le_refl _) (by rw [hT]) he] at h
        simp only [Prod.mk.injEq] at h
        omega
theorem dec_ok {l : List UInt8} {fs : List Fld} (h : decR l = (fs, 0)) : l.length ≤ 10000 ∧ encL fs = l ∧ rightB fs = true := by
  by_cases hl : 10000 < l.length
  · rw [decR_long hl] at h; simp at h
  · rw [decR_comb hl] at h
    obtain ⟨gs, h1, h2, h3, h4⟩ := dec_forth l.length l [] fs 0 0 (Nat.le_refl _) (by omega) h
    simp only [List.nil_append] at h1
    subst h1
    exact ⟨by omega, h2, right_chain.2 ⟨by omega, h3⟩⟩
theorem comb_no {pre : List Fld} {r : List Fld × Nat} (h : (comb pre r).2 ≠ 0) : (comb pre r).1 = [] := by
  unfold comb at *
  split
  · rename_i h1; rw [if_pos h1] at h; simp at h
  · rfl
theorem dec_no {l : List UInt8} (h : (decR l).2 ≠ 0) : (decR l).1 = [] := by
  by_cases hl : 10000 < l.length
  · rw [decR_long hl]
  · rw [decR_comb hl] at *
    exact comb_no h

/-- A field that is cut off. -/
theorem takeF_cut {f : Fld} {a : Nat} {j : Nat} (h1 : (a : Int) < f.1) (h2 : f.1 ≤ 1000000) (h3 : f.2.size ≤ 1000) (hj : j < (enc1 f).length) : (takeF ((enc1 f).take j) a).2.2.2 = 10 := by
  have hlen : (enc1 f).length = (vb f.1.toNat).length + ((vb f.2.size).length + f.2.size) := by
    unfold enc1; simp only [List.length_append, dlen]
  rcases Nat.lt_or_ge j (vb f.1.toNat).length with h | h
  · have e : (enc1 f).take j = (vb f.1.toNat).take j := by unfold enc1; rw [List.take_append_of_le_length (by omega)]
    rw [e]
    unfold takeF
    rw [takeR_cut (n := f.1.toNat) (by omega) h]
    simp
  · have e : (enc1 f).take j = vb f.1.toNat ++ (vb f.2.size ++ f.2.data.toList).take (j - (vb f.1.toNat).length) := by
      unfold enc1; rw [List.take_append, List.take_of_length_le h]
    have hm : mayB (f.1.toNat : Int) (a : Int) = true := mayB_yes (by omega) (by omega)
    rw [e]
    have e1 := takeR_vb (n := f.1.toNat) (by omega) ((vb f.2.size ++ f.2.data.toList).take (j - (vb f.1.toNat).length))
    unfold takeF
    rw [e1]
    simp only [ne_eq, not_true_eq_false, if_false, hm, Bool.true_eq_false, List.drop_left]
    rcases Nat.lt_or_ge (j - (vb f.1.toNat).length) (vb f.2.size).length with h4 | h4
    · rw [List.take_append_of_le_length (by omega), takeR_cut (n := f.2.size) (by omega) h4]
      simp
    · rw [List.take_append, List.take_of_length_le h4, takeR_vb (n := f.2.size) (by omega)]
      simp only [not_true_eq_false, if_false]
      rw [if_neg (by omega), if_pos (by simp only [List.length_append, List.length_take, dlen]; omega)]
theorem cut_find : ∀ (fs : List Fld) (k : Nat), k ≤ (encL fs).length → ∃ i j, i ≤ fs.length ∧ k = (encL (fs.take i)).length + j ∧ (j = 0 ∨ ∃ h : i < fs.length, j < (enc1 fs[i]).length) ∧ (encL fs).take k = encL (fs.take i) ++ (encL (fs.drop i)).take j := by
  intro fs
  induction fs with
  | nil => intro k h; simp [encL] at h; subst h; exact ⟨0, 0, by simp, by simp [encL], .inl rfl, by simp [encL]⟩
  | cons f fs ih =>
    intro k h
    rw [encL_cons] at h ⊢
    rw [List.length_append] at h
    rcases Nat.lt_or_ge k (enc1 f).length with hl | hl
    · refine ⟨0, k, by simp, by simp [encL], .inr ⟨by simp, hl⟩, ?_⟩
      simp [encL]
    · obtain ⟨q, rfl⟩ : ∃ q, k = (enc1 f).length + q := ⟨k - (enc1 f).length, by omega⟩
      obtain ⟨i, j, h1, h2, h3, h4⟩ := ih q (by omega)
      refine ⟨i + 1, j, by simpa using h1, ?_, ?_, ?_⟩
      · rw [List.take_succ_cons, encL_cons, List.length_append]; omega
      · rcases h3 with h3 | ⟨h3, h5⟩
        · exact .inl h3
        · exact .inr ⟨by simpa using h3, by simpa using h5⟩
      · rw [List.take_append, List.take_of_length_le hl, Nat.add_sub_cancel_left, h4, List.take_succ_cons, encL_cons, List.drop_succ_cons, List.append_assoc]
theorem dec_cut {fs : List Fld} (h : rightB fs = true) (hl : (encL fs).length ≤ 10000) {k : Nat} (hk : k ≤ (encL fs).length) :
    (∃ i, i ≤ fs.length ∧ (encL (fs.take i)).length = k ∧ decR ((encL fs).take k) = (fs.take i, 0)) ∨ ((∀ i, i ≤ fs.length → (encL (fs.take i)).length ≠ k) ∧ decR ((encL fs).take k) = ([], 10)) := by
  obtain ⟨h1, h2⟩ := right_chain.1 h
  obtain ⟨i, j, hi, hkj, hj, e⟩ := cut_find fs k hk
  have hs : fs = fs.take i ++ fs.drop i := (List.take_append_drop i fs).symm
  have hch : chain 0 (fs.take i ++ fs.drop i) := by rw [← hs]; exact h2
  obtain ⟨c1, c2⟩ := chain_app.1 hch
  have hlen : ((encL fs).take k).length ≤ 10000 := by rw [List.length_take]; omega
  have hti : (fs.take i).length = i := by rw [List.length_take]; omega
  rcases hj with rfl | ⟨hil, hj⟩
  · left
    refine ⟨i, hi, by omega, ?_⟩
    rw [List.take_zero, List.append_nil] at e
    rw [e]
    rw [e] at hlen
    exact dec_enc (right_chain.2 ⟨by omega, c1⟩) hlen
  · rcases Nat.eq_zero_or_pos j with rfl | hj0
    · left
      refine ⟨i, hi, by omega, ?_⟩
      rw [List.take_zero, List.append_nil] at e
      rw [e]
      rw [e] at hlen
      exact dec_enc (right_chain.2 ⟨by omega, c1⟩) hlen
    · right
      have hd : fs.drop i = fs[i] :: fs.drop (i + 1) := List.drop_eq_getElem_cons hil
      constructor
      · intro q hq heq
        -- the bytes of the first fields rise with their number
        have mono : ∀ a b, a ≤ b → (encL (fs.take a)).length ≤ (encL (fs.take b)).length := by
          intro a b hab
          have : fs.take b = fs.take a ++ (fs.take b).drop a := by
            conv => lhs; rw [← List.take_append_drop a (fs.take b)]
            rw [List.take_take, Nat.min_eq_left hab]
          rw [this, encL_append, List.length_append]; omega
        have hsucc : (encL (fs.take (i + 1))).length = (encL (fs.take i)).length + (enc1 fs[i]).length := by
          rw [List.take_succ_eq_append_getElem hil, encL_append, List.length_append]; simp [encL]
        rcases Nat.lt_or_ge i q with hlt | hge
        · have := mono (i + 1) q hlt; omega
        · have := mono q i hge; omega
      · have e2 : (encL (fs.drop i)).take j = (enc1 fs[i]).take j := by rw [hd, encL_cons, List.take_append_of_le_length (by omega)]
        rw [e2] at e
        rw [e] at hlen ⊢
        rw [hd] at c2
        obtain ⟨⟨a1, a2, a3⟩, _⟩ := c2
        have hlast := (chain_last c1).1
        have hq : ((lastT 0 (fs.take i)).toNat : Int) < fs[i].1 := by rw [Int.toNat_of_nonneg hlast]; exact a1
        rw [decR_comb (by omega), dec_prefix (fs.take i) [] 0 0 _ c1 (by omega)]
        refine comb_err _ (fun h => ?_) (Nat.le_refl _) (takeF_cut hq a2 a3 hj) (by decide)
        have := congrArg List.length h
        simp only [List.length_take, List.length_nil] at this
        omega
end Go.Proofs.Ytkhpkjnnkmoeoaa
