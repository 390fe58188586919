import Derived.Test.YtndkmepdnekigaaCtMovM
/-
  Plain mathematics of ControlBalances: how far loads are from even ones (stage 18).
-/
namespace Go.Proofs.Ytndkmepdnekigaa
set_option linter.unusedVariables false

def sumF (ns : List Int) (g : Int → Nat) : Nat := (ns.map g).sum
theorem sumF_cons (x : Int) (ns : List Int) (g : Int → Nat) : sumF (x :: ns) g = g x + sumF ns g := by simp [sumF]
theorem sumF_congr {ns : List Int} {g h : Int → Nat} (e : ∀ x ∈ ns, g x = h x) : sumF ns g = sumF ns h := by
  unfold sumF; rw [List.map_congr_left e]
theorem sumF_le {ns : List Int} {g h : Int → Nat} (e : ∀ x ∈ ns, g x ≤ h x) : sumF ns g ≤ sumF ns h := by
  induction ns with
  | nil => exact Nat.le_refl _
  | cons x ns ih =>
    rw [sumF_cons, sumF_cons]
    have := e x List.mem_cons_self
    have := ih fun y hy => e y (List.mem_cons_of_mem _ hy)
    omega
theorem sumF_add (ns : List Int) (g h : Int → Nat) : sumF ns (fun x => g x + h x) = sumF ns g + sumF ns h := by
  induction ns with
  | nil => rfl
  | cons x ns ih => rw [sumF_cons, sumF_cons, sumF_cons, ih]; omega
theorem sumF_zero {ns : List Int} {g : Int → Nat} (e : ∀ x ∈ ns, g x = 0) : sumF ns g = 0 := by
  have := sumF_le (ns := ns) (g := g) (h := fun _ => 0) (fun x hx => by rw [e x hx]; exact Nat.le_refl _)
  have h2 : sumF ns (fun _ => 0) = 0 := by
    induction ns with
    | nil => rfl
    | cons x ns ih => rw [sumF_cons, ih (fun y hy => e y (List.mem_cons_of_mem _ hy)) (sumF_le fun y hy => by rw [e y (List.mem_cons_of_mem _ hy)]; exact Nat.le_refl _)]
  omega
theorem sumF_const (ns : List Int) (k : Nat) : sumF ns (fun _ => k) = ns.length * k := by
  induction ns with
  | nil => simp [sumF]
  | cons x ns ih => rw [sumF_cons, ih, List.length_cons, Nat.succ_mul]; omega
/-- A sum of which one term is another. -/
theorem sumF_one {ns : List Int} (hn : ns.Nodup) {a : Int} (ha : a ∈ ns) {g h : Int → Nat} (e : ∀ x ∈ ns, x ≠ a → g x = h x) : sumF ns g + h a = sumF ns h + g a := by
  induction ns with
  | nil => cases ha
  | cons x ns ih =>
    obtain ⟨h1, h2⟩ := List.nodup_cons.1 hn
    rw [sumF_cons, sumF_cons]
    by_cases hx : x = a
    · subst hx
      have := sumF_congr (ns := ns) (g := g) (h := h) (fun y hy => e y (List.mem_cons_of_mem _ hy) (fun e2 => h1 (e2 ▸ hy)))
      omega
    · have ha2 : a ∈ ns := by
        rcases List.mem_cons.1 ha with rfl | h
        · exact absurd rfl hx
        · exact h
      have := ih h2 ha2 (fun y hy => e y (List.mem_cons_of_mem _ hy))
      have := e x List.mem_cons_self hx
      omega
/-- One move, from a to b: each of both sums falls by one, or is none. -/
theorem even_step {ns : List Int} (hn : ns.Nodup) {f f' : Int → Nat} {q a b : Nat} {x y : Int} (hx : x ∈ ns) (hy : y ∈ ns) (hxy : x ≠ y) (h1 : f' x + 1 = f x) (h2 : f' y = f y + 1) (h3 : ∀ z ∈ ns, z ≠ x → z ≠ y → f' z = f z)
    (hmax : ∀ z ∈ ns, f z ≤ f x) (hmin : ∀ z ∈ ns, f y ≤ f z) (hq : f y ≤ q) (hq2 : q + 1 ≤ f x) (hE : sumF ns (fun z => f z - (q + 1)) ≤ a + 1) (hD : sumF ns (fun z => q - f z) ≤ b + 1) :
    sumF ns (fun z => f' z - (q + 1)) ≤ a ∧ sumF ns (fun z => q - f' z) ≤ b := by
  have hE1 := sumF_one hn hx (g := fun z => f' z - (q + 1)) (h := fun z => f z - (q + 1)) (fun z hz hzx => by
    by_cases e : z = y
    · subst e; show f' z - (q + 1) = f z - (q + 1); omega
    · show f' z - (q + 1) = f z - (q + 1); rw [h3 z hz hzx e])
  have hD1 := sumF_one hn hy (g := fun z => q - f' z) (h := fun z => q - f z) (fun z hz hzy => by
    by_cases e : z = x
    · subst e; show q - f' z = q - f z; omega
    · show q - f' z = q - f z; rw [h3 z hz e hzy])
  constructor
  · by_cases hf : q + 2 ≤ f x
    · omega
    · have hz := sumF_zero (ns := ns) (g := fun z => f' z - (q + 1)) (fun z hz => by
        show f' z - (q + 1) = 0
        by_cases e : z = x
        · subst e; omega
        · by_cases e2 : z = y
          · subst e2; omega
          · have := h3 z hz e e2; have := hmax z hz; omega)
      omega
  · by_cases hf : f y < q
    · omega
    · have hz := sumF_zero (ns := ns) (g := fun z => q - f' z) (fun z hz => by
        show q - f' z = 0
        by_cases e : z = x
        · subst e; omega
        · by_cases e2 : z = y
          · subst e2; omega
          · have := h3 z hz e e2; have := hmin z hz; omega)
      omega
/-- The greatest is above the mean, the least is not, where they are two apart. -/
theorem mean_apart {ns : List Int} {f : Int → Nat} {P q : Nat} {x y : Int} (hx : x ∈ ns) (hy : y ∈ ns) (hn : ns.Nodup) (hmax : ∀ z ∈ ns, f z ≤ f x) (hmin : ∀ z ∈ ns, f y ≤ f z) (hxy : f y + 2 ≤ f x) (hs : sumF ns f = P) (h1 : ns.length * q ≤ P) (h2 : P < ns.length * (q + 1)) :
    f y ≤ q ∧ q + 1 ≤ f x := by
  constructor
  · refine Nat.le_of_not_lt fun h => ?_
    have := sumF_le (ns := ns) (g := fun _ => q + 1) (h := f) (fun z hz => by have := hmin z hz; omega)
    rw [sumF_const] at this
    omega
  · refine Nat.le_of_not_lt fun h => ?_
    have hne : x ≠ y := fun e => by subst e; omega
    -- all are at most q, and one is less: the sum is less
    have h3 := sumF_one hn hy (g := fun z => if z = y then q else f z) (h := f) (fun z _ hz => by rw [if_neg hz])
    have h4 := sumF_le (ns := ns) (g := fun z => if z = y then q else f z) (h := fun _ => q) (fun z hz => by
      split
      · exact Nat.le_refl _
      · have := hmax z hz; omega)
    rw [sumF_const] at h4
    simp only [if_pos] at h3
    omega
theorem sumF_le1 {ns : List Int} {z : Int} (hz : z ∈ ns) {g : Int → Nat} : g z ≤ sumF ns g := by
  induction ns with
  | nil => cases hz
  | cons x ns ih =>
    rw [sumF_cons]
    rcases List.mem_cons.1 hz with rfl | h
    · omega
    · have := ih h; omega
/-- Where the greatest is above, and the least below, by no more: two apart there are none. -/
theorem even_end {ns : List Int} {f : Int → Nat} {q : Nat} {x y : Int} (hx : x ∈ ns) (hy : y ∈ ns) (hE : sumF ns (fun z => f z - (q + 1)) = 0) (hD : sumF ns (fun z => q - f z) = 0) : f x ≤ f y + 1 := by
  have h1 : ∀ z ∈ ns, f z - (q + 1) = 0 := fun z hz => by
    have := sumF_le1 hz (g := fun z => f z - (q + 1))
    omega
  have h2 : ∀ z ∈ ns, q - f z = 0 := fun z hz => by
    have := sumF_le1 hz (g := fun z => q - f z)
    omega
  have := h1 x hx
  have := h2 y hy
  omega
/-- A controller none of whose places move. -/
def Still (c : CtR) : Prop := RightC c ∧ ∀ p ∈ c.pl, p.2.2 = 0
def namesC (c : CtR) : List Int := c.mem.map Prod.fst
theorem names_nodup {c : CtR} (h : RightC c) : (namesC c).Nodup := by
  unfold namesC
  rw [List.nodup_iff_pairwise_ne, List.pairwise_map]
  exact h.2.2.2.1.1.imp fun {a b} e e2 => by omega
theorem names_iff {c : CtR} {x : Int} : x ∈ namesC c ↔ isMem c.mem x := isMem_names.symm
theorem sum_ind {ns : List Int} (hn : ns.Nodup) {a : Int} (ha : a ∈ ns) : sumF ns (fun x => if a = x then 1 else 0) = 1 := by
  have h := sumF_one hn ha (g := fun x => if a = x then 1 else 0) (h := fun _ => 0) (fun x _ hx => by rw [if_neg (fun e => hx e.symm)])
  have h2 := sumF_zero (ns := ns) (g := fun _ => 0) (fun _ _ => rfl)
  simp only [if_pos] at h
  omega
theorem sum_load {ns : List Int} (hn : ns.Nodup) {l : List PlR} (h : ∀ p ∈ l, p.1 ∈ ns ∧ p.2.2 = 0) (hp : ∀ x ∈ ns, x ≠ 0) : sumF ns (loadC l) = l.length := by
  induction l with
  | nil => exact sumF_zero fun _ _ => rfl
  | cons p l ih =>
    have h1 := h p List.mem_cons_self
    have e : sumF ns (loadC (p :: l)) = sumF ns (loadC l) + sumF ns (fun x => if p.1 = x then 1 else 0) := by
      have e1 : ∀ x ∈ ns, loadC (p :: l) x = loadC l x + (if p.1 = x then 1 else 0) := fun x hx => by
        unfold loadC
        rw [List.countP_cons]
        have hb : (hasP x p = true) ↔ p.1 = x := by
          unfold hasP
          rw [h1.2]
          have := hp x hx
          simp; intro e; exact absurd e.symm this
        by_cases hx2 : p.1 = x
        · rw [if_pos hx2, if_pos (hb.2 hx2)]
        · rw [if_neg hx2, if_neg (fun e => hx2 (hb.1 e))]
      rw [sumF_congr e1, sumF_add]
    rw [e, ih (fun q hq => h q (List.mem_cons_of_mem _ hq)), sum_ind hn h1.1, List.length_cons]
theorem still_sum {c : CtR} (h : Still c) : sumF (namesC c) (loadC c.pl) = c.pl.length :=
  sum_load (names_nodup h.1) (fun p hp => ⟨names_iff.2 (h.1.2.2.2.2 p hp).1, h.2 p hp⟩) (fun x hx => by have := name_pos h.1 (names_iff.1 hx); omega)
/-- Where none moves, and the loads are two apart, Balance tells a place. -/
theorem still_bal {c : CtR} (h : Still c) {s t : Int} (hb : balC c = (s, t, false)) : loadC c.pl (mostC c) ≤ loadC c.pl (leastC c) + 1 := by
  rw [balC_eq h.1] at hb
  split at hb
  · omega
  · rename_i hlt
    split at hb
    · simp at hb
    · rename_i hi
      exfalso
      rw [List.findIdx?_eq_none_iff] at hi
      have h0 : loadC c.pl (mostC c) = 0 := by
        unfold loadC
        rw [List.countP_eq_zero]
        intro p hp e
        have h1 := hi p hp
        have h2 := h.2 p hp
        have h3 := name_pos h.1 (mostC_mem h.1)
        unfold hasP at e
        unfold freeP at h1
        rw [h2] at e h1
        simp at e h1
        rcases e with e | e
        · omega
        · exact h1 e
      omega
/-- The loads of two members are one apart at most, then. -/
theorem still_even {c : CtR} (h : Still c) {s t : Int} (hb : balC c = (s, t, false)) {x y : Int} (hx : isMem c.mem x) (hy : isMem c.mem y) : loadC c.pl x ≤ loadC c.pl y + 1 := by
  have h1 := still_bal h hb
  obtain ⟨m, hm, rfl⟩ := hx
  obtain ⟨k, hk, rfl⟩ := hy
  have := mostC_le h.1 m hm
  have := leastC_le h.1 k hk
  omega
def EvB (c : CtR) (q a : Nat) : Prop := sumF (namesC c) (fun z => loadC c.pl z - (q + 1)) ≤ a ∧ sumF (namesC c) (fun z => q - loadC c.pl z) ≤ a
/-- One move that Balance tells. -/
theorem still_step {c : CtR} (h : Still c) {b : Int} (hep : ∀ p ∈ c.pl, p.2.1 ≤ b) (hb40 : b ≤ 40) {s t : Int} (hb : balC c = (s, t, true)) {q a : Nat} (h1 : c.mem.length * q ≤ c.pl.length) (h2 : c.pl.length < c.mem.length * (q + 1)) (hE : EvB c q (a + 1)) :
    ∃ (i : Nat) (ow ep : Int), s = i ∧ i < c.pl.length ∧ atP9 c.pl i = (ow, ep, 0) ∧ isMem c.mem t ∧ planC c (i : Int) t = (setPl c (i : Int) (ow, ep, t), 0) ∧ RightC (setPl c (i : Int) (ow, ep, t)) ∧
      commitC (setPl c (i : Int) (ow, ep, t)) (i : Int) = (setPl c (i : Int) (t, ep + 1, 0), 0) ∧ Still (setPl c (i : Int) (t, ep + 1, 0)) ∧ (∀ p ∈ (setPl c (i : Int) (t, ep + 1, 0)).pl, p.2.1 ≤ b + 1) ∧ EvB (setPl c (i : Int) (t, ep + 1, 0)) q a := by
  obtain ⟨i, ep, rfl, hi, hp, rfl, hld⟩ := bal_yes h.1 hb
  have hm := leastC_mem h.1
  have hM := mostC_mem h.1
  have hne : mostC c ≠ leastC c := fun e => by rw [e] at hld; omega
  have he : ep ≤ b := by have := hep _ (atP9_mem hi); rw [hp] at this; exact this
  have hp1 := plan_at h.1 hi hp hm hne (by omega)
  have hr : RightC (setPl c (i : Int) (mostC c, ep, leastC c)) := by have := plan_right (s := (i : Int)) (t := leastC c) h.1; rw [hp1] at this; exact this
  have hc1 := commit_at h.1 hi hp hm (by omega) hr
  have hr2 : RightC (setPl c (i : Int) (leastC c, ep + 1, 0)) := by have := commit_right (s := (i : Int)) hr; rw [hc1] at this; exact this
  have hl := setPl_pl c i (leastC c, ep + 1, 0)
  refine ⟨i, mostC c, ep, rfl, hi, hp, hm, hp1, hr, hc1, ⟨hr2, fun p hp2 => ?_⟩, fun p hp2 => ?_, ?_⟩
  · rw [hl] at hp2
    rcases List.mem_or_eq_of_mem_set hp2 with hp2 | rfl
    · exact h.2 p hp2
    · rfl
  · rw [hl] at hp2
    rcases List.mem_or_eq_of_mem_set hp2 with hp2 | rfl
    · have := hep p hp2; omega
    · show ep + 1 ≤ b + 1; omega
  · have hnd := names_nodup h.1
    have hxn := names_iff.2 hM
    have hyn := names_iff.2 hm
    have hmax : ∀ z ∈ namesC c, loadC c.pl z ≤ loadC c.pl (mostC c) := fun z hz => by
      obtain ⟨m, hm, rfl⟩ := names_iff.1 hz
      exact mostC_le h.1 m hm
    have hmin : ∀ z ∈ namesC c, loadC c.pl (leastC c) ≤ loadC c.pl z := fun z hz => by
      obtain ⟨m, hm, rfl⟩ := names_iff.1 hz
      exact leastC_le h.1 m hm
    have hnl : (namesC c).length = c.mem.length := by unfold namesC; rw [List.length_map]
    have hmean := mean_apart hxn hyn hnd hmax hmin hld (still_sum h) (by rw [hnl]; exact h1) (by rw [hnl]; exact h2)
    have hpos := name_pos h.1 hm
    have hposM := name_pos h.1 hM
    have hset : ∀ z, z ≠ 0 → loadC (c.pl.set i (leastC c, ep + 1, 0)) z + (if mostC c = z then 1 else 0) = loadC c.pl z + (if leastC c = z then 1 else 0) := fun z hz => by
      have := load_set hi (leastC c, ep + 1, 0) z
      rw [hp] at this
      have e1 : (hasP z (mostC c, ep, 0) = true) ↔ mostC c = z := by unfold hasP; simp; intro e; exact absurd e.symm hz
      have e2 : (hasP z (leastC c, ep + 1, 0) = true) ↔ leastC c = z := by unfold hasP; simp; intro e; exact absurd e.symm hz
      simp only [e1, e2] at this
      exact this
    have hst := even_step (ns := namesC c) hnd (f := loadC c.pl) (f' := loadC (c.pl.set i (leastC c, ep + 1, 0))) (q := q) (a := a) (b := a) hxn hyn hne
      (by have := hset (mostC c) (by omega); rw [if_pos rfl, if_neg (fun e => hne e.symm)] at this; omega)
      (by have := hset (leastC c) (by omega); rw [if_neg hne, if_pos rfl] at this; omega)
      (fun z hz h3 h4 => by have h5 := name_pos h.1 (names_iff.1 hz); have := hset z (by omega); rw [if_neg (fun e => h3 e.symm), if_neg (fun e => h4 e.symm)] at this; omega)
      hmax hmin hmean.1 hmean.2 hE.1 hE.2
    show sumF (namesC c) (fun z => loadC (setPl c (i : Int) (leastC c, ep + 1, 0)).pl z - (q + 1)) ≤ a ∧ sumF (namesC c) (fun z => q - loadC (setPl c (i : Int) (leastC c, ep + 1, 0)).pl z) ≤ a
    rw [hl]
    exact hst
/-- Behind as many moves as there are places Balance tells none. -/
theorem still_none {c : CtR} (h : Still c) {q : Nat} (hE : EvB c q 0) {s t : Int} : balC c ≠ (s, t, true) := fun hb => by
  obtain ⟨i, ep, rfl, hi, hp, rfl, hld⟩ := bal_yes h.1 hb
  have := even_end (names_iff.2 (mostC_mem h.1)) (names_iff.2 (leastC_mem h.1)) (Nat.le_zero.1 hE.1) (Nat.le_zero.1 hE.2)
  omega
theorem still_begin {c : CtR} (h : Still c) : EvB c (c.pl.length / c.mem.length) c.pl.length ∧ c.mem.length * (c.pl.length / c.mem.length) ≤ c.pl.length ∧ c.pl.length < c.mem.length * (c.pl.length / c.mem.length + 1) := by
  have hm : 0 < c.mem.length := h.1.2.1.1
  have hnl : (namesC c).length = c.mem.length := by unfold namesC; rw [List.length_map]
  have h1 : c.mem.length * (c.pl.length / c.mem.length) ≤ c.pl.length := Nat.mul_div_le _ _
  have h2 : c.pl.length < c.mem.length * (c.pl.length / c.mem.length + 1) := by
    have := Nat.lt_mul_div_succ c.pl.length hm
    exact this
  refine ⟨⟨?_, ?_⟩, h1, h2⟩
  · have := sumF_le (ns := namesC c) (g := fun z => loadC c.pl z - (c.pl.length / c.mem.length + 1)) (h := loadC c.pl) (fun z _ => Nat.sub_le _ _)
    rw [still_sum h] at this
    exact this
  · have := sumF_le (ns := namesC c) (g := fun z => c.pl.length / c.mem.length - loadC c.pl z) (h := fun _ => c.pl.length / c.mem.length) (fun z _ => Nat.sub_le _ _)
    rw [sumF_const, hnl] at this
    omega
/-- All places of which none moves. -/
def zeroL (l : List PlR) (k : Nat) : List PlR := (l.take k).map (fun p => (p.1, p.2.1, (0 : Int))) ++ l.drop k
theorem zeroL_len (l : List PlR) (k : Nat) : (zeroL l k).length = l.length := by unfold zeroL; simp; omega
theorem zeroL_at {l : List PlR} {k : Nat} (h : k < l.length) : atP9 (zeroL l k) k = atP9 l k := by
  unfold zeroL atP9
  rw [List.getD_eq_getElem?_getD, List.getElem?_append_right (by simp; omega)]
  simp only [List.length_map, List.length_take]
  rw [show k - min k l.length = 0 by omega, List.getElem?_drop, Nat.add_zero, ← List.getD_eq_getElem?_getD]
theorem zeroL_succ {l : List PlR} {k : Nat} (h : k < l.length) : zeroL l (k + 1) = (zeroL l k).set k ((atP9 l k).1, (atP9 l k).2.1, 0) := by
  unfold zeroL
  have e : l[k] = atP9 l k := by unfold atP9; rw [List.getD_eq_getElem?_getD, List.getElem?_eq_getElem h]; rfl
  rw [List.take_succ_eq_append_getElem h, List.map_append, List.set_append_right _ _ (by simp; omega)]
  simp only [List.length_map, List.length_take]
  rw [show k - min k l.length = 0 by omega, List.drop_eq_getElem_cons h, List.set_cons_zero, e]
  simp
theorem zero_still {c : CtR} (h : RightC c) : Still ⟨c.level, c.mem, zeroL c.pl c.pl.length⟩ := by
  have hz : zeroL c.pl c.pl.length = c.pl.map (fun p => (p.1, p.2.1, (0 : Int))) := by unfold zeroL; rw [List.take_length, List.drop_length, List.append_nil]
  obtain ⟨h1, h2, h3, h4, h5⟩ := h
  refine ⟨⟨h1, h2, by show 1 ≤ (zeroL _ _).length ∧ _; rw [zeroL_len]; exact h3, h4, fun p hp => ?_⟩, fun p hp => ?_⟩
  · replace hp : p ∈ zeroL c.pl c.pl.length := hp
    rw [hz] at hp
    obtain ⟨q, hq, rfl⟩ := List.mem_map.1 hp
    have := h5 q hq
    exact ⟨this.1, this.2.1, this.2.2.1, .inl rfl⟩
  · replace hp : p ∈ zeroL c.pl c.pl.length := hp
    rw [hz] at hp
    obtain ⟨q, hq, rfl⟩ := List.mem_map.1 hp
    rfl
theorem zero_ep {c : CtR} {b : Int} (h : ∀ p ∈ c.pl, p.2.1 ≤ b) : ∀ p ∈ zeroL c.pl c.pl.length, p.2.1 ≤ b := fun p hp => by
  have hz : zeroL c.pl c.pl.length = c.pl.map (fun p => (p.1, p.2.1, (0 : Int))) := by unfold zeroL; rw [List.take_length, List.drop_length, List.append_nil]
  rw [hz] at hp
  obtain ⟨q, hq, rfl⟩ := List.mem_map.1 hp
  exact h q hq
theorem zero_wf {c : CtR} (h : CtW c) : CtW ⟨c.level, c.mem, zeroL c.pl c.pl.length⟩ := by
  have hz : zeroL c.pl c.pl.length = c.pl.map (fun p => (p.1, p.2.1, (0 : Int))) := by unfold zeroL; rw [List.take_length, List.drop_length, List.append_nil]
  refine ⟨h.1, h.2.1, fun p hp => ?_⟩
  replace hp : p ∈ zeroL c.pl c.pl.length := hp
  rw [hz] at hp
  obtain ⟨q, hq, rfl⟩ := List.mem_map.1 hp
  have := h.2.2 q hq
  exact ⟨this.1, this.2.1, wf_i (t := 0) (by decide) (by decide)⟩
theorem still_has {c : CtR} (h : Still c) {x : Int} (hx : isMem c.mem x) {p : PlR} (hp : p ∈ c.pl) : hasP x p = (p.1 == x) := by
  have h1 := name_pos h.1 hx
  have h2 := h.2 p hp
  unfold hasP
  rw [h2]
  have : ((0 : Int) == x) = false := by simp; omega
  rw [this]; simp
end Go.Proofs.Ytndkmepdnekigaa
