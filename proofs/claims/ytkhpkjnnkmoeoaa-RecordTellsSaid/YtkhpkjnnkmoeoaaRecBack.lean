/-
  Plain mathematics of records: there and back, by two versions; what one version does not know is carried.
-/
import Derived.Test.YtkhpkjnnkmoeoaaRecMath
namespace Go.Proofs.Ytkhpkjnnkmoeoaa

def ob (d : ByteArray) : Option ByteArray := if d.size = 0 then none else some d
theorem ob_some {d e : ByteArray} (h : ob d = some e) : d = e ∧ 1 ≤ e.size := by
  unfold ob at h
  split at h
  · cases h
  · cases h; exact ⟨rfl, by omega⟩
theorem ob_none {d : ByteArray} : ob d = none ↔ d.size = 0 := by unfold ob; split <;> simp_all
theorem empty_of {d : ByteArray} (h : d.size = 0) : d = ByteArray.empty := by
  obtain ⟨a⟩ := d
  have : a = #[] := Array.eq_empty_of_size_eq_zero h
  subst this; rfl
theorem gd_ob (d : ByteArray) : gd (ob d) = d := by
  unfold ob
  split
  · rename_i h; rw [gd_none, empty_of h]
  · rfl
theorem ob_gd {o : Option ByteArray} (h : ∀ d, o = some d → 1 ≤ d.size) : ob (gd o) = o := by
  cases o with
  | none => rfl
  | some d => have := h d rfl; unfold ob; rw [gd_some, if_neg (by omega)]
theorem full_cons (t : Int) (d : ByteArray) (l : List Fld) : full ((t, d) :: l) = opt t (ob d) ++ full l := by
  unfold full ob
  by_cases h : d.size = 0
  · rw [List.filter_cons_of_neg (by simpa using h), if_pos h]; rfl
  · rw [List.filter_cons_of_pos (by simpa using h), if_neg h]; rfl
theorem full_nil : full [] = [] := rfl
theorem fieldsR_parts (r : Rcd) : fieldsR r = parts (ob r.key) (ob r.value) (ob (numD r.rev)) (ob (numD r.life)) (ob r.note) r.extra := by
  unfold fieldsR five parts
  rw [full_cons, full_cons, full_cons, full_cons, full_cons, full_nil]
  simp only [List.append_assoc, List.nil_append]
theorem numD_size {n : Int} (h0 : 0 ≤ n) (h : n ≤ 9007199254740992) : (numD n).size ≤ 8 := by
  unfold numD
  split
  · decide
  · show (vb n.toNat).toArray.size ≤ 8
    have := vb_len8 (n := n.toNat) (by omega)
    simpa using this
theorem whole_numD {n : Int} (h0 : 0 ≤ n) (h : n ≤ 9007199254740992) : (wholeN (numD n).data.toList : Int) = n := by
  unfold numD
  split
  · rename_i hz; subst hz; rfl
  · show (wholeN (vb n.toNat).toArray.toList : Int) = n
    have h1 := takeR_vb (n := n.toNat) (by omega) []
    rw [List.append_nil] at h1
    unfold wholeN
    rw [List.toList_toArray, h1, if_pos ⟨rfl, rfl⟩]
    simp only; omega
theorem numD_zero {n : Int} : (numD n).size = 0 ↔ n = 0 := by
  unfold numD
  split
  · rename_i h; simp [h]
  · rename_i h
    have := vb_pos n.toNat
    constructor
    · intro h2
      have h3 : (vb n.toNat).toArray.size = 0 := h2
      rw [List.size_toArray] at h3; omega
    · intro h2; exact absurd h2 h
theorem numD_whole {d : ByteArray} (h : 0 < wholeN d.data.toList) : numD (wholeN d.data.toList) = d := by
  unfold numD
  rw [if_neg (by omega)]
  unfold wholeN at h ⊢
  split at h
  · rename_i hc
    rw [if_pos hc]
    have h1 := takeR_ok (l := d.data.toList) (n := (takeR d.data.toList).1) (k := (takeR d.data.toList).2.1) (by rw [← hc.1])
    rw [hc.2, List.take_length] at h1
    rw [Int.toNat_natCast, h1.2.2.2]
  · omega
theorem chain_up {v : Int} {E : List Fld} (h : rightB E = true) (hU : ∀ i, i < E.length → knowB v (tg E i) = false) : chain (topT v) E := by
  obtain ⟨_, hc⟩ := right_chain.1 h
  cases E with
  | nil => trivial
  | cons f E =>
    have := hU 0 (by simp)
    rw [tg_at (by simp)] at this
    have h2 := knowB_no.1 this
    simp only [List.getElem_cons_zero] at h2
    simp only [chain] at hc ⊢
    exact ⟨⟨by omega, hc.1.2⟩, hc.2⟩
theorem few_all {E : List Fld} (h : chain 5 E) : few E = E.length := by
  unfold few
  rw [List.filter_eq_self.2]
  intro f hf
  have := (chain_unknown (v := 2) (a := 5) (Int.le_refl _) h f hf).2
  simp; omega
theorem opt_len (t : Int) (o : Option ByteArray) : (opt t o).length ≤ 1 := by cases o <;> simp [opt]
theorem few_len {v : Int} {E : List Fld} (h : chain (topT v) E) : E.length ≤ few E + 2 := by
  have h3 : chain 3 E := chain_mono h (topT_le v).1
  obtain ⟨o4, l4, rfl, h4⟩ := peel h3
  obtain ⟨o5, l5, rfl, h5⟩ := peel h4
  have := few_all h5
  have := opt_len (3 + 1) o4
  have := opt_len (3 + 1 + 1) o5
  rw [few_append, few_append]
  simp only [List.length_append]; omega
theorem chain_opt {t a : Int} {o : Option ByteArray} {l : List Fld} (h1 : a < t) (h2 : t ≤ 1000000) (h3 : ∀ d, o = some d → d.size ≤ 1000) (h : chain t l) : chain a (opt t o ++ l) := by
  cases o with
  | none => exact chain_mono h (by omega)
  | some d => simp only [opt, List.singleton_append, chain]; exact ⟨⟨h1, h2, h3 d rfl⟩, h⟩
theorem right_fields {v : Int} {r : Rcd} (h : RightP v r) : rightB (fieldsR r) = true ∧ (fieldsR r).length ≤ 15 := by
  obtain ⟨hv, hk, hval, hrev, hl, he⟩ := h
  obtain ⟨e1, e2, e3⟩ := extraB_iff.1 he
  have hc := chain_up e1 e3
  have h1 : v = 1 → ob (numD r.life) = none ∧ ob r.note = none := fun hv1 => by
    subst hv1
    obtain ⟨a, b⟩ := laterB_one.1 hl
    exact ⟨ob_none.2 (numD_zero.2 a), ob_none.2 b⟩
  have hlen := few_len hc
  have l1 := opt_len 1 (ob r.key)
  have l2 := opt_len 2 (ob r.value)
  have l3 := opt_len 3 (ob (numD r.rev))
  have l4 := opt_len 4 (ob (numD r.life))
  have l5 := opt_len 5 (ob r.note)
  rw [fieldsR_parts]
  have hL : (parts (ob r.key) (ob r.value) (ob (numD r.rev)) (ob (numD r.life)) (ob r.note) r.extra).length ≤ 15 := by
    unfold parts; simp only [List.length_append]; omega
  refine ⟨right_chain.2 ⟨by omega, ?_⟩, hL⟩
  unfold parts
  have hn3 := numD_size hrev.1 hrev.2
  refine chain_opt (by omega) (by omega) (fun d hd => by have := (ob_some hd).1; subst this; omega) ?_
  refine chain_opt (by omega) (by omega) (fun d hd => by have := (ob_some hd).1; subst this; omega) ?_
  refine chain_opt (by omega) (by omega) (fun d hd => by have := (ob_some hd).1; subst this; omega) ?_
  rcases hv with rfl | rfl
  · obtain ⟨a, b⟩ := h1 rfl
    rw [a, b]
    exact hc
  · obtain ⟨a, b, c⟩ := laterB_two.1 hl
    have hn4 := numD_size a b
    refine chain_opt (by omega) (by omega) (fun d hd => by have := (ob_some hd).1; subst this; omega) ?_
    exact chain_opt (by omega) (by omega) (fun d hd => by have := (ob_some hd).1; subst this; omega) hc
theorem extra_unknown {v : Int} {r : Rcd} (h : RightP v r) : ∀ f ∈ r.extra, knowB v f.1 = false :=
  (all_mem (P := fun t _ => knowB v t = false)).1 (extraB_iff.1 h.2.2.2.2.2).2.2
theorem later_none {v : Int} {r : Rcd} (h : RightP v r) : v = 1 → ob (numD r.life) = none ∧ ob r.note = none := by
  rintro rfl
  obtain ⟨a, b⟩ := laterB_one.1 h.2.2.2.2.1
  exact ⟨ob_none.2 (numD_zero.2 a), ob_none.2 b⟩
theorem life_bd {v : Int} {r : Rcd} (h : RightP v r) : 0 ≤ r.life ∧ r.life ≤ 9007199254740992 ∧ r.note.size ≤ 40 := by
  rcases h.1 with rfl | rfl
  · obtain ⟨a, b⟩ := laterB_one.1 h.2.2.2.2.1; omega
  · exact laterB_two.1 h.2.2.2.2.1
/-- (B.) A record's fields are taken for that record. -/
theorem acc_fields {v : Int} {r : Rcd} (h : RightP v r) : accR v (fieldsR r) = r ∧ recP v (fieldsR r) = true ∧ (findR (fieldsR r) 1).2 = true := by
  have hl := life_bd h
  have h3 := h.2.2.2.1
  have hacc : accR v (fieldsR r) = r := by
    rw [fieldsR_parts, acc_parts h.1 (later_none h) (extra_unknown h), gd_ob, gd_ob, gd_ob, gd_ob, gd_ob, whole_numD h3.1 h3.2, whole_numD hl.1 hl.2.1]
  refine ⟨hacc, ?_, ?_⟩
  · rw [recP_iff, hacc]
    refine ⟨?_, (extraB_iff.1 h.2.2.2.2.2).2.1⟩
    rw [fieldsR_parts, all_parts h.1 (later_none h) (extra_unknown h) okD]
    refine ⟨fun d hd => (okD_1 d).2 ?_, fun d hd => (okD_2 d).2 ?_, fun d hd => (okD_3 d).2 ?_, fun d hd => (okD_4 d).2 ?_, fun d hd => (okD_5 d).2 ?_⟩
    · obtain ⟨rfl, h2⟩ := ob_some hd; exact h.2.1
    · obtain ⟨rfl, h2⟩ := ob_some hd; exact ⟨h2, h.2.2.1⟩
    · obtain ⟨rfl, h2⟩ := ob_some hd
      have := whole_numD h3.1 h3.2
      have : r.rev ≠ 0 := fun hz => by have := numD_zero.2 hz; omega
      omega
    · obtain ⟨rfl, h2⟩ := ob_some hd
      have := whole_numD hl.1 hl.2.1
      have : r.life ≠ 0 := fun hz => by have := numD_zero.2 hz; omega
      omega
    · obtain ⟨rfl, h2⟩ := ob_some hd; exact ⟨h2, hl.2.2⟩
  · rw [fieldsR_parts, find_parts1]
    · intro hz; have := ob_none.1 hz; have := h.2.1; omega
    · intro f hf
      have hc := chain_up (extraB_iff.1 h.2.2.2.2.2).1 (extraB_iff.1 h.2.2.2.2.2).2.2
      have := (chain_unknown (Int.le_refl _) hc f hf).2
      have := topT_le v
      omega
/-- (B.) Decode undoes Encode. -/
theorem rec_back {v : Int} {r : Rcd} (h : rightR v r = true) (hl : (encL (fieldsR r)).length ≤ 10000) : recE v r = (encL (fieldsR r), 0) ∧ recD v (encL (fieldsR r)) = (r, 0) := by
  have hp := rightR_iff.1 h
  obtain ⟨a1, a2, a3⟩ := acc_fields hp
  have hR := (right_fields hp).1
  refine ⟨?_, ?_⟩
  · unfold recE encR; rw [h, if_pos rfl, hR, if_pos rfl, if_pos hl]
  · unfold recD
    rw [dec_enc hR hl, if_neg (fun hn => hn hp.1), if_neg (by simp)]
    simp only
    rw [a3, a2, a1, if_neg (by simp), if_neg (by simp)]
/-- (C.) Encode undoes Decode. -/
theorem fields_acc {v : Int} (hv : v = 1 ∨ v = 2) {l : List Fld} (h : rightB l = true) (hk : (findR l 1).2 = true) (hp : recP v l = true) : rightR v (accR v l) = true ∧ fieldsR (accR v l) = l := by
  refine ⟨(recQ_iff.1 (recP_recQ hv h hk ▸ hp)).2, ?_⟩
  obtain ⟨h1, _⟩ := recP_iff.1 hp
  obtain ⟨o1, o2, o3, o4, o5, E, rfl, h4, hE, h64⟩ := decomp hv h
  have hU : ∀ f ∈ E, knowB v f.1 = false := fun f hf => (chain_unknown (Int.le_refl _) hE f hf).1
  rw [all_parts hv h4 hU okD] at h1
  obtain ⟨a1, a2, a3, a4, a5⟩ := h1
  have hn : ∀ (o : Option ByteArray), (∀ d, o = some d → 0 < wholeN d.data.toList) → ob (numD (wholeN (gd o).data.toList)) = o := by
    intro o ho
    cases o with
    | none => rfl
    | some d =>
      have hd := ho d rfl
      rw [gd_some, numD_whole hd]
      unfold ob
      rw [if_neg]
      intro hz
      rw [empty_of hz] at hd
      exact absurd hd (by decide)
  rw [acc_parts hv h4 hU, fieldsR_parts]
  simp only
  rw [ob_gd (fun d hd => ((okD_1 d).1 (a1 d hd)).1), ob_gd (fun d hd => ((okD_2 d).1 (a2 d hd)).1), ob_gd (fun d hd => ((okD_5 d).1 (a5 d hd)).1), hn _ (fun d hd => (okD_3 d).1 (a3 d hd)), hn _ (fun d hd => (okD_4 d).1 (a4 d hd))]
theorem recD_no {v : Int} {s : List UInt8} (h : (recD v s).2 ≠ 0) : (recD v s).1 = zeroR := by
  unfold recD at h ⊢
  split
  · rfl
  · rename_i h1
    rw [if_neg h1] at h
    split
    · rfl
    · rename_i h2
      rw [if_neg h2] at h
      split
      · rfl
      · rename_i h3
        rw [if_neg h3] at h
        split
        · rfl
        · rename_i h4
          rw [if_neg h4] at h
          exact absurd rfl h
theorem rec_forth {v : Int} {s : List UInt8} {r : Rcd} (h : recD v s = (r, 0)) : rightR v r = true ∧ recE v r = (s, 0) ∧ fieldsR r = (decR s).1 := by
  unfold recD at h
  split at h
  · simp at h
  rename_i hv
  split at h
  · rename_i h2; simp only [Prod.mk.injEq] at h; exact absurd h.2 h2
  rename_i he
  split at h
  · simp at h
  rename_i hf
  split at h
  · simp at h
  rename_i hp
  simp only [Prod.mk.injEq, and_true] at h
  subst h
  have hv' : v = 1 ∨ v = 2 := by by_cases hh : v = 1 ∨ v = 2; exact hh; exact absurd hh hv
  have hd : decR s = ((decR s).1, 0) := by
    have : (decR s).2 = 0 := by omega
    rw [← this]
  obtain ⟨d1, d2, d3⟩ := dec_ok hd
  have hf' : (findR (decR s).1 1).2 = true := by simpa using hf
  have hp' : recP v (decR s).1 = true := by simpa using hp
  obtain ⟨r1, r2⟩ := fields_acc hv' d3 hf' hp'
  refine ⟨r1, ?_, r2⟩
  unfold recE encR
  rw [r1, if_pos rfl, r2, d3, if_pos rfl, d2, if_pos d1]

/-- (E.) What version 1 makes of a record of version 2: what it does not know is carried. -/
theorem acc_older {r : Rcd} (h : RightP 2 r) : accR 1 (fieldsR r) = ⟨r.key, r.value, r.rev, 0, ByteArray.empty, opt 4 (ob (numD r.life)) ++ (opt 5 (ob r.note) ++ r.extra)⟩ ∧ recP 1 (fieldsR r) = true ∧ (findR (fieldsR r) 1).2 = true := by
  have h3 := h.2.2.2.1
  have hc := chain_up (extraB_iff.1 h.2.2.2.2.2).1 (extraB_iff.1 h.2.2.2.2.2).2.2
  have hg : ∀ f ∈ r.extra, 5 < f.1 := fun f hf => (chain_unknown (Int.le_refl _) hc f hf).2
  have hU : ∀ f ∈ opt 4 (ob (numD r.life)) ++ (opt 5 (ob r.note) ++ r.extra), knowB 1 f.1 = false := by
    intro f hf
    simp only [List.mem_append, mem_opt] at hf
    apply knowB_no.2
    have : topT 1 = 3 := rfl
    rcases hf with ⟨_, h2⟩ | ⟨_, h2⟩ | h2
    · omega
    · omega
    · have := hg f h2; omega
  have he : fieldsR r = parts (ob r.key) (ob r.value) (ob (numD r.rev)) none none (opt 4 (ob (numD r.life)) ++ (opt 5 (ob r.note) ++ r.extra)) := by rw [fieldsR_parts]; rfl
  have hacc : accR 1 (fieldsR r) = ⟨r.key, r.value, r.rev, 0, ByteArray.empty, opt 4 (ob (numD r.life)) ++ (opt 5 (ob r.note) ++ r.extra)⟩ := by
    rw [he, acc_parts (.inl rfl) (fun _ => ⟨rfl, rfl⟩) hU, gd_ob, gd_ob, gd_ob, whole_numD h3.1 h3.2]
    rfl
  refine ⟨hacc, ?_, (acc_fields h).2.2⟩
  rw [recP_iff, hacc]
  refine ⟨?_, ?_⟩
  · rw [he, all_parts (.inl rfl) (fun _ => ⟨rfl, rfl⟩) hU okD]
    refine ⟨fun d hd => (okD_1 d).2 ?_, fun d hd => (okD_2 d).2 ?_, fun d hd => (okD_3 d).2 ?_, (fun d hd => by cases hd), (fun d hd => by cases hd)⟩
    · obtain ⟨rfl, h2⟩ := ob_some hd; exact h.2.1
    · obtain ⟨rfl, h2⟩ := ob_some hd; exact ⟨h2, h.2.2.1⟩
    · obtain ⟨rfl, h2⟩ := ob_some hd
      have := whole_numD h3.1 h3.2
      have : r.rev ≠ 0 := fun hz => by have := numD_zero.2 hz; omega
      omega
  · rw [few_append, few_append]
    have f4 : ∀ o, few (opt 4 o) = 0 := by intro o; cases o <;> simp [opt, few]
    have f5 : ∀ o, few (opt 5 o) = 0 := by intro o; cases o <;> simp [opt, few]
    rw [f4, f5]
    have := (extraB_iff.1 h.2.2.2.2.2).2.1
    omega
end Go.Proofs.Ytkhpkjnnkmoeoaa
