import Derived.Test.YtndkmepdnekigaaCtMath
/-
  Plain mathematics of controllers: what comes out is right (stage 18).
-/
namespace Go.Proofs.Ytndkmepdnekigaa
set_option linter.unusedVariables false

theorem isMem_names {l : List MbR} {x : Int} : isMem l x ↔ x ∈ l.map Prod.fst := by
  unfold isMem; simp only [List.mem_map]
theorem isMem_of {l k : List MbR} (h : l.map Prod.fst = k.map Prod.fst) {x : Int} : isMem l x ↔ isMem k x := by rw [isMem_names, isMem_names, h]
theorem plOk_of {l k : List MbR} (h : ∀ x, isMem l x → isMem k x) {p : PlR} (hp : PlOk l p) : PlOk k p :=
  ⟨h _ hp.1, hp.2.1, hp.2.2.1, hp.2.2.2.imp id (fun h2 => ⟨h _ h2.1, h2.2⟩)⟩
theorem ins_mem {l : List MbR} {x y : MbR} : y ∈ insM l x ↔ y = x ∨ y ∈ l := by
  induction l with
  | nil => simp [insM]
  | cons m l ih =>
    unfold insM
    split
    · simp
    · simp only [List.mem_cons, ih]
      constructor
      · rintro (h | h | h)
        · exact .inr (.inl h)
        · exact .inl h
        · exact .inr (.inr h)
      · rintro (h | h | h)
        · exact .inr (.inl h)
        · exact .inl h
        · exact .inr (.inr h)
theorem ins_len {l : List MbR} {x : MbR} : (insM l x).length = l.length + 1 := by
  induction l with
  | nil => rfl
  | cons m l ih => unfold insM; split <;> simp [ih]
theorem ins_rise {l : List MbR} {x : MbR} (h : l.Pairwise (fun a b => a.1 < b.1)) (hn : ¬ isMem l x.1) : (insM l x).Pairwise (fun a b => a.1 < b.1) := by
  induction l with
  | nil => simp [insM]
  | cons m l ih =>
    obtain ⟨h1, h2⟩ := List.pairwise_cons.1 h
    have hm : m.1 ≠ x.1 := fun e => hn ⟨m, List.mem_cons_self, e⟩
    unfold insM
    split
    · rename_i hlt
      refine List.pairwise_cons.2 ⟨fun y hy => ?_, h⟩
      rcases List.mem_cons.1 hy with rfl | hy
      · exact hlt
      · have := h1 y hy; omega
    · refine List.pairwise_cons.2 ⟨fun y hy => ?_, ih h2 (fun ⟨z, hz, e⟩ => hn ⟨z, List.mem_cons_of_mem _ hz, e⟩)⟩
      rcases ins_mem.1 hy with rfl | hy
      · omega
      · exact h1 y hy
theorem join_ok {c : CtR} {x b : Int} (h : (joinC c x b).2 = 0) : RightC c ∧ 1 ≤ x ∧ x ≤ 100 ∧ (b = 1 ∨ b = 2) ∧ ¬ isMem c.mem x ∧ binB c.level b = true ∧ c.mem.length < 8 ∧ joinC c x b = (⟨c.level, insM c.mem (x, b), c.pl⟩, 0) := by
  unfold joinC at h ⊢
  split at h
  · simp at h
  · rename_i h1
    split at h
    · simp at h
    · rename_i h2
      split at h
      · simp at h
      · rename_i h3
        rw [if_neg h1, if_neg h2, if_neg h3]
        have h4 : RightC c := Classical.byContradiction fun e => h1 (.inl e)
        have h5 : ¬ isMem c.mem x := fun e => h1 (.inr (.inr (.inr (.inr e))))
        refine ⟨h4, ?_, ?_, ?_, h5, ?_, by omega, rfl⟩
        · exact Int.not_lt.1 fun e => h1 (.inr (.inl e))
        · exact Int.not_lt.1 fun e => h1 (.inr (.inr (.inl e)))
        · have : ¬ (b ≠ 1 ∧ b ≠ 2) := fun e => h1 (.inr (.inr (.inr (.inl e))))
          omega
        · simpa using h2
theorem join_no {c : CtR} {x b : Int} (h : (joinC c x b).2 ≠ 0) : (joinC c x b).1 = c := by
  unfold joinC at h ⊢
  repeat' split
  all_goals first | rfl | (exfalso; simp_all; done)
theorem join_right {c : CtR} {x b : Int} (hr : RightC c) : RightC (joinC c x b).1 := by
  by_cases h : (joinC c x b).2 = 0
  · obtain ⟨_, h1, h2, h3, h4, h5, h6, he⟩ := join_ok h
    rw [he]
    obtain ⟨r1, r2, r3, r4, r5⟩ := hr
    refine ⟨r1, by rw [ins_len]; omega, r3, ⟨ins_rise r4.1 h4, fun m hm => ?_⟩, fun p hp => plOk_of (fun y ⟨m, hm, e⟩ => ⟨m, ins_mem.2 (.inr hm), e⟩) (r5 p hp)⟩
    rcases ins_mem.1 hm with rfl | hm
    · exact ⟨h1, h2, h5⟩
    · exact r4.2 m hm
  · rw [join_no h]; exact hr
theorem set_names {l : List MbR} {k : Nat} {x b : Int} (h : (l.getD k (0, 0)).1 = x) (hk : k < l.length) : (l.set k (x, b)).map Prod.fst = l.map Prod.fst := by
  rw [List.map_set]
  refine List.ext_getElem (by simp) fun i h1 h2 => ?_
  rw [List.getElem_set]
  split
  · rename_i e
    subst e
    rw [List.getD_eq_getElem?_getD, List.getElem?_eq_getElem hk] at h
    simp only [Option.getD_some] at h
    simp [h]
  · rfl
theorem report_ok {c : CtR} {x b : Int} (h : (reportC c x b).2 = 0) : RightC c ∧ isMem c.mem x ∧ (b = 1 ∨ b = 2) ∧ binB c.level b = true ∧ reportC c x b = (⟨c.level, c.mem.set (memI c.mem x).toNat (x, b), c.pl⟩, 0) := by
  unfold reportC at h ⊢
  split at h
  · simp at h
  · rename_i h1
    split at h
    · simp at h
    · rename_i h2
      split at h
      · simp at h
      · rename_i h3
        rw [if_neg h1, if_neg h2, if_neg h3]
        refine ⟨Classical.byContradiction fun e => h1 (.inl e), Classical.byContradiction h2, ?_, by simpa using h3, rfl⟩
        have : ¬ (b ≠ 1 ∧ b ≠ 2) := fun e => h1 (.inr e)
        omega
theorem report_no {c : CtR} {x b : Int} (h : (reportC c x b).2 ≠ 0) : (reportC c x b).1 = c := by
  unfold reportC at h ⊢
  repeat' split
  all_goals first | rfl | (exfalso; simp_all; done)
theorem report_right {c : CtR} {x b : Int} (hr : RightC c) : RightC (reportC c x b).1 := by
  by_cases h : (reportC c x b).2 = 0
  · obtain ⟨_, h1, h2, h3, he⟩ := report_ok h
    obtain ⟨k, hk, hkl, hx, _⟩ := memI_yes h1
    rw [he, hk, Int.toNat_natCast]
    obtain ⟨r1, r2, r3, r4, r5⟩ := hr
    have hn := set_names (b := b) hx hkl
    have hxk : 1 ≤ x ∧ x ≤ 100 := by
      obtain ⟨m, hm, e⟩ := h1
      have := r4.2 m hm
      omega
    refine ⟨r1, by rw [List.length_set]; exact r2, r3, ⟨?_, fun m hm => ?_⟩, fun p hp => plOk_of (fun y => (isMem_of hn).2) (r5 p hp)⟩
    · have := r4.1
      rw [← List.pairwise_map (f := Prod.fst) (R := (· < ·))] at this ⊢
      show List.Pairwise _ (List.map Prod.fst (c.mem.set k (x, b)))
      rw [hn]; exact this
    · rcases List.mem_or_eq_of_mem_set hm with hm | rfl
      · exact r4.2 m hm
      · exact ⟨hxk.1, hxk.2, h3⟩
  · rw [report_no h]; exact hr
theorem final_ok {c : CtR} (h : (finalC c).2 = 0) : RightC c ∧ (∀ m ∈ c.mem, m.2 = 2) ∧ finalC c = (⟨2, c.mem, c.pl⟩, 0) := by
  unfold finalC at h ⊢
  split at h
  · simp at h
  · rename_i h1
    split at h
    · simp at h
    · rename_i h2
      rw [if_neg h1, if_neg h2]
      exact ⟨Classical.byContradiction h1, fun m hm => Classical.byContradiction fun e => h2 ⟨m, hm, e⟩, rfl⟩
theorem final_no {c : CtR} (h : (finalC c).2 ≠ 0) : (finalC c).1 = c := by
  unfold finalC at h ⊢
  repeat' split
  all_goals first | rfl | (exfalso; simp_all; done)
theorem final_right {c : CtR} (hr : RightC c) : RightC (finalC c).1 := by
  by_cases h : (finalC c).2 = 0
  · obtain ⟨_, h1, he⟩ := final_ok h
    rw [he]
    obtain ⟨r1, r2, r3, r4, r5⟩ := hr
    exact ⟨.inr rfl, r2, r3, ⟨r4.1, fun m hm => ⟨(r4.2 m hm).1, (r4.2 m hm).2.1, binB_iff.2 (.inl (h1 m hm))⟩⟩, r5⟩
  · rw [final_no h]; exact hr
theorem atP9_mem {l : List PlR} {i : Nat} (h : i < l.length) : atP9 l i ∈ l := by
  unfold atP9; rw [List.getD_eq_getElem?_getD, List.getElem?_eq_getElem h]; exact List.getElem_mem _
theorem place_ok {c : CtR} {s : Int} (h : placeE c s = 0) : RightC c ∧ 0 ≤ s ∧ s.toNat < c.pl.length := by
  unfold placeE at h
  split at h
  · simp at h
  · rename_i h1
    split at h
    · simp at h
    · exact ⟨Classical.byContradiction h1, by omega, by omega⟩
theorem setPl_right {c : CtR} {s : Int} {p : PlR} (hr : RightC c) (hp : PlOk c.mem p) : RightC (setPl c s p) := by
  obtain ⟨r1, r2, r3, r4, r5⟩ := hr
  refine ⟨r1, r2, by show 1 ≤ (c.pl.set s.toNat p).length ∧ (c.pl.set s.toNat p).length ≤ 8; rw [List.length_set]; exact r3, r4, fun q hq => ?_⟩
  rcases List.mem_or_eq_of_mem_set hq with hq | rfl
  · exact r5 q hq
  · exact hp
theorem plan_ok {c : CtR} {s t : Int} (h : (planC c s t).2 = 0) : placeE c s = 0 ∧ isMem c.mem t ∧ (atP9 c.pl s.toNat).2.2 = 0 ∧ (atP9 c.pl s.toNat).1 ≠ t ∧ (atP9 c.pl s.toNat).2.1 ≠ 9007199254740992 ∧ planC c s t = (setPl c s ((atP9 c.pl s.toNat).1, (atP9 c.pl s.toNat).2.1, t), 0) := by
  unfold planC at h ⊢
  split at h
  · rename_i h1; exact absurd h h1
  · rename_i h1
    split at h
    · simp at h
    · rename_i h2
      split at h
      · simp at h
      · rename_i h3
        split at h
        · simp at h
        · rename_i h4
          split at h
          · simp at h
          · rename_i h5
            rw [if_neg h1, if_neg h2, if_neg h3, if_neg h4, if_neg h5]
            exact ⟨Classical.byContradiction h1, Classical.byContradiction h2, Classical.byContradiction h3, h4, h5, rfl⟩
theorem plan_no {c : CtR} {s t : Int} (h : (planC c s t).2 ≠ 0) : (planC c s t).1 = c := by
  unfold planC at h ⊢
  repeat' split
  all_goals first | rfl | (exfalso; simp_all; done)
theorem plan_right {c : CtR} {s t : Int} (hr : RightC c) : RightC (planC c s t).1 := by
  by_cases h : (planC c s t).2 = 0
  · obtain ⟨h0, h1, h2, h3, h4, he⟩ := plan_ok h
    rw [he]
    have hp := hr.2.2.2.2 _ (atP9_mem (place_ok h0).2.2)
    exact setPl_right hr ⟨hp.1, hp.2.1, hp.2.2.1, .inr ⟨h1, fun e => h3 e.symm⟩⟩
  · rw [plan_no h]; exact hr
theorem commit_ok {c : CtR} {s : Int} (h : (commitC c s).2 = 0) : placeE c s = 0 ∧ (atP9 c.pl s.toNat).2.2 ≠ 0 ∧ (atP9 c.pl s.toNat).2.1 ≠ 9007199254740992 ∧ commitC c s = (setPl c s ((atP9 c.pl s.toNat).2.2, (atP9 c.pl s.toNat).2.1 + 1, 0), 0) := by
  unfold commitC at h ⊢
  split at h
  · rename_i h1; exact absurd h h1
  · rename_i h1
    split at h
    · simp at h
    · rename_i h2
      split at h
      · simp at h
      · rename_i h3
        rw [if_neg h1, if_neg h2, if_neg h3]
        exact ⟨Classical.byContradiction h1, h2, h3, rfl⟩
theorem commit_no {c : CtR} {s : Int} (h : (commitC c s).2 ≠ 0) : (commitC c s).1 = c := by
  unfold commitC at h ⊢
  repeat' split
  all_goals first | rfl | (exfalso; simp_all; done)
theorem commit_right {c : CtR} {s : Int} (hr : RightC c) : RightC (commitC c s).1 := by
  by_cases h : (commitC c s).2 = 0
  · obtain ⟨h0, h1, h2, he⟩ := commit_ok h
    rw [he]
    have hp := hr.2.2.2.2 _ (atP9_mem (place_ok h0).2.2)
    have h5 := hp.2.2.1
    have h6 := hp.2.1
    refine setPl_right hr ⟨(hp.2.2.2.resolve_left h1).1, ?_, ?_, .inl rfl⟩
    · show 1 ≤ (atP9 c.pl s.toNat).2.1 + 1; omega
    · show (atP9 c.pl s.toNat).2.1 + 1 ≤ 9007199254740992; omega
  · rw [commit_no h]; exact hr
theorem cancel_ok {c : CtR} {s : Int} (h : (cancelC c s).2 = 0) : placeE c s = 0 ∧ (atP9 c.pl s.toNat).2.2 ≠ 0 ∧ cancelC c s = (setPl c s ((atP9 c.pl s.toNat).1, (atP9 c.pl s.toNat).2.1, 0), 0) := by
  unfold cancelC at h ⊢
  split at h
  · rename_i h1; exact absurd h h1
  · rename_i h1
    split at h
    · simp at h
    · rename_i h2
      rw [if_neg h1, if_neg h2]
      exact ⟨Classical.byContradiction h1, h2, rfl⟩
theorem cancel_no {c : CtR} {s : Int} (h : (cancelC c s).2 ≠ 0) : (cancelC c s).1 = c := by
  unfold cancelC at h ⊢
  repeat' split
  all_goals first | rfl | (exfalso; simp_all; done)
theorem cancel_right {c : CtR} {s : Int} (hr : RightC c) : RightC (cancelC c s).1 := by
  by_cases h : (cancelC c s).2 = 0
  · obtain ⟨h0, h1, he⟩ := cancel_ok h
    rw [he]
    have hp := hr.2.2.2.2 _ (atP9_mem (place_ok h0).2.2)
    exact setPl_right hr ⟨hp.1, hp.2.1, hp.2.2.1, .inl rfl⟩
  · rw [cancel_no h]; exact hr
theorem new_right {n h b : Int} (hn : 1 ≤ n) (hn8 : n ≤ 8) (h1 : 1 ≤ h) (h2 : h ≤ 100) (hb : b = 1 ∨ b = 2) : newC n h b = newRaw n h b ∧ RightC (newRaw n h b) := by
  have hl : (newRaw n h b).pl.length = n.toNat := by show (List.replicate (min n.toNat 9) _).length = _; simp; omega
  have hr : RightC (newRaw n h b) := by
    refine ⟨.inl rfl, ⟨by simp [newRaw], by simp [newRaw]⟩, by rw [hl]; omega, ⟨by simp [newRaw], fun m hm => ?_⟩, fun p hp => ?_⟩
    · have : m = (h, b) := by simpa [newRaw] using hm
      subst this
      exact ⟨h1, h2, binB_iff.2 (by rcases hb with rfl | rfl <;> simp [newRaw])⟩
    · have : p = (h, 1, 0) := (List.mem_replicate.1 hp).2
      subst this
      exact ⟨⟨(h, b), by simp [newRaw], rfl⟩, by simp, by simp, .inl rfl⟩
  exact ⟨if_pos hr, hr⟩
end Go.Proofs.Ytndkmepdnekigaa
