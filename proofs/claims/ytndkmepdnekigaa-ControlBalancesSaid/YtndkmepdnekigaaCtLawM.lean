import Derived.Test.YtndkmepdnekigaaCtCtlM
/-
  Plain mathematics of stage 18's laws.
-/
namespace Go.Proofs.Ytndkmepdnekigaa
set_option linter.unusedVariables false

def EpB (c : CtR) (b : Int) : Prop := ∀ p ∈ c.pl, p.2.1 ≤ b
theorem EpB.set {c : CtR} {b : Int} {s : Int} {p : PlR} (h : EpB c b) (hp : p.2.1 ≤ b) : EpB (setPl c s p) b := fun q hq => by
  rcases List.mem_or_eq_of_mem_set hq with hq | rfl
  · exact h q hq
  · exact hp
theorem EpB.up {c : CtR} {b : Int} (h : EpB c b) : EpB c (b + 1) := fun p hp => by have := h p hp; omega
theorem EpB.join {c : CtR} {b x y : Int} (h : EpB c b) : EpB (joinC c x y).1 b := by
  by_cases h0 : (joinC c x y).2 = 0
  · rw [(join_ok h0).2.2.2.2.2.2.2]; exact h
  · rw [join_no h0]; exact h
theorem EpB.report {c : CtR} {b x y : Int} (h : EpB c b) : EpB (reportC c x y).1 b := by
  by_cases h0 : (reportC c x y).2 = 0
  · rw [(report_ok h0).2.2.2.2]; exact h
  · rw [report_no h0]; exact h
theorem EpB.final {c : CtR} {b : Int} (h : EpB c b) : EpB (finalC c).1 b := by
  by_cases h0 : (finalC c).2 = 0
  · rw [(final_ok h0).2.2]; exact h
  · rw [final_no h0]; exact h
theorem EpB.plan {c : CtR} {b s t : Int} (h : EpB c b) : EpB (planC c s t).1 b := by
  by_cases h0 : (planC c s t).2 = 0
  · have h1 := plan_ok h0
    rw [h1.2.2.2.2.2]
    exact h.set (by have := h _ (atP9_mem (place_ok h1.1).2.2); exact this)
  · rw [plan_no h0]; exact h
theorem EpB.commit {c : CtR} {b s : Int} (h : EpB c b) : EpB (commitC c s).1 (b + 1) := by
  by_cases h0 : (commitC c s).2 = 0
  · have h1 := commit_ok h0
    rw [h1.2.2.2]
    refine h.up.set ?_
    have := h _ (atP9_mem (place_ok h1.1).2.2)
    show (atP9 c.pl s.toNat).2.1 + 1 ≤ b + 1
    omega
  · rw [commit_no h0]; exact h.up
theorem EpB.cancel {c : CtR} {b s : Int} (h : EpB c b) : EpB (cancelC c s).1 b := by
  by_cases h0 : (cancelC c s).2 = 0
  · have h1 := cancel_ok h0
    rw [h1.2.2]
    exact h.set (by have := h _ (atP9_mem (place_ok h1.1).2.2); exact this)
  · rw [cancel_no h0]; exact h
theorem EpB.step {c : CtR} {b : Int} {f : Nat → Int} (h : EpB c b) : EpB (stpC c f) (b + 1) := by
  unfold stpC
  simp only
  split
  · exact h.join.up
  split
  · exact h.report.up
  split
  · exact h.final.up
  split
  · exact h.plan.up
  split
  · exact h.commit
  · exact h.cancel.up
theorem ctlD_ep {c0 : CtR} (h : EpB c0 1) (f : Nat → Nat → Int) : ∀ k : Nat, EpB (ctlD c0 f k) (1 + k)
  | 0 => h
  | k + 1 => by have := (ctlD_ep h f k).step (f := f k); rw [show (1 : Int) + ((k + 1 : Nat) : Int) = 1 + (k : Int) + 1 by omega]; exact this
theorem ctlC_ep (x y : Int) (f : Nat → Nat → Int) (n : Nat) : ∀ p ∈ (ctlC x y f n).pl, p.2.1 ≤ 31 := fun p hp => by
  have h0 : EpB (newC (1 + (pickN x 8 : Nat)) 5 (1 + (pickN y 2 : Nat))) 1 := by
    intro q hq
    unfold newC at hq
    split at hq
    · have : q = (5, 1, 0) := (List.mem_replicate.1 hq).2
      rw [this]; show (1 : Int) ≤ 1; decide
    · cases hq
  have := ctlD_ep h0 f (min n 30) p hp
  omega
/-- Names are unique. -/
theorem memI_at {l : List MbR} (h : l.Pairwise (fun a b => a.1 < b.1)) {k : Nat} (hk : k < l.length) : memI l (l.getD k (0, 0)).1 = k := by
  obtain ⟨q, hq, hl, hx, hn⟩ := memI_yes (l := l) (x := (l.getD k (0, 0)).1) ⟨l.getD k (0, 0), by rw [List.getD_eq_getElem?_getD, List.getElem?_eq_getElem hk]; exact List.getElem_mem _, rfl⟩
  rw [hq]
  have e : ∀ i j (h1 : i < l.length) (h2 : j < l.length), i < j → (l.getD i (0, 0)).1 < (l.getD j (0, 0)).1 := fun i j h1 h2 hij => by
    have := List.pairwise_iff_getElem.1 h i j h1 h2 hij
    rwa [List.getD_eq_getElem?_getD, List.getElem?_eq_getElem h1, List.getD_eq_getElem?_getD, List.getElem?_eq_getElem h2]
  rcases Nat.lt_trichotomy q k with h1 | h1 | h1
  · have := e q k hl hk h1; rw [hx] at this; omega
  · rw [h1]
  · exact absurd rfl (hn k h1)
theorem isMem_at {l : List MbR} {k : Nat} (hk : k < l.length) : isMem l (l.getD k (0, 0)).1 :=
  ⟨l.getD k (0, 0), by rw [List.getD_eq_getElem?_getD, List.getElem?_eq_getElem hk]; exact List.getElem_mem _, rfl⟩
theorem getD_mem {l : List MbR} {k : Nat} (hk : k < l.length) : l.getD k (0, 0) ∈ l := by
  rw [List.getD_eq_getElem?_getD, List.getElem?_eq_getElem hk]; exact List.getElem_mem _
/-- Report of a member, told by its place. -/
theorem report_at {c : CtR} (h : RightC c) {k : Nat} (hk : k < c.mem.length) {b : Int} (hb : b = 1 ∨ b = 2) (hB : binB c.level b = true) :
    reportC c (c.mem.getD k (0, 0)).1 b = (⟨c.level, c.mem.set k ((c.mem.getD k (0, 0)).1, b), c.pl⟩, 0) := by
  unfold reportC
  rw [if_neg (fun e => e.elim (fun e => e h) (fun e => by omega)), if_neg (fun e => e (isMem_at hk)), if_neg (by rw [hB]; simp), memI_at h.2.2.2.1.1 hk, Int.toNat_natCast]
theorem report_old {c : CtR} (h : RightC c) {k : Nat} (hk : k < c.mem.length) {b : Int} (hb : b = 1 ∨ b = 2) (hB : binB c.level b = false) :
    reportC c (c.mem.getD k (0, 0)).1 b = (c, 22) := by
  unfold reportC
  rw [if_neg (fun e => e.elim (fun e => e h) (fun e => by omega)), if_neg (fun e => e (isMem_at hk)), if_pos hB]
theorem set_getD {l : List MbR} {k : Nat} (hk : k < l.length) {x : MbR} : (l.set k x).getD k (0, 0) = x := by
  rw [List.getD_eq_getElem?_getD, List.getElem?_set_self hk]; rfl
theorem set_same {l : List MbR} {k : Nat} (hk : k < l.length) : l.set k (l.getD k (0, 0)) = l := by
  refine List.ext_getElem (by simp) fun i h1 h2 => ?_
  rw [List.getElem_set]
  split
  · rename_i e; subst e; rw [List.getD_eq_getElem?_getD, List.getElem?_eq_getElem h2]; rfl
  · rfl
/-- ControlBack: told the other binary, and told again the old one. -/
theorem back_math {c : CtR} (h : RightC c) (hl : c.level = 1) {k : Nat} (hk : k < c.mem.length) {nm nb : Int} (hp : c.mem.getD k (0, 0) = (nm, nb)) :
    reportC c nm (3 - nb) = (⟨c.level, c.mem.set k (nm, 3 - nb), c.pl⟩, 0) ∧ RightC ⟨c.level, c.mem.set k (nm, 3 - nb), c.pl⟩ ∧ reportC ⟨c.level, c.mem.set k (nm, 3 - nb), c.pl⟩ nm nb = (c, 0) ∧ (⟨c.level, c.mem.set k (nm, 3 - nb), c.pl⟩ : CtR) ≠ c ∧ (nb = 1 ∨ nb = 2) := by
  have hb := (h.2.2.2.1.2 _ (getD_mem hk)).2.2
  rw [hp, binB_iff] at hb
  simp only at hb
  have hn : nb = 1 ∨ nb = 2 := by omega
  have h1 := report_at h hk (b := 3 - nb) (by omega) (binB_iff.2 (by omega))
  rw [hp] at h1
  simp only at h1
  have hr : RightC ⟨c.level, c.mem.set k (nm, 3 - nb), c.pl⟩ := by have := report_right (x := nm) (b := 3 - nb) h; rw [h1] at this; exact this
  have hk2 : k < (c.mem.set k (nm, 3 - nb)).length := by rw [List.length_set]; exact hk
  have h2 := report_at hr hk2 (b := nb) hn (binB_iff.2 (by show nb = 2 ∨ (nb = 1 ∧ c.level = 1); omega))
  refine ⟨h1, hr, ?_, ?_, hn⟩
  · show reportC _ nm nb = _
    have e : ((⟨c.level, c.mem.set k (nm, 3 - nb), c.pl⟩ : CtR).mem.getD k (0, 0)).1 = nm := by show ((c.mem.set k _).getD k (0, 0)).1 = nm; rw [set_getD hk]
    rw [e] at h2
    rw [h2]
    show ((⟨c.level, (c.mem.set k (nm, 3 - nb)).set k (nm, nb), c.pl⟩ : CtR), (0 : Int)) = (c, 0)
    rw [List.set_set, ← hp, set_same hk]
  · intro e
    have e2 : (c.mem.set k (nm, 3 - nb)).getD k (0, 0) = c.mem.getD k (0, 0) := by
      have := congrArg CtR.mem e
      simp only at this
      rw [this]
    rw [set_getD hk, hp] at e2
    have := congrArg Prod.snd e2
    simp only at this
    omega
theorem back_final {c : CtR} (h : RightC c) (hl : c.level ≠ 1) {k : Nat} (hk : k < c.mem.length) {nm nb : Int} (hp : c.mem.getD k (0, 0) = (nm, nb)) : reportC c nm (3 - nb) = (c, 22) ∧ c.level = 2 ∧ nb = 2 := by
  have h2 : c.level = 2 := by have := h.1; omega
  have hb := (h.2.2.2.1.2 _ (getD_mem hk)).2.2
  rw [hp, binB_iff] at hb
  simp only at hb
  have hn : nb = 2 := by omega
  have h1 := report_old h hk (b := 3 - nb) (by omega) (by cases hB : binB c.level (3 - nb) with | false => rfl | true => rw [binB_iff] at hB; omega)
  rw [hp] at h1
  exact ⟨h1, h2, hn⟩
/-- ControlGate: granted just if all tell 2. -/
theorem gate_yes {c : CtR} (h : RightC c) (ha : ∀ m ∈ c.mem, m.2 = 2) : finalC c = (⟨2, c.mem, c.pl⟩, 0) ∧ RightC ⟨2, c.mem, c.pl⟩ := by
  have e : finalC c = (⟨2, c.mem, c.pl⟩, 0) := by unfold finalC; rw [if_neg (fun e => e h), if_neg (fun ⟨m, hm, e⟩ => e (ha m hm))]
  exact ⟨e, by have := final_right h; rw [e] at this; exact this⟩
theorem gate_no {c : CtR} (h : RightC c) (ha : ¬ ∀ m ∈ c.mem, m.2 = 2) : finalC c = (c, 22) ∧ c.level = 1 := by
  have hx : ∃ m ∈ c.mem, m.2 ≠ 2 := Classical.byContradiction fun e => ha fun m hm => Classical.byContradiction fun e2 => e ⟨m, hm, e2⟩
  refine ⟨by unfold finalC; rw [if_neg (fun e => e h), if_pos hx], ?_⟩
  obtain ⟨m, hm, e⟩ := hx
  have := (h.2.2.2.1.2 m hm).2.2
  rw [binB_iff] at this
  omega
theorem join_old {c : CtR} (h : RightC c) (hl : c.level = 2) {x : Int} (h1 : 1 ≤ x) (h2 : x ≤ 100) (hm : ¬ isMem c.mem x) : joinC c x 1 = (c, 22) := by
  unfold joinC
  rw [if_neg (by rintro (e | e | e | e | e); exact e h; omega; omega; exact e.1 rfl; exact hm e), if_pos (by rw [hl]; rfl)]
theorem join_new {c : CtR} (h : RightC c) {x b : Int} (h1 : 1 ≤ x) (h2 : x ≤ 100) (hm : ¬ isMem c.mem x) (hb : b = 1 ∨ b = 2) (hB : binB c.level b = true) :
    joinC c x b = if 8 ≤ c.mem.length then (c, 50) else (⟨c.level, insM c.mem (x, b), c.pl⟩, 0) := by
  unfold joinC
  rw [if_neg (by rintro (e | e | e | e | e); exact e h; omega; omega; omega; exact hm e), if_neg (by rw [hB]; simp)]
def allK (l : List MbR) (k : Nat) : Bool := (l.take k).all fun m => m.2 == 2
theorem allK_succ {l : List MbR} {k : Nat} (h : k < l.length) : allK l (k + 1) = (allK l k && ((l.getD k (0, 0)).2 == 2)) := by
  unfold allK
  rw [take_oneJ l h, List.all_append]; simp
theorem allK_end {l : List MbR} : allK l l.length = true ↔ ∀ m ∈ l, m.2 = 2 := by
  unfold allK
  rw [List.take_length, List.all_eq_true]
  exact ⟨fun h m hm => by simpa using h m hm, fun h m hm => by simpa using h m hm⟩
def cntM (l : List MbR) (x : MbR) (k : Nat) : Nat := (l.take k).countP fun m => decide (m = x)
theorem cntM_le (l : List MbR) (x : MbR) (k : Nat) : cntM l x k ≤ k := Nat.le_trans List.countP_le_length (by simp; omega)
theorem cntM_succ {l : List MbR} {x : MbR} {k : Nat} (h : k < l.length) : cntM l x (k + 1) = cntM l x k + (if l.getD k (0, 0) = x then 1 else 0) := by
  unfold cntM
  rw [take_oneJ l h, List.countP_append]
  congr 1
  simp [List.countP_cons]
theorem cnt_ins (l : List MbR) (x : MbR) : (insM l x).countP (fun m => decide (m = x)) = l.countP (fun m => decide (m = x)) + 1 := by
  induction l with
  | nil => simp [insM]
  | cons m l ih =>
    unfold insM
    split
    · rw [List.countP_cons]; simp
    · rw [List.countP_cons, ih, List.countP_cons]; omega
theorem cntM_ins {l : List MbR} {x b : Int} (h : ¬ isMem l x) : cntM (insM l (x, b)) (x, b) (insM l (x, b)).length = 1 := by
  unfold cntM
  rw [List.take_length, cnt_ins]
  have : l.countP (fun m => decide (m = (x, b))) = 0 := by
    rw [List.countP_eq_zero]
    intro m hm e
    have e2 : m = (x, b) := by simpa using e
    exact h ⟨m, hm, by rw [e2]⟩
  rw [this]
end Go.Proofs.Ytndkmepdnekigaa
