import Derived.Test.YtkcmjhpbjgjebaaGRec
/-
  What the law's own helper 'Record' makes: plain mathematics: its record may be, and its bytes are few.
-/
namespace Go.Proofs.Ytkcmjhpbjgjebaa
open Go.RowKit

/-- A record that may be, of few bytes. -/
def RecNice (v : Int) (r : Rcd) : Prop := RightP v r ∧ r.extra.length ≤ 6 ∧ ∀ f ∈ r.extra, f.2.size ≤ 300
/-- What Record has made ahead of Extra. -/
def PartR (v : Int) (r : Rcd) : Prop := (1 ≤ r.key.size ∧ r.key.size ≤ 16) ∧ r.value.size ≤ 200 ∧ (0 ≤ r.rev ∧ r.rev ≤ 9007199254740992) ∧ LaterP v r ∧ r.extra = []
/-- A tag moved on by c. -/
def shf (c : Int) (f : Fld) : Fld := (f.1 + c, f.2)
theorem chain_shf {c : Int} (hc : 0 ≤ c ∧ c ≤ 100) : ∀ (fs : List Fld) (a : Int), chain a fs → (∀ f ∈ fs, f.1 ≤ 4000) → chain (a + c) (fs.map (shf c)) := by
  intro fs
  induction fs with
  | nil => intro a _ _; trivial
  | cons f fs ih =>
    intro a h hb
    simp only [chain, List.map_cons] at h ⊢
    have h1 := hb f List.mem_cons_self
    refine ⟨⟨?_, ?_, h.1.2.2⟩, ih f.1 h.2 (fun g hg => hb g (List.mem_cons_of_mem _ hg))⟩
    · show a + c < f.1 + c; omega
    · show f.1 + c ≤ 1000000; omega
theorem chain_take : ∀ {fs : List Fld} {a : Int} (k : Nat), chain a fs → chain a (fs.take k) := by
  intro fs
  induction fs with
  | nil => intro a k _; rw [List.take_nil]; trivial
  | cons f fs ih =>
    intro a k h
    cases k with
    | zero => trivial
    | succ k => simp only [List.take_succ_cons, chain] at h ⊢; exact ⟨h.1, ih k h.2⟩
theorem nice_extra {v : Int} (hv : v = 1 ∨ v = 2) {fs : List Fld} (h : Nice fs) (k : Nat) : extraB v (((fs.map (shf (3 + 2 * (v - 1)))).take k).take 6) = true := by
  have hc := (right_chain.1 h.right).2
  have hb : ∀ f ∈ fs, f.1 ≤ 4000 := fun f hf => by
    obtain ⟨i, hi, rfl⟩ := List.mem_iff_getElem.1 hf
    have := (h.2 i hi).2.1
    rw [tg_at hi] at this
    have := h.1
    omega
  have h1 := chain_shf (c := 3 + 2 * (v - 1)) (by rcases hv with rfl | rfl <;> omega) fs 0 hc hb
  have ht : (0 : Int) + (3 + 2 * (v - 1)) = topT v := by rcases hv with rfl | rfl <;> rfl
  rw [ht] at h1
  have hl : (((fs.map (shf (3 + 2 * (v - 1)))).take k).take 6).length ≤ 6 := List.length_take_le _ _
  exact (right_extra (chain_take 6 (chain_take k h1)) (by omega)).2 (Nat.le_trans (few_le _) (by omega))
theorem nice_made {v : Int} (hv : v = 1 ∨ v = 2) {fs : List Fld} (h : Nice fs) {r : Rcd} (hp : PartR v r) (k : Nat) (hk : k ≤ 6) : RecNice v { r with extra := (fs.map (shf (3 + 2 * (v - 1)))).take k } := by
  obtain ⟨h1, h2, h3, h4, _⟩ := hp
  have he := nice_extra hv h k
  rw [List.take_of_length_le (Nat.le_trans (List.length_take_le _ _) hk)] at he
  refine ⟨⟨hv, h1, h2, h3, laterB_iff.2 h4, he⟩, Nat.le_trans (List.length_take_le _ _) hk, fun f hf => ?_⟩
  obtain ⟨g, hg, rfl⟩ := List.mem_map.1 (List.mem_of_mem_take hf)
  obtain ⟨i, hi, rfl⟩ := List.mem_iff_getElem.1 hg
  have := (h.2 i hi).2.2
  rwa [dt_at hi] at this
theorem enc_few : ∀ (l : List Fld), (∀ f ∈ l, f.1 ≤ 1000000 ∧ f.2.size ≤ 300) → (encL l).length ≤ 305 * l.length := by
  intro l
  induction l with
  | nil => intro _; simp [encL]
  | cons f l ih =>
    intro h
    have h1 := h f List.mem_cons_self
    have h2 := ih (fun g hg => h g (List.mem_cons_of_mem _ hg))
    have h3 := enc1_len (f := f) h1.1 (by omega)
    rw [encL_cons, List.length_append, List.length_cons]
    omega
theorem RecNice.enc {v : Int} {r : Rcd} (h : RecNice v r) : (encL (fieldsR r)).length ≤ 10000 := by
  obtain ⟨hp, _, h3⟩ := h
  obtain ⟨hR, hl⟩ := right_fields hp
  have hlf := life_bd hp
  have hrv := hp.2.2.2.1
  have n1 := numD_size hrv.1 hrv.2
  have n2 := numD_size hlf.1 hlf.2.1
  have := enc_few (fieldsR r) (fun f hf => by
    constructor
    · obtain ⟨i, hi, rfl⟩ := List.mem_iff_getElem.1 hf
      have := (okAt_iff.1 ((rightB_iff.1 hR).2 i hi)).2.1
      rwa [tg_at hi] at this
    · rw [fieldsR_parts] at hf
      simp only [parts, List.mem_append, mem_opt] at hf
      rcases hf with ⟨h, _⟩ | ⟨h, _⟩ | ⟨h, _⟩ | ⟨h, _⟩ | ⟨h, _⟩ | h
      · have e := (ob_some h).1; rw [← e]; have := hp.2.1; omega
      · have e := (ob_some h).1; rw [← e]; have := hp.2.2.1; omega
      · have e := (ob_some h).1; rw [← e]; omega
      · have e := (ob_some h).1; rw [← e]; omega
      · have e := (ob_some h).1; rw [← e]; omega
      · exact h3 f h)
  omega
theorem RecNice.wf {v : Int} {r : Rcd} (h : RecNice v r) : RcWf r := by
  have h1 := h.1
  have := life_bd h1
  exact ⟨by have := h1.2.1; omega, by have := h1.2.2.1; omega, by omega⟩
theorem RecNice.right {v : Int} {r : Rcd} (h : RecNice v r) : rightR v r = true := rightR_iff.2 h.1
theorem RecNice.recE {v : Int} {r : Rcd} (h : RecNice v r) : recE v r = (encL (fieldsR r), 0) := (rec_back h.right h.enc).1
theorem RecNice.recD {v : Int} {r : Rcd} (h : RecNice v r) : recD v (encL (fieldsR r)) = (r, 0) := (rec_back h.right h.enc).2
/-- Fields of which the first k have been moved on. -/
def mixed (c : Int) (fs : List Fld) (k : Nat) : List Fld := (fs.map (shf c)).take k ++ fs.drop k
theorem mixed_len (c : Int) (fs : List Fld) (k : Nat) (h : k ≤ fs.length) : (mixed c fs k).length = fs.length := by
  unfold mixed; rw [List.length_append, List.length_take, List.length_drop, List.length_map]; omega
theorem mixed_zero (c : Int) (fs : List Fld) : mixed c fs 0 = fs := by unfold mixed; simp
theorem mixed_at (c : Int) (fs : List Fld) {k : Nat} (h : k < fs.length) : tg (mixed c fs k) k = tg fs k ∧ dt (mixed c fs k) k = dt fs k := by
  have e : (mixed c fs k)[k]? = fs[k]? := by
    unfold mixed
    rw [List.getElem?_append_right (by rw [List.length_take, List.length_map]; omega), List.length_take, List.length_map, List.getElem?_drop, Nat.min_eq_left (by omega), Nat.sub_self, Nat.add_zero]
  unfold tg dt
  rw [List.getD_eq_getElem?_getD, List.getD_eq_getElem?_getD, e]
  exact ⟨rfl, rfl⟩
theorem map_take_snoc (c : Int) (fs : List Fld) {k : Nat} (h : k < fs.length) : (fs.map (shf c)).take (k + 1) = (fs.map (shf c)).take k ++ [(tg fs k + c, dt fs k)] := by
  rw [List.take_succ_eq_append_getElem (by simpa using h), List.getElem_map, fld_at h]; rfl
theorem cellsF_set (a b : List Fld) (t u : Int) (d : ByteArray) : (cellsF (a ++ (t, d) :: b)).set (a.length * 2) (.int .i64 u) = cellsF (a ++ (u, d) :: b) := by
  rw [cellsF_append, cellsF_append]
  have e : (cellsF a).length = a.length * 2 := cellsF_len a
  rw [← e, List.set_append_right _ _ (Nat.le_refl _), Nat.sub_self]
  rfl
theorem mixed_step (c : Int) (fs : List Fld) {k : Nat} (h : k < fs.length) : (cellsF (mixed c fs k)).set (k * 2) (.int .i64 (tg fs k + c)) = cellsF (mixed c fs (k + 1)) := by
  have hd : fs.drop k = (tg fs k, dt fs k) :: fs.drop (k + 1) := by rw [List.drop_eq_getElem_cons h, fld_at h]
  have hl : ((fs.map (shf c)).take k).length = k := by rw [List.length_take, List.length_map]; omega
  unfold mixed
  rw [hd, map_take_snoc c fs h, List.append_assoc, List.singleton_append]
  have := cellsF_set ((fs.map (shf c)).take k) (fs.drop (k + 1)) (tg fs k) (tg fs k + c) (dt fs k)
  rw [hl] at this
  exact this
end Go.Proofs.Ytkcmjhpbjgjebaa
