import Derived.Test.YtljjbpgbddaekaaInts
import Derived.Test.YtljjbpgbddaekaaMailMath
import Derived.Laws.StructEq
/-
  Slices of letters: read as a list, own rows, append.
-/
namespace Go.Proofs.Ytljjbpgbddaekaa
open Go.RowKit
set_option linter.unusedVariables false

def LtWf (m : Lt) : Prop := (Lit.int .i64 m.frm).wf = true ∧ (Lit.int .i64 m.to).wf = true ∧ m.bytes.size ≤ 140737488355328
def LtsWf (l : List Lt) : Prop := ∀ m ∈ l, LtWf m
theorem LtsWf.append {a b : List Lt} (h : LtsWf a) (h2 : LtsWf b) : LtsWf (a ++ b) := fun m hm => by
  rcases List.mem_append.1 hm with h3 | h3
  · exact h m h3
  · exact h2 m h3
theorem LtsWf.nil : LtsWf [] := fun m hm => by cases hm
theorem LtsWf.one {m : Lt} (h : LtWf m) : LtsWf [m] := fun x hx => by rw [List.mem_singleton] at hx; rw [hx]; exact h
theorem zeroL_wf : LtWf zeroL := ⟨by decide, by decide, by decide⟩
theorem LtsWf.at {l : List Lt} (h : LtsWf l) {i : Nat} (hi : i < l.length) : LtWf (atL l i) := h _ (atL_mem hi)
/-- A letter as a value. -/
abbrev ltV (m : Lt) : Value := .agg #[.int .i64 m.frm, .int .i64 m.to, .string m.bytes]
/-- A slice that reads as 'l'. -/
def IsLs (w : World) (A : Option Addr) (n : Nat) (l : List Lt) : Prop :=
  n = l.length ∧ n ≤ maxLen ∧ LtsWf l ∧ (0 < n → ∃ b off, A = some ⟨b, off, none⟩ ∧ b < w.heap.size ∧ ∀ i, i < l.length → w.cell? ⟨b, off + i * 3, none⟩ = some (.int .i64 (atL l i).frm) ∧ w.cell? ⟨b, off + i * 3 + 1, none⟩ = some (.int .i64 (atL l i).to) ∧ w.cell? ⟨b, off + i * 3 + 2, none⟩ = some (.string (atL l i).bytes))
theorem IsLs.below {w w' : World} {A : Option Addr} {n : Nat} {l : List Lt} (h : IsLs w A n l) (hb : Below w.heap.size w w') : IsLs w' A n l := by
  obtain ⟨h1, h2, h3, h4⟩ := h
  refine ⟨h1, h2, h3, fun hn => ?_⟩
  obtain ⟨b, off, rfl, hlt, hc⟩ := h4 hn
  exact ⟨b, off, rfl, Nat.lt_of_lt_of_le hlt hb.size, fun i hi => ⟨(hb.cell (p := ⟨b, off + i * 3, none⟩) hlt).trans (hc i hi).1, (hb.cell (p := ⟨b, off + i * 3 + 1, none⟩) hlt).trans (hc i hi).2.1, (hb.cell (p := ⟨b, off + i * 3 + 2, none⟩) hlt).trans (hc i hi).2.2⟩⟩
theorem IsLs.drew {w : World} {A : Option Addr} {n : Nat} {l : List Lt} (h : IsLs w A n l) : IsLs w.drew A n l := h
theorem isLs_nil (w : World) (A : Option Addr) : IsLs w A 0 [] := ⟨rfl, by unfold maxLen; omega, LtsWf.nil, fun h => by omega⟩
theorem IsLs.far {W : World} {A : Option Addr} {n g j : Nat} {l : List Lt} {u : Value} (h : IsLs W A n l) (hne : ApartN g A n) : IsLs (W.setCell ⟨g, j, none⟩ u) A n l := by
  obtain ⟨h1, h2, h3, h4⟩ := h
  refine ⟨h1, h2, h3, fun hn => ?_⟩
  obtain ⟨b, off, rfl, hlt, hc⟩ := h4 hn
  have hh := heap_setCell_other W ⟨g, j, none⟩ b u (hne hn b off rfl)
  have hk : ∀ i, (W.setCell ⟨g, j, none⟩ u).cell? ⟨b, i, none⟩ = W.cell? ⟨b, i, none⟩ := fun i => by
    unfold World.cell?
    rw [show (⟨b, i, none⟩ : Addr).block = b from rfl, hh]
  exact ⟨b, off, rfl, by simpa using hlt, fun i hi => by rw [hk, hk, hk]; exact hc i hi⟩
/-- Letters' cells in memory. -/
def cellsL (l : List Lt) : List Value := l.flatMap fun m => [Value.int .i64 m.frm, .int .i64 m.to, .string m.bytes]
theorem cellsL_append (a b : List Lt) : cellsL (a ++ b) = cellsL a ++ cellsL b := by simp [cellsL]
theorem cellsL_len (l : List Lt) : (cellsL l).length = l.length * 3 := by
  induction l with
  | nil => rfl
  | cons m l ih => rw [show cellsL (m :: l) = [Value.int .i64 m.frm, .int .i64 m.to, .string m.bytes] ++ cellsL l from rfl, List.length_append, ih]; simp; omega
theorem cellsL_one (l : List Lt) : ∀ u ∈ cellsL l, u.oneCell' = true := by
  intro u hu
  unfold cellsL at hu
  obtain ⟨m, _, hm⟩ := List.mem_flatMap.1 hu
  simp at hm
  rcases hm with rfl | rfl | rfl <;> rfl
theorem cellsL_at (l : List Lt) : ∀ i, i < l.length → (cellsL l)[i * 3]? = some (.int .i64 (atL l i).frm) ∧ (cellsL l)[i * 3 + 1]? = some (.int .i64 (atL l i).to) ∧ (cellsL l)[i * 3 + 2]? = some (.string (atL l i).bytes) := by
  induction l with
  | nil => intro i hi; simp at hi
  | cons m l ih =>
    intro i hi
    rw [show cellsL (m :: l) = Value.int .i64 m.frm :: .int .i64 m.to :: .string m.bytes :: cellsL l from rfl]
    cases i with
    | zero => exact ⟨rfl, rfl, rfl⟩
    | succ i =>
      have := ih i (by simpa using hi)
      have e : atL (m :: l) (i + 1) = atL l i := rfl
      rw [show (i + 1) * 3 = i * 3 + 1 + 1 + 1 by omega, e]
      exact ⟨by simpa using this.1, by simpa using this.2.1, by simpa using this.2.2⟩
/-- A row of letters of a call's own. -/
def RowL (w : World) (base : Nat) (v : Value) (l : List Lt) : Prop := w.ownsRow base 25 3 v l.length (cellsL l)
theorem rowL_nil (w : World) (base : Nat) : RowL w base (.slice none 0 0) [] := World.ownsRow_nil _ _ _ _
theorem RowL.below {w w' : World} {base : Nat} {v : Value} {l : List Lt} (h : RowL w base v l) (hb : Below w.heap.size w w') : RowL w' base v l := ownsI_below h hb
theorem RowL.isLs {w : World} {base : Nat} {v : Value} {l : List Lt} (h : RowL w base v l) (hwf : LtsWf l) :
    ∃ A cap, v = .slice A l.length cap ∧ l.length ≤ cap ∧ IsLs w A l.length l := by
  rcases h.2 with ⟨rfl, hv⟩ | ⟨g, cap, cur, hv, hg, hh, hnc, hcm, hcs, htk⟩
  · have : l.length = 0 := by omega
    exact ⟨none, 0, by simp_all, by omega, rfl, by unfold maxLen; omega, hwf, fun h => by omega⟩
  · subst hv
    refine ⟨_, cap, rfl, hnc, rfl, Nat.le_trans hnc hcm, hwf, fun _ => ⟨g, 0, rfl, lt_of_blk hh, fun i hi => ?_⟩⟩
    obtain ⟨e1, e2, e3⟩ := cellsL_at l i hi
    have c1 := h.cellAt (i * 3) (by omega)
    have c2 := h.cellAt (i * 3 + 1) (by omega)
    have c3 := h.cellAt (i * 3 + 2) (by omega)
    rw [e1] at c1
    rw [e2] at c2
    rw [e3] at c3
    rw [Nat.zero_add]
    exact ⟨c1, c2, c3⟩
theorem RowL.new {w : World} {base n cap : Nat} {A : Option Addr} {l : List Lt} (h : RowL w base (.slice A n cap) l) : NewN base A n := fun _ b off hA => by
  subst hA
  exact (h.lt b rfl).1
theorem infoL : (Try.prog.info? 25).map (fun i => (i.zero, i.size, i.bytes)) = some (some (.agg #[.int .i64 0, .int .i64 0, .string ⟨#[]⟩]), 3, 32) := by kernel_rfl
theorem lets_cells {w : World} {b off : Nat} {l : List Lt} (h : ∀ i, i < l.length → w.cell? ⟨b, off + i * 3, none⟩ = some (.int .i64 (atL l i).frm) ∧ w.cell? ⟨b, off + i * 3 + 1, none⟩ = some (.int .i64 (atL l i).to) ∧ w.cell? ⟨b, off + i * 3 + 2, none⟩ = some (.string (atL l i).bytes)) : ∀ j u, (cellsL l)[j]? = some u → w.cell? ((⟨b, off, none⟩ : Addr).add j) = some u := by
  intro j u hj
  have hl : j < l.length * 3 := by rw [← cellsL_len]; exact (List.getElem?_eq_some_iff.1 hj).1
  obtain ⟨c1, c2, c3⟩ := h (j / 3) (by omega)
  obtain ⟨d1, d2, d3⟩ := cellsL_at l (j / 3) (by omega)
  have e : ((⟨b, off, none⟩ : Addr).add j) = ⟨b, off + j, none⟩ := by
    by_cases h0 : j = 0
    · subst h0; simp [Addr.add]
    · simp [Addr.add, h0]
  rw [e]
  rcases (by omega : j = j / 3 * 3 ∨ j = j / 3 * 3 + 1 ∨ j = j / 3 * 3 + 2) with h2 | h2 | h2
  · rw [h2, d1] at hj; rw [h2, c1]; exact hj
  · rw [h2, d2] at hj; rw [h2, show off + (j / 3 * 3 + 1) = off + j / 3 * 3 + 1 by omega, c2]; exact hj
  · rw [h2, d3] at hj; rw [h2, show off + (j / 3 * 3 + 2) = off + j / 3 * 3 + 2 by omega, c3]; exact hj
/-- 'append(l, x...)', l the call's own, x letters that lie anywhere. -/
theorem wpList_append_lets {w : World} {ops : Array Oper} {rest : List Oper} {o : Oper} {a : Act} {Q : Exit → Act → World → Prop} (hgd : o.guard = none) (s x : Operand)
    (ho : o.op = .call { callee := .builtin .append, args := #[s, x], argTypes := #[23, 23] })
    (base : Nat) (v : Value) (l : List Lt) (hs : a.eval s = v) (hown : RowL w base v l)
    (A : Option Addr) (m c : Nat) (k : List Lt) (hx : a.eval x = .slice A m c) (hf : IsLs w A m k)
    (h63 : (l.length + m) * 32 ≤ 140737488355328) (hbase : base ≤ w.heap.size)
    (h : ∀ v' w', RowL w' base v' (l ++ k) → w.grownBy w' v.ownBlock → wpList Try.prog ops Q rest (a.put o.dst v') w') :
    wpList Try.prog ops Q (o :: rest) a w := by
  obtain ⟨i0, hi, hz0, hz1, hz2⟩ := info_parts infoL
  obtain ⟨hm, _, _, hat⟩ := hf
  rcases Nat.eq_zero_or_pos m with rfl | hp
  · have hg : k = [] := List.eq_nil_of_length_eq_zero hm.symm
    subst hg
    refine wpList_plain hgd fun K hK => ?_
    have hrun := run_append_zeroI (P := Try.prog) (w := w) base 23 o.type 25 i0 3 Try.underlying23 hi v l.length _ hown A c
    unfold Oper.wp
    simp [execOp, ho, resolve, invoke, builtin, hs, hx, hrun, Result.andThen]
    refine hK _ _ (h v w (by simpa using hown) ?_)
    exact ⟨rfl, rfl, rfl, Nat.le_refl _, fun _ _ _ => rfl⟩
  · obtain ⟨b, off, rfl, hb, hat⟩ := hat hp
    refine wpList_append_own_at w hgd s x 23 ho base 25 i0 (.agg #[.int .i64 0, .int .i64 0, .string ⟨#[]⟩]) 3 32 Try.underlying23 hi hz0 hz1 hz2 rfl (by decide) v l.length _ hs hown ⟨b, off, none⟩ m c (cellsL k) hx (by rw [cellsL_len, hm]) (lets_cells hat) (cellsL_one k) (by unfold maxLen; omega) h63 hbase ?_
    intro v' w' h1 h2 _ _
    refine h v' w' ?_ h2
    unfold RowL
    rw [cellsL_append, List.length_append, ← hm]; exact h1
/-- One new letter's block, as a slice. -/
theorem isLs_one (w : World) (m : Lt) (hm : LtWf m) : IsLs (w.alloc (.cells #[.int .i64 m.frm, .int .i64 m.to, .string m.bytes] 25)) (some ⟨w.heap.size, 0, none⟩) 1 [m] := by
  have hx := World.alloc_heap_new w (.cells #[.int .i64 m.frm, .int .i64 m.to, .string m.bytes] 25)
  refine ⟨rfl, by unfold maxLen; omega, LtsWf.one hm, fun _ => ⟨w.heap.size, 0, rfl, by simp, fun i hi => ?_⟩⟩
  have : i = 0 := by simpa using hi
  subst this
  exact ⟨cell_blk hx 0, cell_blk hx 1, cell_blk hx 2⟩
def eqL (a b : Lt) : Bool := a.frm == b.frm && a.to == b.to && a.bytes.toList == b.bytes.toList
theorem eqL_self (a : Lt) : eqL a a = true := by unfold eqL; simp
theorem eqLt (a b : Lt) (w : World) : (Op.equalIn 10000 25 (ltV a) (ltV b)).run Try.prog w = .ok (eqL a b) w := by
  have u3 := Try.underlying3
  have a3 := Try.isAgg3
  have z3 := Try.sizeOf3
  have u9 := Try.underlying9
  have a9 := Try.isAgg9
  have z9 := Try.sizeOf9
  have hS : Try.prog.underlying 25 = some (.struct (Try.prog.fieldsOf 25)) := by kernel_rfl
  have hp : Try.prog.stoodInHeld 25 = false := by kernel_rfl
  unfold ltV eqL
  rw [show (10000 : Nat) = 9999 + 1 from rfl, run_equalIn_agg w 9999 25 _ _ hS hp]
  simp only [Program.fieldsOf, Try.underlying25]
  go_simp
  by_cases h1 : a.frm = b.frm <;> by_cases h2 : a.to = b.to <;> by_cases h3 : a.bytes.toList = b.bytes.toList <;> simp [h1, h2, h3]
theorem guardLt : Try.prog.eqGuardType Try.prog.depth 25 = false := by kernel_rfl
end Go.Proofs.Ytljjbpgbddaekaa
