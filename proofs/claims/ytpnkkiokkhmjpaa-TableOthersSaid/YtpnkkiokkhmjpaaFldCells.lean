import Derived.Test.YtpnkkiokkhmjpaaFs
import Derived.Maps.AppendAt
import Derived.OwnWalk
import Derived.WalkMore
/-
  Fields' cells in memory; rows of fields of a call's own; append of fields that lie anywhere.
-/
namespace Go.Proofs.Ytpnkkiokkhmjpaa
open Go.RowKit

/-- Fields' cells in memory. -/
def cellsF (fs : List Fld) : List Value := fs.flatMap fun f => [Value.int .i64 f.1, .string f.2]
theorem cellsF_append (a b : List Fld) : cellsF (a ++ b) = cellsF a ++ cellsF b := by simp [cellsF]
theorem cellsF_len (fs : List Fld) : (cellsF fs).length = fs.length * 2 := by
  induction fs with
  | nil => rfl
  | cons f fs ih => rw [show cellsF (f :: fs) = [Value.int .i64 f.1, .string f.2] ++ cellsF fs from rfl, List.length_append, ih]; simp; omega
theorem cellsF_at (fs : List Fld) : ∀ i, i < fs.length → (cellsF fs)[i * 2]? = some (.int .i64 (tg fs i)) ∧ (cellsF fs)[i * 2 + 1]? = some (.string (dt fs i)) := by
  induction fs with
  | nil => intro i hi; simp at hi
  | cons f fs ih =>
    intro i hi
    rw [show cellsF (f :: fs) = Value.int .i64 f.1 :: .string f.2 :: cellsF fs from rfl]
    cases i with
    | zero => exact ⟨rfl, rfl⟩
    | succ i =>
      have := ih i (by simpa using hi)
      rw [show (i + 1) * 2 = i * 2 + 1 + 1 by omega]
      exact ⟨by simpa [tg] using this.1, by simpa [dt] using this.2⟩

/-- An owned row of fields reads as these fields. -/
theorem isFs_own {w : World} {base n : Nat} {v : Value} {fs : List Fld} (h : w.ownsRow base 57 2 v n (cellsF fs)) (hwf : FsWf fs) :
    ∃ A cap, v = .slice A n cap ∧ n ≤ cap ∧ IsFs w A n fs := by
  have hn : n = fs.length := by have := h.1; rw [cellsF_len] at this; omega
  rcases h.2 with ⟨rfl, rfl⟩ | ⟨g, cap, cur, rfl, hg, hh, hnc, hcm, hcs, htk⟩
  · exact ⟨none, 0, rfl, Nat.le_refl _, hn, by unfold maxLen; omega, hwf, fun h => by omega⟩
  · refine ⟨_, cap, rfl, hnc, hn, Nat.le_trans hnc hcm, hwf, fun _ => ⟨g, 0, rfl, lt_of_blk hh, fun i hi => ?_⟩⟩
    obtain ⟨e1, e2⟩ := cellsF_at fs i hi
    have c1 := h.cellAt (i * 2) (by omega)
    have c2 := h.cellAt (i * 2 + 1) (by omega)
    rw [e1] at c1
    rw [e2] at c2
    rw [Nat.zero_add]
    exact ⟨c1, c2⟩

theorem infoFld : (Try.prog.info? 57).map (fun i => (i.zero, i.size, i.bytes)) = some (some (.agg #[.int .i64 0, .string ⟨#[]⟩]), 2, 24) := by kernel_rfl
theorem cell_two_new (w : World) (x y : Value) (t : TypeId) : ∀ j u, [x, y][j]? = some u → (w.alloc (.cells #[x, y] t)).cell? ((⟨w.heap.size, 0, none⟩ : Addr).add j) = some u := by
  intro j u h
  have hx := World.alloc_heap_new w (.cells #[x, y] t)
  rcases j with _ | _ | j
  · simp at h; subst h; exact cell_blk hx 0
  · simp at h; subst h; exact cell_blk hx 1
  · simp at h

theorem run_append_zero {w : World} {P : Program} (base : Nat) (t ty e : TypeId) (i : TypeInfo) (size : Nat) (ht : P.underlying t = some (.slice e)) (hi : P.info? e = some i)
    (v : Value) (n : Nat) (xs : List Value) (hown : w.ownsRow base e size v n xs) (A : Option Addr) (c : Nat) :
    (Builtin.append_ #[t, t] ty #[v, .slice A 0 c]).run P w = .ok v w := by
  rcases hown.2 with ⟨rfl, rfl⟩ | ⟨g, cap, cur, rfl, _, _, hnc, _⟩
  · cases A <;> simp [Builtin.append_, run_underlying ht, sizeOf, typeInfo, hi, Builtin.lenOf, Builtin.firstCells, loadCells, loadCellsFrom]
  · cases A <;> simp [Builtin.append_, run_underlying ht, sizeOf, typeInfo, hi, Builtin.lenOf, Builtin.firstCells, hnc, storeCells, loadCells, loadCellsFrom]
theorem fs_cells {w : World} {b off : Nat} {fs : List Fld} (h : FsAt w b off fs) : ∀ j u, (cellsF fs)[j]? = some u → w.cell? ((⟨b, off, none⟩ : Addr).add j) = some u := by
  intro j u hj
  have hl : j < fs.length * 2 := by rw [← cellsF_len]; exact (List.getElem?_eq_some_iff.1 hj).1
  obtain ⟨c1, c2⟩ := h (j / 2) (by omega)
  obtain ⟨d1, d2⟩ := cellsF_at fs (j / 2) (by omega)
  have e : ((⟨b, off, none⟩ : Addr).add j) = ⟨b, off + j, none⟩ := by
    by_cases h0 : j = 0
    · subst h0; simp [Addr.add]
    · simp [Addr.add, h0]
  rw [e]
  rcases (by omega : j = j / 2 * 2 ∨ j = j / 2 * 2 + 1) with h2 | h2
  · rw [h2, d1] at hj; rw [h2, c1]; exact hj
  · rw [h2, d2] at hj; rw [h2, show off + (j / 2 * 2 + 1) = off + j / 2 * 2 + 1 by omega, c2]; exact hj
theorem fs_one (fs : List Fld) : ∀ u ∈ cellsF fs, u.oneCell' = true := by
  intro u hu
  unfold cellsF at hu
  obtain ⟨f, _, hf⟩ := List.mem_flatMap.1 hu
  simp at hf
  rcases hf with rfl | rfl <;> rfl
/-- 'append(l, x...)', l the call's own, x fields that lie anywhere. -/
theorem wpList_append_fsB {w : World} {ops : Array Oper} {rest : List Oper} {o : Oper} {a : Act} {Q : Exit → Act → World → Prop} (hgd : o.guard = none) (s x : Operand)
    (ho : o.op = .call { callee := .builtin .append, args := #[s, x], argTypes := #[45, 45] })
    (base : Nat) (v : Value) (fs : List Fld) (hs : a.eval s = v) (hown : w.ownsRow base 57 2 v fs.length (cellsF fs))
    (A : Option Addr) (m c : Nat) (gs : List Fld) (hx : a.eval x = .slice A m c) (hf : IsFs w A m gs)
    (h63 : (fs.length + m) * 24 ≤ 140737488355328) (hbase : base ≤ w.heap.size)
    (h : ∀ v' w', w'.ownsRow base 57 2 v' (fs ++ gs).length (cellsF (fs ++ gs)) → w.grownBy w' v.ownBlock → wpList Try.prog ops Q rest (a.put o.dst v') w') :
    wpList Try.prog ops Q (o :: rest) a w := by
  obtain ⟨i0, hi, hz0, hz1, hz2⟩ := info_parts infoFld
  obtain ⟨hm, _, _, hat⟩ := hf
  rcases Nat.eq_zero_or_pos m with rfl | hp
  · have hg : gs = [] := List.eq_nil_of_length_eq_zero hm.symm
    subst hg
    refine wpList_plain hgd fun K hK => ?_
    have hrun := run_append_zero (P := Try.prog) (w := w) base 45 o.type 57 i0 2 Try.underlying45 hi v fs.length _ hown A c
    unfold Oper.wp
    simp [execOp, ho, resolve, invoke, builtin, hs, hx, hrun, Result.andThen]
    refine hK _ _ (h v w (by simpa using hown) ?_)
    exact ⟨rfl, rfl, rfl, Nat.le_refl _, fun _ _ _ => rfl⟩
  · obtain ⟨b, off, rfl, hb, hat⟩ := hat hp
    refine wpList_append_own_at w hgd s x 45 ho base 57 i0 (.agg #[.int .i64 0, .string ⟨#[]⟩]) 2 24 Try.underlying45 hi hz0 hz1 hz2 rfl (by decide) v fs.length _ hs hown ⟨b, off, none⟩ m c (cellsF gs) hx (by rw [cellsF_len, hm]) (fs_cells hat) (fs_one gs) (by unfold maxLen; omega) h63 hbase ?_
    intro v' w' h1 h2 _ _
    refine h v' w' ?_ h2
    rw [cellsF_append, List.length_append, ← hm]; exact h1
theorem isFs_nil (w : World) (A : Option Addr) : IsFs w A 0 [] := ⟨rfl, by unfold maxLen; omega, fun f h => by simp at h, fun h => by omega⟩
end Go.Proofs.Ytpnkkiokkhmjpaa
