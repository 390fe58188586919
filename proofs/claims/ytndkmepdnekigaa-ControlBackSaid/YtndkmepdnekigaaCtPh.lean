import Derived.Test.YtndkmepdnekigaaCtPg
import Derived.Lib.Overlaps
import Derived.Lib.AppendZerosOnto
import Derived.Laws.IdiomCopy
/-
  The contracts of slices.Insert and slices.Delete of records in a row of the call's own (stage 18).
-/
namespace Go.Proofs.Ytndkmepdnekigaa
open Go.RowKit
set_option linter.unusedVariables false
set_option linter.unusedSimpArgs false

abbrev cellM (q : MbR) : List Value := s2.f q
abbrev cellsM (l : List MbR) : List Value := cellsG s2 l
theorem cellsM_len (l : List MbR) : (cellsM l).length = l.length * 2 := cellsG_len l
theorem gb_set (w : World) (g j : Nat) (u : Value) : w.grownBy (w.setCell ⟨g, j, none⟩ u) (some g) :=
  ⟨rfl, rfl, rfl, by simp, fun k _ hk => heap_setCell_other w ⟨g, j, none⟩ k u (fun e => hk (by simp [e]))⟩
abbrev RowM (w : World) (base : Nat) (v : Value) (l : List MbR) : Prop := RowG s2 45 w base v l
theorem addr_addM (b o j : Nat) : ((⟨b, o, none⟩ : Addr).add j) = ⟨b, o + j, none⟩ := by
  by_cases h0 : j = 0
  · subst h0; simp [Addr.add]
  · simp [Addr.add, h0]
/-- Cells of a block set one by one. -/
def setsA : Array Value → Nat → List Value → Array Value
  | cur, _, [] => cur
  | cur, o, v :: r => setsA (cur.setIfInBounds o v) (o + 1) r
theorem blk_sets {g : Nat} {T : TypeId} : ∀ (vs : List Value) (o : Nat) (cur : Array Value) (W : World), Blk W g (.cells cur T (0, 0)) → Blk (W.setCells g o vs) g (.cells (setsA cur o vs) T (0, 0))
  | [], _, _, _, h => h
  | v :: r, o, cur, W, h => blk_sets r (o + 1) _ _ (Blk.set h o v _ rfl)
theorem setsA_size : ∀ (vs : List Value) (o : Nat) (cur : Array Value), (setsA cur o vs).size = cur.size
  | [], _, _ => rfl
  | v :: r, o, cur => by rw [setsA, setsA_size r]; simp
theorem setsA_list : ∀ (vs : List Value) (o : Nat) (cur : Array Value), o + vs.length ≤ cur.size → (setsA cur o vs).toList = cur.toList.take o ++ (vs ++ cur.toList.drop (o + vs.length))
  | [], o, cur, _ => by simp [setsA]
  | v :: r, o, cur, h => by
    rw [List.length_cons] at h
    have ho : o < cur.toList.length := by simp; omega
    rw [setsA, setsA_list r (o + 1) _ (by simp; omega), Array.toList_setIfInBounds, List.set_eq_take_append_cons_drop, if_pos ho]
    have hl : (cur.toList.take o).length = o := by rw [List.length_take]; omega
    have e1 : (cur.toList.take o ++ v :: cur.toList.drop (o + 1)).take (o + 1) = cur.toList.take o ++ [v] := by
      rw [List.take_append, hl, List.take_of_length_le (by rw [hl]; omega), show o + 1 - o = 1 by omega]
      rfl
    have e2 : (cur.toList.take o ++ v :: cur.toList.drop (o + 1)).drop (o + 1 + r.length) = cur.toList.drop (o + (v :: r).length) := by
      rw [List.drop_append, hl, List.drop_of_length_le (by rw [hl]; omega), show o + 1 + r.length - o = r.length + 1 by omega, List.nil_append, List.drop_succ_cons, List.drop_drop, List.length_cons, show o + 1 + r.length = o + (r.length + 1) by omega]
    rw [e1, e2, List.append_assoc]
    rfl
theorem gb_sets (g : Nat) : ∀ (vs : List Value) (o : Nat) (w : World), w.grownBy (w.setCells g o vs) (some g)
  | [], _, w => ⟨rfl, rfl, rfl, Nat.le_refl _, fun _ _ _ => rfl⟩
  | v :: r, o, w => (gb_set w g o v).trans (gb_sets g r (o + 1) _)
theorem gb_drew (w : World) (row : Option Nat) : w.grownBy w.drew row := ⟨rfl, rfl, rfl, Nat.le_refl _, fun _ _ _ => rfl⟩
theorem sets_drew (b : Nat) : ∀ (vs : List Value) (o : Nat) (w : World), w.drew.setCells b o vs = (w.setCells b o vs).drew
  | [], _, _ => rfl
  | v :: r, o, w => sets_drew b r (o + 1) (w.setCell ⟨b, o, none⟩ v)
theorem cellM_len (p : MbR) : (cellM p).length = 2 := rfl
theorem take_cellsM {l : List (MbR)} {i : Nat} (hi : i ≤ l.length) : (cellsM l).take (i * 2) = cellsM (l.take i) := by
  have hl : (l.take i).length = i := by rw [List.length_take]; omega
  have e : cellsM l = cellsM (l.take i) ++ cellsM (l.drop i) := by rw [← cellsG_append, List.take_append_drop]
  rw [e, List.take_left' (by rw [cellsM_len, hl])]
theorem drop_cellsM {l : List (MbR)} {i : Nat} (hi : i ≤ l.length) : (cellsM l).drop (i * 2) = cellsM (l.drop i) := by
  have hl : (l.take i).length = i := by rw [List.length_take]; omega
  have e : cellsM l = cellsM (l.take i) ++ cellsM (l.drop i) := by rw [← cellsG_append, List.take_append_drop]
  rw [e, List.drop_left' (by rw [cellsM_len, hl])]
/-- A block that holds so many records, as a row. -/
theorem rowM_blk {W : World} {base g cap n : Nat} {cur : Array Value} {l : List (MbR)} (hb : base ≤ g) (hk : Blk W g (.cells cur 45 (0, 0))) (hs : cur.size = cap * 2) (hc : cap ≤ maxLen) (hl : l.length = n) (hn : n ≤ cap) (ht : cur.toList.take (n * 2) = cellsM l) : RowM W base (.slice (some ⟨g, 0, none⟩) n cap) l :=
  ⟨cellsM_len l, .inr ⟨g, cap, cur, by rw [hl], hb, hk, by rw [hl]; exact hn, hc, hs, by rw [hl]; exact ht⟩⟩
theorem rowM_has {W : World} {base g cap n : Nat} {l : List (MbR)} (h : RowM W base (.slice (some ⟨g, 0, none⟩) n cap) l) : ∃ cur, base ≤ g ∧ Blk W g (.cells cur 45 (0, 0)) ∧ cur.size = cap * 2 ∧ cap ≤ maxLen ∧ n = l.length ∧ n ≤ cap ∧ cur.toList.take (n * 2) = cellsM l := by
  rcases h.2 with ⟨h1, _⟩ | ⟨g2, cap2, cur, h1, hb, hh, hnc, hcm, hcs, htk⟩
  · simp at h1
  · simp only [Value.slice.injEq, Option.some.injEq, Addr.mk.injEq, and_true] at h1
    obtain ⟨rfl, rfl, rfl⟩ := h1
    exact ⟨cur, hb, hh, hcs, hcm, rfl, hnc, htk⟩
theorem ins_lenM {l : List (MbR)} {q : MbR} {i : Nat} (hi : i ≤ l.length) : (l.take i ++ q :: l.drop i).length = l.length + 1 := by
  rw [List.length_append, List.length_cons, List.length_take, List.length_drop]; omega
theorem ins_cellsM {l : List (MbR)} {q : MbR} {i : Nat} : cellsM (l.take i ++ q :: l.drop i) = cellsM (l.take i) ++ (cellM q ++ cellsM (l.drop i)) := cellsG_append _ _
/-- What the two writes of an insertion leave, in either order. -/
theorem rowM_shift {W : World} {base g cap i : Nat} {cur : Array Value} {l : List (MbR)} {q : MbR} (hb : base ≤ g) (hk : Blk W g (.cells cur 45 (0, 0))) (hs : cur.size = cap * 2) (hc : cap ≤ maxLen) (hn : l.length + 1 ≤ cap) (hi : i ≤ l.length) (ht : cur.toList.take (i * 2) = cellsM (l.take i)) :
    RowM ((W.setCells g ((i + 1) * 2) (cellsM (l.drop i))).setCells g (i * 2) (cellM q)) base (.slice (some ⟨g, 0, none⟩) (l.length + 1) cap) (l.take i ++ q :: l.drop i) := by
  have hd : (cellsM (l.drop i)).length = (l.length - i) * 2 := by rw [cellsM_len, List.length_drop]
  have hcl : cur.toList.length = cap * 2 := by simp [hs]
  have hT : (cellsM (l.take i)).length = i * 2 := by rw [cellsM_len, List.length_take]; omega
  refine rowM_blk hb (blk_sets _ _ _ _ (blk_sets _ _ _ _ hk)) (by rw [setsA_size, setsA_size]; exact hs) hc (ins_lenM hi) hn ?_
  rw [setsA_list _ _ _ (by rw [setsA_size, cellM_len]; omega), setsA_list _ _ _ (by rw [hd]; omega), ins_cellsM]
  have e1 : (cur.toList.take ((i + 1) * 2) ++ (cellsM (l.drop i) ++ cur.toList.drop ((i + 1) * 2 + (cellsM (l.drop i)).length))).take (i * 2) = cellsM (l.take i) := by
    rw [List.take_append_of_le_length (by rw [List.length_take]; omega), List.take_take, Nat.min_eq_left (by omega)]; exact ht
  have e2 : (cur.toList.take ((i + 1) * 2) ++ (cellsM (l.drop i) ++ cur.toList.drop ((i + 1) * 2 + (cellsM (l.drop i)).length))).drop (i * 2 + (cellM q).length) = cellsM (l.drop i) ++ cur.toList.drop ((i + 1) * 2 + (cellsM (l.drop i)).length) := by
    rw [List.drop_left' (by rw [List.length_take, cellM_len]; omega)]
  rw [e1, e2, ← List.append_assoc, ← List.append_assoc, List.append_assoc (cellsM (l.take i)), List.take_left' (by rw [List.length_append, List.length_append, hT, cellM_len, hd]; omega)]
theorem rowM_shift2 {W : World} {base g cap i : Nat} {cur : Array Value} {l : List (MbR)} {q : MbR} (hb : base ≤ g) (hk : Blk W g (.cells cur 45 (0, 0))) (hs : cur.size = cap * 2) (hc : cap ≤ maxLen) (hn : l.length + 1 ≤ cap) (hi : i ≤ l.length) (ht : cur.toList.take (i * 2) = cellsM (l.take i)) :
    RowM ((W.setCells g (i * 2) (cellM q)).setCells g ((i + 1) * 2) (cellsM (l.drop i))) base (.slice (some ⟨g, 0, none⟩) (l.length + 1) cap) (l.take i ++ q :: l.drop i) := by
  have hd : (cellsM (l.drop i)).length = (l.length - i) * 2 := by rw [cellsM_len, List.length_drop]
  have hcl : cur.toList.length = cap * 2 := by simp [hs]
  have hT : (cellsM (l.take i)).length = i * 2 := by rw [cellsM_len, List.length_take]; omega
  refine rowM_blk hb (blk_sets _ _ _ _ (blk_sets _ _ _ _ hk)) (by rw [setsA_size, setsA_size]; exact hs) hc (ins_lenM hi) hn ?_
  rw [setsA_list _ _ _ (by rw [setsA_size, hd]; omega), setsA_list _ _ _ (by rw [cellM_len]; omega), ins_cellsM, ht]
  have e1 : (cellsM (l.take i) ++ (cellM q ++ cur.toList.drop (i * 2 + (cellM q).length))).take ((i + 1) * 2) = cellsM (l.take i) ++ cellM q := by
    rw [← List.append_assoc, List.take_left' (by rw [List.length_append, hT, cellM_len]; omega)]
  rw [e1, ← List.append_assoc, List.take_left' (by rw [List.length_append, List.length_append, hT, cellM_len, hd]; omega), List.append_assoc]
/-- 'copy(d, x)' of records, both in blocks whose cells are known. -/
theorem run_copyM (w : World) (ty : TypeId) (b o dLen dCap : Nat) (a : Addr) (sLen sCap k : Nat) (cs : List Value) (hk : Nat.min sLen dLen = k) (hn : cs.length = k * 2)
    (hsrc : ∀ j v, cs[j]? = some v → w.cell? (a.add j) = some v) (hc : ∀ j, j < cs.length → (w.cell? ⟨b, o + j, none⟩).isSome = true) (hf : ∀ j, j < cs.length → w.frozen? ⟨b, o + j, none⟩ = false) (h1 : ∀ v ∈ cs, v.oneCell' = true) :
    (Builtin.copy_ #[23, 23] ty #[.slice (some ⟨b, o, none⟩) dLen dCap, .slice (some a) sLen sCap]).run Try.prog w = .ok (.int .i64 k) (w.setCells b o cs) := by
  obtain ⟨i0, hi, _, hz1, _⟩ := info_parts infoM
  have hl := run_loadCells_list (P := Try.prog) w a cs hsrc
  have hst := run_storeCells_cells (P := Try.prog) b o cs 0 w (by simpa using hc) (by simpa using hf) h1
  rw [hn] at hl
  simp [Builtin.copy_, run_underlying Try.underlying23, Builtin.lenOf, Builtin.firstCells, sizeOf, typeInfo, hi, hz1, hk, hl, hst, goInt]
/-- A builtin's call whose run is known. -/
theorem wpList_copyM {w : World} {ops : Array Oper} {rest : List Oper} {o : Oper} {a : Act} {Q : Exit → Act → World → Prop} (hgd : o.guard = none) (d x : Operand)
    (ho : o.op = .call { callee := .builtin .copy, args := #[d, x], argTypes := #[23, 23] }) (v u : Value) (hd : a.eval d = v) (hx : a.eval x = u) {v1 : Value} {w1 : World}
    (hr : (Builtin.copy_ #[23, 23] o.type #[v, u]).run Try.prog w = .ok v1 w1) (h : wpList Try.prog ops Q rest (a.put o.dst v1) w1) : wpList Try.prog ops Q (o :: rest) a w := by
  refine wpList_plain hgd fun K hK => ?_
  unfold Oper.wp execOp
  simp only [ho, resolve, invoke, builtin, Sem.run_bind, Sem.run_pure, Result.andThen_ok, List.map_toArray, List.map_cons, List.map_nil, hd, hx, hr]
  exact hK _ _ h
theorem step_copyM {w : World} {ops : Array Oper} {o : Oper} {a : Act} {K : Act → World → Prop} {Q : Exit → Act → World → Prop} {E : Prop} (hgd : o.guard = none) (d x : Operand)
    (ho : o.op = .call { callee := .builtin .copy, args := #[d, x], argTypes := #[23, 23] }) (v u : Value) (hd : a.eval d = v) (hx : a.eval x = u) {v1 : Value} {w1 : World}
    (hr : (Builtin.copy_ #[23, 23] o.type #[v, u]).run Try.prog w = .ok v1 w1) (h : K (a.put o.dst v1) w1) :
    if Region.wanted o (yielded ops a.tmps) = true then Oper.wp Try.prog o a w K Q else E := by
  have hw : Region.wanted o (yielded ops a.tmps) = true := by simp [Region.wanted, hgd]
  rw [if_pos hw]
  unfold Oper.wp execOp
  simp only [ho, resolve, invoke, builtin, Sem.run_bind, Sem.run_pure, Result.andThen_ok, List.map_toArray, List.map_cons, List.map_nil, hd, hx, hr]
  exact h
theorem blk_some {W : World} {g : Nat} {cur : Array Value} {T : TypeId} (h : Blk W g (.cells cur T (0, 0))) {j : Nat} (hj : j < cur.size) : (W.cell? ⟨g, j, none⟩).isSome = true := by
  rw [Blk.cell h j, Array.getElem?_eq_getElem hj]; rfl
/-- Cells of records that stand in a block from a place on. -/
theorem blk_cells {W : World} {g o : Nat} {cur : Array Value} {T : TypeId} {cs : List Value} (h : Blk W g (.cells cur T (0, 0))) (hc : (cur.toList.drop o).take cs.length = cs) : ∀ j u, cs[j]? = some u → W.cell? ((⟨g, o, none⟩ : Addr).add j) = some u := by
  intro j u hj
  have hl : j < cs.length := (List.getElem?_eq_some_iff.1 hj).1
  rw [addr_addM, Blk.cell h, ← Array.getElem?_toList, ← hj]
  have e : cs[j]? = ((cur.toList.drop o).take cs.length)[j]? := by rw [hc]
  rw [e, List.getElem?_take, if_pos hl, List.getElem?_drop]
end Go.Proofs.Ytndkmepdnekigaa
