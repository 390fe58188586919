import Derived.Test.YtljjbpgbddaekaaMailAwake
/-
  Steps for the laws of mail (stage 11): a list without one of its letters, slices of letters, append in a region that draws.
-/
namespace Go.Proofs.Ytljjbpgbddaekaa
open Go.RowKit
set_option linter.unusedVariables false
set_option linter.unusedSimpArgs false
theorem IsLs.cells {w W : World} {n k : Nat} {l : List Lt} {x : Lt} {b off : Nat} (h : IsLs w (some ⟨b, off, none⟩) n l) (hk : k < l.length) (hx : atL l k = x) (hb : Below w.heap.size w W) :
    W.cell? ⟨b, off + k * 3, none⟩ = some (.int .i64 x.frm) ∧ W.cell? ⟨b, off + k * 3 + 1, none⟩ = some (.int .i64 x.to) ∧ W.cell? ⟨b, off + k * 3 + 2, none⟩ = some (.string x.bytes) := by
  have h2 := h.below hb
  obtain ⟨b2, o2, hA, hlt, hc⟩ := h2.2.2.2 (by have := h.1; omega)
  simp only [Option.some.injEq, Addr.mk.injEq, and_true] at hA
  obtain ⟨rfl, rfl⟩ := hA
  have := hc k hk
  rw [hx] at this
  exact this
theorem atL_take (l : List Lt) {i k : Nat} (h : i < k) : atL (l.take k) i = atL l i := by
  unfold atL; rw [List.getD_eq_getElem?_getD, List.getD_eq_getElem?_getD, List.getElem?_take_of_lt h]
theorem atL_drop (l : List Lt) (i k : Nat) : atL (l.drop k) i = atL l (k + i) := by
  unfold atL; rw [List.getD_eq_getElem?_getD, List.getD_eq_getElem?_getD, List.getElem?_drop]
theorem IsLs.take {w : World} {A : Option Addr} {n : Nat} {l : List Lt} (h : IsLs w A n l) {k : Nat} (hk : k ≤ n) : IsLs w A k (l.take k) := by
  obtain ⟨h1, h2, h3, h4⟩ := h
  refine ⟨by rw [List.length_take]; omega, by omega, fun m hm => h3 m (List.mem_of_mem_take hm), fun hp => ?_⟩
  obtain ⟨b, off, rfl, hb, hat⟩ := h4 (by omega)
  refine ⟨b, off, rfl, hb, fun i hi => ?_⟩
  rw [List.length_take] at hi
  rw [atL_take _ (by omega)]
  exact hat i (by omega)
theorem IsLs.drop {w : World} {b off n : Nat} {l : List Lt} (h : IsLs w (some ⟨b, off, none⟩) n l) {k : Nat} (hk : k ≤ n) {A : Option Addr} (hA : k < n → A = some ⟨b, off + k * 3, none⟩) : IsLs w A (n - k) (l.drop k) := by
  obtain ⟨h1, h2, h3, h4⟩ := h
  refine ⟨by rw [List.length_drop]; omega, by omega, fun m hm => h3 m (List.mem_of_mem_drop hm), fun hp => ?_⟩
  obtain ⟨b2, off2, e, hb, hat⟩ := h4 (by omega)
  simp only [Option.some.injEq, Addr.mk.injEq, and_true] at e
  obtain ⟨rfl, rfl⟩ := e
  refine ⟨b, off + k * 3, hA (by omega), hb, fun i hi => ?_⟩
  rw [List.length_drop] at hi
  rw [atL_drop]
  have := hat (k + i) (by omega)
  rw [show off + (k + i) * 3 = off + k * 3 + i * 3 by omega] at this
  exact this
theorem slice_ls_from {b off n cap k : Nat} (hk : k ≤ n) (hc : n ≤ cap) :
    ∃ A', (∀ W, (Instr.slice 23 (.slice (some ⟨b, off, none⟩) n cap) (some (.int .i64 (k : Int))) none none).run Try.prog W = .ok (.slice A' (n - k) (cap - k)) W) ∧ (k < n → A' = some ⟨b, off + k * 3, none⟩) := by
  refine ⟨if cap = k then some ⟨b, off, none⟩ else (some (⟨b, off, none⟩ : Addr)).map (·.add (k * 3)), fun W => ?_, fun h => ?_⟩
  · rw [run_slice_l W 23 _ n cap Try.underlying23 .i64 (k : Int) (by omega) (by omega), show Try.prog.elem 23 = 25 from by kernel_rfl, Try.sizeOf25]
    rfl
  · rw [if_neg (by omega)]
    rcases Nat.eq_zero_or_pos k with rfl | h0
    · simp [Addr.add]
    · simp [Addr.add]; omega
theorem step_append_ls {w : World} {ops : Array Oper} {o : Oper} {a : Act} {K : Act → World → Prop} {Q : Exit → Act → World → Prop} {E : Prop} (hgd : o.guard = none) (s x : Operand)
    (ho : o.op = .call { callee := .builtin .append, args := #[s, x], argTypes := #[23, 23] })
    (base : Nat) (v : Value) (l : List Lt) (hs : a.eval s = v) (hown : RowL w base v l)
    (A : Option Addr) (m c : Nat) (k : List Lt) (hx : a.eval x = .slice A m c) (hf : IsLs w A m k)
    (h63 : (l.length + m) * 32 ≤ 140737488355328) (hbase : base ≤ w.heap.size)
    (h : ∀ A2 cap2 w', RowL w' base (.slice A2 (l.length + m) cap2) (l ++ k) → w.grownBy w' v.ownBlock → K (a.put o.dst (.slice A2 (l.length + m) cap2)) w') :
    if Region.wanted o (yielded ops a.tmps) = true then Oper.wp Try.prog o a w K Q else E := by
  obtain ⟨i0, hi, hz0, hz1, hz2⟩ := info_parts infoL
  have hw : Region.wanted o (yielded ops a.tmps) = true := by simp [Region.wanted, hgd]
  rw [if_pos hw]
  obtain ⟨hm, _, _, hat⟩ := hf
  rcases Nat.eq_zero_or_pos m with rfl | hp
  · have hg : k = [] := List.eq_nil_of_length_eq_zero hm.symm
    subst hg
    have hrun := run_append_zeroI (P := Try.prog) (w := w) base 23 o.type 25 i0 3 Try.underlying23 hi v l.length _ hown A c
    obtain ⟨A2, cap2, hv⟩ := own_formL hown
    unfold Oper.wp execOp
    simp only [ho, resolve, invoke, builtin, Sem.run_bind, Sem.run_pure, Result.andThen_ok, List.map_toArray, List.map_cons, List.map_nil, hs, hx, hrun]
    rw [hv]
    refine h A2 cap2 w ?_ ⟨rfl, rfl, rfl, Nat.le_refl _, fun _ _ _ => rfl⟩
    rw [List.append_nil, Nat.add_zero, ← hv]; exact hown
  · obtain ⟨b, off, rfl, hb, hat⟩ := hat hp
    obtain ⟨v', w', hr, h2, h3, h4, h5⟩ := run_append_own_at (P := Try.prog) w base 23 o.type 25 i0 (.agg #[.int .i64 0, .int .i64 0, .string ⟨#[]⟩]) 3 32 Try.underlying23 hi hz0 hz1 hz2 rfl (by decide) v l.length _ hown ⟨b, off, none⟩ m c (cellsL k) (by rw [cellsL_len, hm]) (lets_cells hat) (cellsL_one k) (by unfold maxLen; omega) (by omega) hbase
    obtain ⟨A2, cap2, rfl⟩ := own_formL h2
    unfold Oper.wp execOp
    simp only [ho, resolve, invoke, builtin, Sem.run_bind, Sem.run_pure, Result.andThen_ok, List.map_toArray, List.map_cons, List.map_nil, hs, hx, hr]
    refine h _ _ w' ?_ h3
    unfold RowL
    rw [cellsL_append, List.length_append, ← hm]; exact h2
end Go.Proofs.Ytljjbpgbddaekaa
