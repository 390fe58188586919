import Derived.Test.YtpnkkiokkhmjpaaTabs
import Derived.Test.YtpnkkiokkhmjpaaFldCells
import Derived.Laws.OwnMore
/-
  Tables of a call's own (stage 12): rows of records, what they carry; append, store, erase.
-/
namespace Go.Proofs.Ytpnkkiokkhmjpaa
open Go.RowKit
set_option linter.unusedVariables false

/-- A record's cells; a row's. -/
def cells6 (p : Rcd × Value) : List Value := [.string p.1.key, .string p.1.value, .int .i64 p.1.rev, .int .i64 p.1.life, .string p.1.note, p.2]
def cellsT (l : List (Rcd × Value)) : List Value := l.flatMap cells6
theorem cellsT_append (a b : List (Rcd × Value)) : cellsT (a ++ b) = cellsT a ++ cellsT b := by simp [cellsT]
theorem cellsT_cons (p : Rcd × Value) (b : List (Rcd × Value)) : cellsT (p :: b) = cells6 p ++ cellsT b := by simp [cellsT]
theorem cellsT_len (l : List (Rcd × Value)) : (cellsT l).length = l.length * 6 := by
  induction l with
  | nil => rfl
  | cons p l ih => rw [cellsT_cons, List.length_append, ih]; simp [cells6]; omega
def zeroP : Rcd × Value := (zeroR, .slice none 0 0)
def atP (l : List (Rcd × Value)) (i : Nat) : Rcd × Value := l.getD i zeroP
theorem atP_get {l : List (Rcd × Value)} {i : Nat} (h : i < l.length) : atP l i = l[i] := by unfold atP; rw [List.getD_eq_getElem?_getD, List.getElem?_eq_getElem h]; rfl
theorem atP_mem {l : List (Rcd × Value)} {i : Nat} (h : i < l.length) : atP l i ∈ l := by rw [atP_get h]; exact List.getElem_mem _
theorem take_succP {l : List (Rcd × Value)} {k : Nat} (h : k < l.length) : l.take (k + 1) = l.take k ++ [atP l k] := by rw [List.take_succ_eq_append_getElem h, atP_get h]
theorem cellsT_at (l : List (Rcd × Value)) (i j : Nat) (hi : i < l.length) (hj : j < 6) : (cellsT l)[i * 6 + j]? = (cells6 (atP l i))[j]? := by
  have e : l = l.take i ++ (atP l i :: l.drop (i + 1)) := by rw [atP_get hi, List.getElem_cons_drop, List.take_append_drop]
  have h2 : (cellsT l)[i * 6 + j]? = (cellsT (l.take i) ++ (cells6 (atP l i) ++ cellsT (l.drop (i + 1))))[i * 6 + j]? := by
    rw [← cellsT_cons, ← cellsT_append, ← e]
  rw [h2, List.getElem?_append_right (by rw [cellsT_len, List.length_take]; omega), cellsT_len, List.length_take, Nat.min_eq_left (by omega), Nat.add_sub_cancel_left, List.getElem?_append_left (by simp [cells6]; omega)]
theorem cellsT_six (l : List (Rcd × Value)) (i : Nat) (hi : i < l.length) : (cellsT l)[i * 6]? = some (.string (atP l i).1.key) ∧ (cellsT l)[i * 6 + 1]? = some (.string (atP l i).1.value) ∧ (cellsT l)[i * 6 + 2]? = some (.int .i64 (atP l i).1.rev) ∧ (cellsT l)[i * 6 + 3]? = some (.int .i64 (atP l i).1.life) ∧ (cellsT l)[i * 6 + 4]? = some (.string (atP l i).1.note) ∧ (cellsT l)[i * 6 + 5]? = some (atP l i).2 :=
  ⟨cellsT_at l i 0 hi (by omega), cellsT_at l i 1 hi (by omega), cellsT_at l i 2 hi (by omega), cellsT_at l i 3 hi (by omega), cellsT_at l i 4 hi (by omega), cellsT_at l i 5 hi (by omega)⟩
/-- Each record's last cell is a slice. -/
def SlP (l : List (Rcd × Value)) : Prop := ∀ p ∈ l, ∃ E m c, p.2 = .slice E m c
theorem cellsT_one {l : List (Rcd × Value)} (h : SlP l) : ∀ u ∈ cellsT l, u.oneCell' = true := by
  intro u hu
  unfold cellsT at hu
  obtain ⟨p, hp, hm⟩ := List.mem_flatMap.1 hu
  obtain ⟨E, m, c, e⟩ := h p hp
  simp [cells6] at hm
  rcases hm with rfl | rfl | rfl | rfl | rfl | rfl <;> first | rfl | (rw [e]; rfl)
/-- A row of a call's own. -/
def RowT (w : World) (base : Nat) (v : Value) (l : List (Rcd × Value)) : Prop := w.ownsRow base 47 6 v l.length (cellsT l)
theorem rowT_nil (w : World) (base : Nat) : RowT w base (.slice none 0 0) [] := World.ownsRow_nil _ _ _ _
theorem RowT.below {w w' : World} {base : Nat} {v : Value} {l : List (Rcd × Value)} (h : RowT w base v l) (hb : Below w.heap.size w w') : RowT w' base v l := ownsI_below h hb
theorem RowT.drew {w : World} {base : Nat} {v : Value} {l : List (Rcd × Value)} (h : RowT w base v l) : RowT w.drew base v l := h
theorem RowT.base {w : World} {a b : Nat} {v : Value} {l : List (Rcd × Value)} (h : b ≤ a) (hr : RowT w a v l) : RowT w b v l := by
  refine ⟨hr.1, ?_⟩
  rcases hr.2 with h2 | ⟨g, cap, cur, h1, h2, h3⟩
  · exact .inl h2
  · exact .inr ⟨g, cap, cur, h1, Nat.le_trans h h2, h3⟩
theorem RowT.new {w : World} {base n cap : Nat} {A : Option Addr} {l : List (Rcd × Value)} (h : RowT w base (.slice A n cap) l) : NewN base A n := fun _ b off hA => by
  subst hA
  exact (h.lt b rfl).1
/-- Six cells of a pair. -/
def PAt (w : World) (b o : Nat) (p : Rcd × Value) : Prop := RcAt w b o p.1 p.2
/-- A slice whose cells read as pairs. -/
def IsPs (w : World) (A : Option Addr) (n : Nat) (l : List (Rcd × Value)) : Prop :=
  n = l.length ∧ n ≤ maxLen ∧ (0 < n → ∃ b off, A = some ⟨b, off, none⟩ ∧ b < w.heap.size ∧ ∀ i, i < l.length → PAt w b (off + i * 6) (atP l i))
theorem IsPs.below {w w' : World} {A : Option Addr} {n : Nat} {l : List (Rcd × Value)} (h : IsPs w A n l) (hb : Below w.heap.size w w') : IsPs w' A n l := by
  obtain ⟨h1, h2, h3⟩ := h
  refine ⟨h1, h2, fun hn => ?_⟩
  obtain ⟨b, off, e, hlt, hc⟩ := h3 hn
  exact ⟨b, off, e, Nat.lt_of_lt_of_le hlt hb.size, fun i hi => RcAt.below (hc i hi) hb⟩
theorem IsPs.at {w W : World} {b off n i : Nat} {l : List (Rcd × Value)} (h : IsPs w (some ⟨b, off, none⟩) n l) (hi : i < l.length) (hb : Below w.heap.size w W) : PAt W b (off + i * 6) (atP l i) := by
  have h2 := h.below hb
  obtain ⟨b2, o2, hA, hlt, hc⟩ := h2.2.2 (by have := h.1; omega)
  simp only [Option.some.injEq, Addr.mk.injEq, and_true] at hA
  obtain ⟨rfl, rfl⟩ := hA
  exact hc i hi
theorem RowT.parts {w : World} {base : Nat} {v : Value} {l : List (Rcd × Value)} (h : RowT w base v l) : ∃ A cap, v = .slice A l.length cap ∧ l.length ≤ cap ∧ IsPs w A l.length l := by
  rcases h.2 with ⟨rfl, hv⟩ | ⟨g, cap, cur, hv, hg, hh, hnc, hcm, hcs, htk⟩
  · have : l.length = 0 := by omega
    exact ⟨none, 0, by simp_all, by omega, rfl, by unfold maxLen; omega, fun h => by omega⟩
  · subst hv
    refine ⟨_, cap, rfl, hnc, rfl, Nat.le_trans hnc hcm, fun _ => ⟨g, 0, rfl, lt_of_blk hh, fun i hi => ?_⟩⟩
    obtain ⟨e0, e1, e2, e3, e4, e5⟩ := cellsT_six l i hi
    rw [Nat.zero_add]
    exact ⟨(h.cellAt (i * 6) (by omega)).trans e0, (h.cellAt (i * 6 + 1) (by omega)).trans e1, (h.cellAt (i * 6 + 2) (by omega)).trans e2, (h.cellAt (i * 6 + 3) (by omega)).trans e3, (h.cellAt (i * 6 + 4) (by omega)).trans e4, (h.cellAt (i * 6 + 5) (by omega)).trans e5⟩
/-- What each record carries: fields that lie in a block of fields. -/
def FldT (w : World) (E : Option Addr) (m : Nat) : Prop := 0 < m → ∃ b off cs fr, E = some ⟨b, off, none⟩ ∧ w.heap[b]? = some (.cells cs 57 fr)
def ExAt (w : World) (p : Rcd × Value) : Prop := ∃ E m c, p.2 = .slice E m c ∧ m ≤ c ∧ IsFs w E m p.1.extra ∧ FldT w E m
def ExT (w : World) (l : List (Rcd × Value)) : Prop := ∀ p ∈ l, RcW p.1 ∧ ExAt w p
theorem ExT.sl {w : World} {l : List (Rcd × Value)} (h : ExT w l) : SlP l := fun p hp => by
  obtain ⟨_, E, m, c, e, _⟩ := h p hp
  exact ⟨E, m, c, e⟩
theorem ExT.nil (w : World) : ExT w [] := fun p h => nomatch h
theorem ExT.append {w : World} {a b : List (Rcd × Value)} (h : ExT w a) (h2 : ExT w b) : ExT w (a ++ b) := fun p hp => by
  rcases List.mem_append.1 hp with h3 | h3
  · exact h p h3
  · exact h2 p h3
theorem ExT.one {w : World} {p : Rcd × Value} (h : RcW p.1) (h2 : ExAt w p) : ExT w [p] := fun x hx => by rw [List.mem_singleton] at hx; rw [hx]; exact ⟨h, h2⟩
theorem FldT.below {w w' : World} {E : Option Addr} {m : Nat} (h : FldT w E m) (hb : Below w.heap.size w w') : FldT w' E m := fun hm => by
  obtain ⟨b, off, cs, fr, e, hh⟩ := h hm
  exact ⟨b, off, cs, fr, e, (hb.block b (lt_of_blk hh)).trans hh⟩
theorem ExAt.below {w w' : World} {p : Rcd × Value} (h : ExAt w p) (hb : Below w.heap.size w w') : ExAt w' p := by
  obtain ⟨E, m, c, e, hc, hf, ht⟩ := h
  exact ⟨E, m, c, e, hc, hf.below hb, ht.below hb⟩
theorem ExT.below {w w' : World} {l : List (Rcd × Value)} (h : ExT w l) (hb : Below w.heap.size w w') : ExT w' l := fun p hp => ⟨(h p hp).1, (h p hp).2.below hb⟩
theorem ExT.drew {w : World} {l : List (Rcd × Value)} (h : ExT w l) : ExT w.drew l := h
/-- A step that turns a block of records alone turns nothing that is carried. -/
theorem ExAt.kept2 {w w' : World} {p : Rcd × Value} {row : Option Nat} (h : ExAt w p) (hg : w.grownBy w' row) (hr : ∀ g, row = some g → ∃ cs T fr, w.heap[g]? = some (.cells cs T fr) ∧ T ≠ 57) : ExAt w' p := by
  obtain ⟨E, m, c, e, hc, hf, ht⟩ := h
  have key : 0 < m → ∀ b off, E = some ⟨b, off, none⟩ → w'.heap[b]? = w.heap[b]? ∧ b < w'.heap.size ∧ ∃ cs fr, w.heap[b]? = some (.cells cs 57 fr) := fun hm b off e2 => by
    obtain ⟨b2, o2, cs, fr, e3, hh⟩ := ht hm
    rw [e2] at e3
    simp only [Option.some.injEq, Addr.mk.injEq, and_true] at e3
    obtain ⟨rfl, rfl⟩ := e3
    have hne : some b ≠ row := fun e4 => by
      obtain ⟨cs2, T2, fr2, h2, hT⟩ := hr b e4.symm
      rw [hh] at h2
      simp only [Option.some.injEq, Obj.cells.injEq] at h2
      exact hT h2.2.1.symm
    exact ⟨hg.block b (lt_of_blk hh) hne, Nat.lt_of_lt_of_le (lt_of_blk hh) hg.size, cs, fr, hh⟩
  refine ⟨E, m, c, e, hc, ?_, fun hm => ?_⟩
  · obtain ⟨h1, h2, h3, h4⟩ := hf
    refine ⟨h1, h2, h3, fun hm => ?_⟩
    obtain ⟨b, off, e2, hlt, hat⟩ := h4 hm
    obtain ⟨hk, hl, _⟩ := key hm b off e2
    refine ⟨b, off, e2, hl, fun i hi => ?_⟩
    have hkc : ∀ i, w'.cell? ⟨b, i, none⟩ = w.cell? ⟨b, i, none⟩ := fun i => by
      unfold World.cell?
      rw [show (⟨b, i, none⟩ : Addr).block = b from rfl, hk]
    rw [hkc, hkc]
    exact hat i hi
  · obtain ⟨b, off, cs, fr, e2, hh⟩ := ht hm
    exact ⟨b, off, cs, fr, e2, (key hm b off e2).1.trans hh⟩
theorem ExAt.kept {w w' : World} {p : Rcd × Value} {row : Option Nat} (h : ExAt w p) (hg : w.grownBy w' row) (hr : ∀ g, row = some g → ∃ cs fr, w.heap[g]? = some (.cells cs 47 fr)) : ExAt w' p :=
  h.kept2 hg fun g e => by obtain ⟨cs, fr, h2⟩ := hr g e; exact ⟨cs, _, fr, h2, by decide⟩
theorem ExT.kept2 {w w' : World} {l : List (Rcd × Value)} {row : Option Nat} (h : ExT w l) (hg : w.grownBy w' row) (hr : ∀ g, row = some g → ∃ cs T fr, w.heap[g]? = some (.cells cs T fr) ∧ T ≠ 57) : ExT w' l := fun p hp => ⟨(h p hp).1, (h p hp).2.kept2 hg hr⟩
theorem ExT.kept {w w' : World} {l : List (Rcd × Value)} {row : Option Nat} (h : ExT w l) (hg : w.grownBy w' row) (hr : ∀ g, row = some g → ∃ cs fr, w.heap[g]? = some (.cells cs 47 fr)) : ExT w' l := fun p hp => ⟨(h p hp).1, (h p hp).2.kept hg hr⟩
theorem RowT.block {w : World} {base : Nat} {v : Value} {l : List (Rcd × Value)} (h : RowT w base v l) : ∀ g, v.ownBlock = some g → ∃ cs fr, w.heap[g]? = some (.cells cs 47 fr) := by
  intro g hg
  rcases h.2 with ⟨rfl, _⟩ | ⟨g2, cap, cur, rfl, _, hh, _⟩
  · simp [Value.ownBlock] at hg
  · have : g2 = g := by simpa [Value.ownBlock] using hg
    subst this
    exact ⟨_, _, hh⟩
theorem atP_map (l : List (Rcd × Value)) {i : Nat} (h : i < l.length) : (atP l i).1 = atR (l.map Prod.fst) i := by
  rw [atP_get h, atR_get (by simpa using h), List.getElem_map]
theorem RowT.isTs {w : World} {base : Nat} {v : Value} {l : List (Rcd × Value)} (h : RowT w base v l) (hx : ExT w l) :
    ∃ A cap, v = .slice A l.length cap ∧ l.length ≤ cap ∧ IsTs w A l.length (l.map Prod.fst) := by
  obtain ⟨A, cap, hv, hc, h1, h2, h3⟩ := h.parts
  refine ⟨A, cap, hv, hc, by simp, h2, fun r hr => ?_, fun hn => ?_⟩
  · obtain ⟨p, hp, rfl⟩ := List.mem_map.1 hr
    exact (hx p hp).1
  · obtain ⟨b, off, e, hlt, hat⟩ := h3 hn
    refine ⟨b, off, e, hlt, fun i hi => ?_⟩
    have hi2 : i < l.length := by simpa using hi
    obtain ⟨E, m, c, e2, hmc, hf, _⟩ := (hx _ (atP_mem hi2)).2
    have := hat i hi2
    unfold PAt at this
    rw [e2, atP_map l hi2] at this
    rw [atP_map l hi2] at hf
    exact ⟨E, m, c, this, hmc, hf⟩
theorem infoR : (Try.prog.info? 47).map (fun i => (i.zero, i.size, i.bytes)) = some (some (.agg #[.string ⟨#[]⟩, .string ⟨#[]⟩, .int .i64 0, .int .i64 0, .string ⟨#[]⟩, .slice none 0 0]), 6, 88) := by kernel_rfl
theorem addr_add (b off j : Nat) : (⟨b, off, none⟩ : Addr).add j = ⟨b, off + j, none⟩ := by
  by_cases h0 : j = 0
  · subst h0; simp [Addr.add]
  · simp [Addr.add, h0]
theorem pairs_cells {w : World} {b off : Nat} {l : List (Rcd × Value)} (h : ∀ i, i < l.length → PAt w b (off + i * 6) (atP l i)) : ∀ j u, (cellsT l)[j]? = some u → w.cell? ((⟨b, off, none⟩ : Addr).add j) = some u := by
  intro j u hj
  have hl : j < l.length * 6 := by rw [← cellsT_len]; exact (List.getElem?_eq_some_iff.1 hj).1
  obtain ⟨c0, c1, c2, c3, c4, c5⟩ := h (j / 6) (by omega)
  obtain ⟨d0, d1, d2, d3, d4, d5⟩ := cellsT_six l (j / 6) (by omega)
  rw [addr_add]
  rcases (by omega : j = j / 6 * 6 ∨ j = j / 6 * 6 + 1 ∨ j = j / 6 * 6 + 2 ∨ j = j / 6 * 6 + 3 ∨ j = j / 6 * 6 + 4 ∨ j = j / 6 * 6 + 5) with h2 | h2 | h2 | h2 | h2 | h2
  · rw [h2, d0] at hj; rw [h2, c0]; exact hj
  · rw [h2, d1] at hj; rw [h2, show off + (j / 6 * 6 + 1) = off + j / 6 * 6 + 1 by omega, c1]; exact hj
  · rw [h2, d2] at hj; rw [h2, show off + (j / 6 * 6 + 2) = off + j / 6 * 6 + 2 by omega, c2]; exact hj
  · rw [h2, d3] at hj; rw [h2, show off + (j / 6 * 6 + 3) = off + j / 6 * 6 + 3 by omega, c3]; exact hj
  · rw [h2, d4] at hj; rw [h2, show off + (j / 6 * 6 + 4) = off + j / 6 * 6 + 4 by omega, c4]; exact hj
  · rw [h2, d5] at hj; rw [h2, show off + (j / 6 * 6 + 5) = off + j / 6 * 6 + 5 by omega, c5]; exact hj
/-- 'append(l, x...)', l the call's own, x pairs that lie anywhere (in l's own block, too). -/
theorem wpList_append_tab {w : World} {ops : Array Oper} {rest : List Oper} {o : Oper} {a : Act} {Q : Exit → Act → World → Prop} (hgd : o.guard = none) (s x : Operand)
    (ho : o.op = .call { callee := .builtin .append, args := #[s, x], argTypes := #[23, 23] })
    (base : Nat) (v : Value) (l : List (Rcd × Value)) (hs : a.eval s = v) (hown : RowT w base v l)
    (A : Option Addr) (m c : Nat) (k : List (Rcd × Value)) (hx : a.eval x = .slice A m c) (hf : IsPs w A m k) (hk1 : SlP k)
    (h63 : (l.length + m) * 88 ≤ 140737488355328) (hbase : base ≤ w.heap.size)
    (h : ∀ v' w', RowT w' base v' (l ++ k) → w.grownBy w' v.ownBlock → wpList Try.prog ops Q rest (a.put o.dst v') w') :
    wpList Try.prog ops Q (o :: rest) a w := by
  obtain ⟨i0, hi, hz0, hz1, hz2⟩ := info_parts infoR
  obtain ⟨hm, _, hat⟩ := hf
  rcases Nat.eq_zero_or_pos m with rfl | hp
  · have hg : k = [] := List.eq_nil_of_length_eq_zero hm.symm
    subst hg
    refine wpList_plain hgd fun K hK => ?_
    have hrun := run_append_zeroI (P := Try.prog) (w := w) base 23 o.type 47 i0 6 Try.underlying23 hi v l.length _ hown A c
    unfold Oper.wp
    simp [execOp, ho, resolve, invoke, builtin, hs, hx, hrun, Result.andThen]
    refine hK _ _ (h v w (by simpa using hown) ?_)
    exact ⟨rfl, rfl, rfl, Nat.le_refl _, fun _ _ _ => rfl⟩
  · obtain ⟨b, off, rfl, hb, hat⟩ := hat hp
    refine wpList_append_own_at w hgd s x 23 ho base 47 i0 (.agg #[.string ⟨#[]⟩, .string ⟨#[]⟩, .int .i64 0, .int .i64 0, .string ⟨#[]⟩, .slice none 0 0]) 6 88 Try.underlying23 hi hz0 hz1 hz2 rfl (by decide) v l.length _ hs hown ⟨b, off, none⟩ m c (cellsT k) hx (by rw [cellsT_len, hm]) (pairs_cells hat) (cellsT_one hk1) (by unfold maxLen; omega) h63 hbase ?_
    intro v' w' h1 h2 _ _
    refine h v' w' ?_ h2
    unfold RowT
    rw [cellsT_append, List.length_append, ← hm]; exact h1
/-- One record's block, as a slice. -/
theorem isPs_one (w : World) (p : Rcd × Value) : IsPs (w.alloc (.cells #[.string p.1.key, .string p.1.value, .int .i64 p.1.rev, .int .i64 p.1.life, .string p.1.note, p.2] 47)) (some ⟨w.heap.size, 0, none⟩) 1 [p] := by
  have hx := World.alloc_heap_new w (.cells #[.string p.1.key, .string p.1.value, .int .i64 p.1.rev, .int .i64 p.1.life, .string p.1.note, p.2] 47)
  refine ⟨rfl, by unfold maxLen; omega, fun _ => ⟨w.heap.size, 0, rfl, by simp, fun i hi => ?_⟩⟩
  have : i = 0 := by simpa using hi
  subst this
  exact ⟨cell_blk hx 0, cell_blk hx 1, cell_blk hx 2, cell_blk hx 3, cell_blk hx 4, cell_blk hx 5⟩
/-- A store into a record of the row. -/
theorem cellsT_set (l : List (Rcd × Value)) (i j : Nat) (u : Value) (q : Rcd × Value) (hi : i < l.length) (hj : j < 6) (hq : cells6 q = (cells6 (atP l i)).set j u) : (cellsT l).set (i * 6 + j) u = cellsT (l.set i q) := by
  have e : l = l.take i ++ (atP l i :: l.drop (i + 1)) := by rw [atP_get hi, List.getElem_cons_drop, List.take_append_drop]
  have hl : (l.take i).length = i := by rw [List.length_take]; omega
  have e2 : l.set i q = l.take i ++ (q :: l.drop (i + 1)) := by rw [List.set_eq_take_append_cons_drop, if_pos hi]
  have h2 : (cellsT l).set (i * 6 + j) u = (cellsT (l.take i) ++ (cells6 (atP l i) ++ cellsT (l.drop (i + 1)))).set (i * 6 + j) u := by
    rw [← cellsT_cons, ← cellsT_append, ← e]
  rw [h2, List.set_append_right _ _ (by rw [cellsT_len, hl]; omega), cellsT_len, hl, Nat.add_sub_cancel_left, List.set_append_left _ _ (by simp [cells6]; omega), ← hq, ← cellsT_cons, ← cellsT_append, ← e2]
theorem RowT.set {w : World} {base g n cap : Nat} {l : List (Rcd × Value)} (h : RowT w base (.slice (some ⟨g, 0, none⟩) n cap) l) (i j : Nat) (u : Value) (q : Rcd × Value) (hi : i < l.length) (hj : j < 6) (hq : cells6 q = (cells6 (atP l i)).set j u) :
    RowT (w.setCell ⟨g, i * 6 + j, none⟩ u) base (.slice (some ⟨g, 0, none⟩) n cap) (l.set i q) ∧ w.grownBy (w.setCell ⟨g, i * 6 + j, none⟩ u) (some g) := by
  have hn : n = l.length := by
    rcases h.2 with ⟨h', _⟩ | ⟨g', cap', cur, h', _⟩
    · simp at h'
    · simp only [Value.slice.injEq] at h'; exact h'.2.1
  subst hn
  obtain ⟨h1, h2⟩ := World.ownsRow.stored h (i * 6 + j) u
  refine ⟨?_, h2⟩
  unfold RowT
  rw [List.length_set, ← cellsT_set l i j u q hi hj hq]
  exact h1
end Go.Proofs.Ytpnkkiokkhmjpaa
