import Derived.Test.YtgckoihangccbaaRp
import Derived.Maps.AppendAt
import Derived.OwnWalk
import Derived.WalkMore
import Derived.Laws.OwnMore
/-
  Caches of a call's own (stage 13): rows of clients' last calls, what they carry; append, store.
-/
namespace Go.Proofs.Ytgckoihangccbaa
open Go.RowKit
set_option linter.unusedVariables false

/-- A record's cells; a row's. -/
def cells6D (p : DnR × Value) : List Value := [.int .i64 p.1.client, .int .i64 p.1.id, .int .i64 p.1.rep.errno, .int .i64 p.1.rep.rev, .string p.1.rep.value, p.2]
def cellsD (l : List (DnR × Value)) : List Value := l.flatMap cells6D
theorem cellsD_append (a b : List (DnR × Value)) : cellsD (a ++ b) = cellsD a ++ cellsD b := by simp [cellsD]
theorem cellsD_cons (p : DnR × Value) (b : List (DnR × Value)) : cellsD (p :: b) = cells6D p ++ cellsD b := by simp [cellsD]
theorem cellsD_len (l : List (DnR × Value)) : (cellsD l).length = l.length * 6 := by
  induction l with
  | nil => rfl
  | cons p l ih => rw [cellsD_cons, List.length_append, ih]; simp [cells6D]; omega
def zeroQ : DnR × Value := (zeroD, .slice none 0 0)
def atQ (l : List (DnR × Value)) (i : Nat) : DnR × Value := l.getD i zeroQ
theorem atQ_get {l : List (DnR × Value)} {i : Nat} (h : i < l.length) : atQ l i = l[i] := by unfold atQ; rw [List.getD_eq_getElem?_getD, List.getElem?_eq_getElem h]; rfl
theorem atQ_mem {l : List (DnR × Value)} {i : Nat} (h : i < l.length) : atQ l i ∈ l := by rw [atQ_get h]; exact List.getElem_mem _
theorem take_succQ {l : List (DnR × Value)} {k : Nat} (h : k < l.length) : l.take (k + 1) = l.take k ++ [atQ l k] := by rw [List.take_succ_eq_append_getElem h, atQ_get h]
theorem cellsD_at (l : List (DnR × Value)) (i j : Nat) (hi : i < l.length) (hj : j < 6) : (cellsD l)[i * 6 + j]? = (cells6D (atQ l i))[j]? := by
  have e : l = l.take i ++ (atQ l i :: l.drop (i + 1)) := by rw [atQ_get hi, List.getElem_cons_drop, List.take_append_drop]
  have h2 : (cellsD l)[i * 6 + j]? = (cellsD (l.take i) ++ (cells6D (atQ l i) ++ cellsD (l.drop (i + 1))))[i * 6 + j]? := by
    rw [← cellsD_cons, ← cellsD_append, ← e]
  rw [h2, List.getElem?_append_right (by rw [cellsD_len, List.length_take]; omega), cellsD_len, List.length_take, Nat.min_eq_left (by omega), Nat.add_sub_cancel_left, List.getElem?_append_left (by simp [cells6D]; omega)]
theorem cellsD_six (l : List (DnR × Value)) (i : Nat) (hi : i < l.length) : (cellsD l)[i * 6]? = some (.int .i64 (atQ l i).1.client) ∧ (cellsD l)[i * 6 + 1]? = some (.int .i64 (atQ l i).1.id) ∧ (cellsD l)[i * 6 + 2]? = some (.int .i64 (atQ l i).1.rep.errno) ∧ (cellsD l)[i * 6 + 3]? = some (.int .i64 (atQ l i).1.rep.rev) ∧ (cellsD l)[i * 6 + 4]? = some (.string (atQ l i).1.rep.value) ∧ (cellsD l)[i * 6 + 5]? = some (atQ l i).2 :=
  ⟨cellsD_at l i 0 hi (by omega), cellsD_at l i 1 hi (by omega), cellsD_at l i 2 hi (by omega), cellsD_at l i 3 hi (by omega), cellsD_at l i 4 hi (by omega), cellsD_at l i 5 hi (by omega)⟩
/-- Each record's last cell is a slice. -/
def SlD (l : List (DnR × Value)) : Prop := ∀ p ∈ l, ∃ E m c, p.2 = .slice E m c
theorem cellsD_one {l : List (DnR × Value)} (h : SlD l) : ∀ u ∈ cellsD l, u.oneCell' = true := by
  intro u hu
  unfold cellsD at hu
  obtain ⟨p, hp, hm⟩ := List.mem_flatMap.1 hu
  obtain ⟨E, m, c, e⟩ := h p hp
  simp [cells6D] at hm
  rcases hm with rfl | rfl | rfl | rfl | rfl | rfl <;> first | rfl | (rw [e]; rfl)
/-- A row of a call's own. -/
def RowD (w : World) (base : Nat) (v : Value) (l : List (DnR × Value)) : Prop := w.ownsRow base 45 6 v l.length (cellsD l)
theorem rowD_nil (w : World) (base : Nat) : RowD w base (.slice none 0 0) [] := World.ownsRow_nil _ _ _ _
theorem RowD.below {w w' : World} {base : Nat} {v : Value} {l : List (DnR × Value)} (h : RowD w base v l) (hb : Below w.heap.size w w') : RowD w' base v l := ownsI_below h hb
theorem RowD.drew {w : World} {base : Nat} {v : Value} {l : List (DnR × Value)} (h : RowD w base v l) : RowD w.drew base v l := h
theorem RowD.base {w : World} {a b : Nat} {v : Value} {l : List (DnR × Value)} (h : b ≤ a) (hr : RowD w a v l) : RowD w b v l := by
  refine ⟨hr.1, ?_⟩
  rcases hr.2 with h2 | ⟨g, cap, cur, h1, h2, h3⟩
  · exact .inl h2
  · exact .inr ⟨g, cap, cur, h1, Nat.le_trans h h2, h3⟩
theorem RowD.new {w : World} {base n cap : Nat} {A : Option Addr} {l : List (DnR × Value)} (h : RowD w base (.slice A n cap) l) : NewN base A n := fun _ b off hA => by
  subst hA
  exact (h.lt b rfl).1
/-- Six cells of a pair. -/
def QAt (w : World) (b o : Nat) (p : DnR × Value) : Prop := DnAt w b o p.1 p.2
/-- A slice whose cells read as pairs. -/
def IsQs (w : World) (A : Option Addr) (n : Nat) (l : List (DnR × Value)) : Prop :=
  n = l.length ∧ n ≤ maxLen ∧ (0 < n → ∃ b off, A = some ⟨b, off, none⟩ ∧ b < w.heap.size ∧ ∀ i, i < l.length → QAt w b (off + i * 6) (atQ l i))
theorem IsQs.below {w w' : World} {A : Option Addr} {n : Nat} {l : List (DnR × Value)} (h : IsQs w A n l) (hb : Below w.heap.size w w') : IsQs w' A n l := by
  obtain ⟨h1, h2, h3⟩ := h
  refine ⟨h1, h2, fun hn => ?_⟩
  obtain ⟨b, off, e, hlt, hc⟩ := h3 hn
  exact ⟨b, off, e, Nat.lt_of_lt_of_le hlt hb.size, fun i hi => DnAt.below (hc i hi) hb⟩
theorem IsQs.at {w W : World} {b off n i : Nat} {l : List (DnR × Value)} (h : IsQs w (some ⟨b, off, none⟩) n l) (hi : i < l.length) (hb : Below w.heap.size w W) : QAt W b (off + i * 6) (atQ l i) := by
  have h2 := h.below hb
  obtain ⟨b2, o2, hA, hlt, hc⟩ := h2.2.2 (by have := h.1; omega)
  simp only [Option.some.injEq, Addr.mk.injEq, and_true] at hA
  obtain ⟨rfl, rfl⟩ := hA
  exact hc i hi
theorem RowD.parts {w : World} {base : Nat} {v : Value} {l : List (DnR × Value)} (h : RowD w base v l) : ∃ A cap, v = .slice A l.length cap ∧ l.length ≤ cap ∧ IsQs w A l.length l := by
  rcases h.2 with ⟨rfl, hv⟩ | ⟨g, cap, cur, hv, hg, hh, hnc, hcm, hcs, htk⟩
  · have : l.length = 0 := by omega
    exact ⟨none, 0, by simp_all, by omega, rfl, by unfold maxLen; omega, fun h => by omega⟩
  · subst hv
    refine ⟨_, cap, rfl, hnc, rfl, Nat.le_trans hnc hcm, fun _ => ⟨g, 0, rfl, lt_of_blk hh, fun i hi => ?_⟩⟩
    obtain ⟨e0, e1, e2, e3, e4, e5⟩ := cellsD_six l i hi
    rw [Nat.zero_add]
    exact ⟨(h.cellAt (i * 6) (by omega)).trans e0, (h.cellAt (i * 6 + 1) (by omega)).trans e1, (h.cellAt (i * 6 + 2) (by omega)).trans e2, (h.cellAt (i * 6 + 3) (by omega)).trans e3, (h.cellAt (i * 6 + 4) (by omega)).trans e4, (h.cellAt (i * 6 + 5) (by omega)).trans e5⟩
/-- What each record carries: fields that lie in a block of fields. -/
def StrT (w : World) (E : Option Addr) (m : Nat) : Prop := 0 < m → ∃ b off cs fr, E = some ⟨b, off, none⟩ ∧ w.heap[b]? = some (.cells cs 9 fr)
def KyAt (w : World) (p : DnR × Value) : Prop := ∃ E m c, p.2 = .slice E m c ∧ m ≤ c ∧ IsSs w E m p.1.rep.keys ∧ StrT w E m
def KyT (w : World) (l : List (DnR × Value)) : Prop := ∀ p ∈ l, DnW p.1 ∧ KyAt w p
theorem KyT.sl {w : World} {l : List (DnR × Value)} (h : KyT w l) : SlD l := fun p hp => by
  obtain ⟨_, E, m, c, e, _⟩ := h p hp
  exact ⟨E, m, c, e⟩
theorem KyT.nil (w : World) : KyT w [] := fun p h => nomatch h
theorem KyT.append {w : World} {a b : List (DnR × Value)} (h : KyT w a) (h2 : KyT w b) : KyT w (a ++ b) := fun p hp => by
  rcases List.mem_append.1 hp with h3 | h3
  · exact h p h3
  · exact h2 p h3
theorem KyT.one {w : World} {p : DnR × Value} (h : DnW p.1) (h2 : KyAt w p) : KyT w [p] := fun x hx => by rw [List.mem_singleton] at hx; rw [hx]; exact ⟨h, h2⟩
theorem StrT.below {w w' : World} {E : Option Addr} {m : Nat} (h : StrT w E m) (hb : Below w.heap.size w w') : StrT w' E m := fun hm => by
  obtain ⟨b, off, cs, fr, e, hh⟩ := h hm
  exact ⟨b, off, cs, fr, e, (hb.block b (lt_of_blk hh)).trans hh⟩
theorem KyAt.below {w w' : World} {p : DnR × Value} (h : KyAt w p) (hb : Below w.heap.size w w') : KyAt w' p := by
  obtain ⟨E, m, c, e, hc, hf, ht⟩ := h
  exact ⟨E, m, c, e, hc, hf.below hb, ht.below hb⟩
theorem KyT.below {w w' : World} {l : List (DnR × Value)} (h : KyT w l) (hb : Below w.heap.size w w') : KyT w' l := fun p hp => ⟨(h p hp).1, (h p hp).2.below hb⟩
theorem KyT.drew {w : World} {l : List (DnR × Value)} (h : KyT w l) : KyT w.drew l := h
/-- A step that turns a block of records alone turns nothing that is carried. -/
theorem KyAt.kept2 {w w' : World} {p : DnR × Value} {row : Option Nat} (h : KyAt w p) (hg : w.grownBy w' row) (hr : ∀ g, row = some g → ∃ cs T fr, w.heap[g]? = some (.cells cs T fr) ∧ T ≠ 9) : KyAt w' p := by
  obtain ⟨E, m, c, e, hc, hf, ht⟩ := h
  have key : 0 < m → ∀ b off, E = some ⟨b, off, none⟩ → w'.heap[b]? = w.heap[b]? ∧ b < w'.heap.size ∧ ∃ cs fr, w.heap[b]? = some (.cells cs 9 fr) := fun hm b off e2 => by
    obtain ⟨b2, o2, cs, fr, e3, hh⟩ := ht hm
    rw [e2] at e3
    simp only [Option.some.injEq, Addr.mk.injEq, and_true] at e3
    obtain ⟨rfl, rfl⟩ := e3
    have hne : some b ≠ row := fun e4 => by
      obtain ⟨cs2, T2, fr2, h2, hT⟩ := hr b e4.symm
      rw [hh] at h2
      simp only [Option.some.injEq, Obj.cells.injEq] at h2
      exact hT h2.2.1.symm
    exact ⟨hg.block b (lt_of_blk hh) hne, Nat.lt_of_lt_of_le (lt_of_blk hh) hg.size, cs, fr, hh⟩
  refine ⟨E, m, c, e, hc, ?_, fun hm => ?_⟩
  · obtain ⟨h1, h2, h3, h4⟩ := hf
    refine ⟨h1, h2, h3, fun hm => ?_⟩
    obtain ⟨b, off, e2, hlt, hat⟩ := h4 hm
    obtain ⟨hk, hl, _⟩ := key hm b off e2
    refine ⟨b, off, e2, hl, fun i hi => ?_⟩
    have hkc : ∀ i, w'.cell? ⟨b, i, none⟩ = w.cell? ⟨b, i, none⟩ := fun i => by
      unfold World.cell?
      rw [show (⟨b, i, none⟩ : Addr).block = b from rfl, hk]
    rw [hkc]
    exact hat i hi
  · obtain ⟨b, off, cs, fr, e2, hh⟩ := ht hm
    exact ⟨b, off, cs, fr, e2, (key hm b off e2).1.trans hh⟩
theorem KyAt.kept {w w' : World} {p : DnR × Value} {row : Option Nat} (h : KyAt w p) (hg : w.grownBy w' row) (hr : ∀ g, row = some g → ∃ cs fr, w.heap[g]? = some (.cells cs 45 fr)) : KyAt w' p :=
  h.kept2 hg fun g e => by obtain ⟨cs, fr, h2⟩ := hr g e; exact ⟨cs, _, fr, h2, by decide⟩
theorem KyT.kept2 {w w' : World} {l : List (DnR × Value)} {row : Option Nat} (h : KyT w l) (hg : w.grownBy w' row) (hr : ∀ g, row = some g → ∃ cs T fr, w.heap[g]? = some (.cells cs T fr) ∧ T ≠ 9) : KyT w' l := fun p hp => ⟨(h p hp).1, (h p hp).2.kept2 hg hr⟩
theorem KyT.kept {w w' : World} {l : List (DnR × Value)} {row : Option Nat} (h : KyT w l) (hg : w.grownBy w' row) (hr : ∀ g, row = some g → ∃ cs fr, w.heap[g]? = some (.cells cs 45 fr)) : KyT w' l := fun p hp => ⟨(h p hp).1, (h p hp).2.kept hg hr⟩
theorem RowD.block {w : World} {base : Nat} {v : Value} {l : List (DnR × Value)} (h : RowD w base v l) : ∀ g, v.ownBlock = some g → ∃ cs fr, w.heap[g]? = some (.cells cs 45 fr) := by
  intro g hg
  rcases h.2 with ⟨rfl, _⟩ | ⟨g2, cap, cur, rfl, _, hh, _⟩
  · simp [Value.ownBlock] at hg
  · have : g2 = g := by simpa [Value.ownBlock] using hg
    subst this
    exact ⟨_, _, hh⟩
theorem atQ_map (l : List (DnR × Value)) {i : Nat} (h : i < l.length) : (atQ l i).1 = atD (l.map Prod.fst) i := by
  rw [atQ_get h, atD_get (by simpa using h), List.getElem_map]
theorem RowD.isDs {w : World} {base : Nat} {v : Value} {l : List (DnR × Value)} (h : RowD w base v l) (hx : KyT w l) :
    ∃ A cap, v = .slice A l.length cap ∧ l.length ≤ cap ∧ IsDs w A l.length (l.map Prod.fst) := by
  obtain ⟨A, cap, hv, hc, h1, h2, h3⟩ := h.parts
  refine ⟨A, cap, hv, hc, by simp, h2, fun r hr => ?_, fun hn => ?_⟩
  · obtain ⟨p, hp, rfl⟩ := List.mem_map.1 hr
    exact (hx p hp).1
  · obtain ⟨b, off, e, hlt, hat⟩ := h3 hn
    refine ⟨b, off, e, hlt, fun i hi => ?_⟩
    have hi2 : i < l.length := by simpa using hi
    obtain ⟨E, m, c, e2, hmc, hf, _⟩ := (hx _ (atQ_mem hi2)).2
    have := hat i hi2
    unfold QAt at this
    rw [e2, atQ_map l hi2] at this
    rw [atQ_map l hi2] at hf
    exact ⟨E, m, c, this, hmc, hf⟩
theorem infoD : (Try.prog.info? 45).map (fun i => (i.zero, i.size, i.bytes)) = some (some (.agg #[.int .i64 0, .int .i64 0, .int .i64 0, .int .i64 0, .string ⟨#[]⟩, .slice none 0 0]), 6, 72) := by kernel_rfl
theorem addr_addD (b off j : Nat) : (⟨b, off, none⟩ : Addr).add j = ⟨b, off + j, none⟩ := by
  by_cases h0 : j = 0
  · subst h0; simp [Addr.add]
  · simp [Addr.add, h0]
theorem pairs_cellsD {w : World} {b off : Nat} {l : List (DnR × Value)} (h : ∀ i, i < l.length → QAt w b (off + i * 6) (atQ l i)) : ∀ j u, (cellsD l)[j]? = some u → w.cell? ((⟨b, off, none⟩ : Addr).add j) = some u := by
  intro j u hj
  have hl : j < l.length * 6 := by rw [← cellsD_len]; exact (List.getElem?_eq_some_iff.1 hj).1
  obtain ⟨c0, c1, c2, c3, c4, c5⟩ := h (j / 6) (by omega)
  obtain ⟨d0, d1, d2, d3, d4, d5⟩ := cellsD_six l (j / 6) (by omega)
  rw [addr_addD]
  rcases (by omega : j = j / 6 * 6 ∨ j = j / 6 * 6 + 1 ∨ j = j / 6 * 6 + 2 ∨ j = j / 6 * 6 + 3 ∨ j = j / 6 * 6 + 4 ∨ j = j / 6 * 6 + 5) with h2 | h2 | h2 | h2 | h2 | h2
  · rw [h2, d0] at hj; rw [h2, c0]; exact hj
  · rw [h2, d1] at hj; rw [h2, show off + (j / 6 * 6 + 1) = off + j / 6 * 6 + 1 by omega, c1]; exact hj
  · rw [h2, d2] at hj; rw [h2, show off + (j / 6 * 6 + 2) = off + j / 6 * 6 + 2 by omega, c2]; exact hj
  · rw [h2, d3] at hj; rw [h2, show off + (j / 6 * 6 + 3) = off + j / 6 * 6 + 3 by omega, c3]; exact hj
  · rw [h2, d4] at hj; rw [h2, show off + (j / 6 * 6 + 4) = off + j / 6 * 6 + 4 by omega, c4]; exact hj
  · rw [h2, d5] at hj; rw [h2, show off + (j / 6 * 6 + 5) = off + j / 6 * 6 + 5 by omega, c5]; exact hj
/-- 'append(l, x...)', l the call's own, x pairs that lie anywhere (in l's own block, too). -/
theorem wpList_append_dn {w : World} {ops : Array Oper} {rest : List Oper} {o : Oper} {a : Act} {Q : Exit → Act → World → Prop} (hgd : o.guard = none) (s x : Operand)
    (ho : o.op = .call { callee := .builtin .append, args := #[s, x], argTypes := #[25, 25] })
    (base : Nat) (v : Value) (l : List (DnR × Value)) (hs : a.eval s = v) (hown : RowD w base v l)
    (A : Option Addr) (m c : Nat) (k : List (DnR × Value)) (hx : a.eval x = .slice A m c) (hf : IsQs w A m k) (hk1 : SlD k)
    (h63 : (l.length + m) * 72 ≤ 140737488355328) (hbase : base ≤ w.heap.size)
    (h : ∀ v' w', RowD w' base v' (l ++ k) → w.grownBy w' v.ownBlock → wpList Try.prog ops Q rest (a.put o.dst v') w') :
    wpList Try.prog ops Q (o :: rest) a w := by
  obtain ⟨i0, hi, hz0, hz1, hz2⟩ := info_parts infoD
  obtain ⟨hm, _, hat⟩ := hf
  rcases Nat.eq_zero_or_pos m with rfl | hp
  · have hg : k = [] := List.eq_nil_of_length_eq_zero hm.symm
    subst hg
    refine wpList_plain hgd fun K hK => ?_
    have hrun := run_append_zeroI (P := Try.prog) (w := w) base 25 o.type 45 i0 6 Try.underlying25 hi v l.length _ hown A c
    unfold Oper.wp
    simp [execOp, ho, resolve, invoke, builtin, hs, hx, hrun, Result.andThen]
    refine hK _ _ (h v w (by simpa using hown) ?_)
    exact ⟨rfl, rfl, rfl, Nat.le_refl _, fun _ _ _ => rfl⟩
  · obtain ⟨b, off, rfl, hb, hat⟩ := hat hp
    refine wpList_append_own_at w hgd s x 25 ho base 45 i0 (.agg #[.int .i64 0, .int .i64 0, .int .i64 0, .int .i64 0, .string ⟨#[]⟩, .slice none 0 0]) 6 72 Try.underlying25 hi hz0 hz1 hz2 rfl (by decide) v l.length _ hs hown ⟨b, off, none⟩ m c (cellsD k) hx (by rw [cellsD_len, hm]) (pairs_cellsD hat) (cellsD_one hk1) (by unfold maxLen; omega) h63 hbase ?_
    intro v' w' h1 h2 _ _
    refine h v' w' ?_ h2
    unfold RowD
    rw [cellsD_append, List.length_append, ← hm]; exact h1
/-- One record's block, as a slice. -/
theorem isQs_one (w : World) (p : DnR × Value) : IsQs (w.alloc (.cells #[.int .i64 p.1.client, .int .i64 p.1.id, .int .i64 p.1.rep.errno, .int .i64 p.1.rep.rev, .string p.1.rep.value, p.2] 45)) (some ⟨w.heap.size, 0, none⟩) 1 [p] := by
  have hx := World.alloc_heap_new w (.cells #[.int .i64 p.1.client, .int .i64 p.1.id, .int .i64 p.1.rep.errno, .int .i64 p.1.rep.rev, .string p.1.rep.value, p.2] 45)
  refine ⟨rfl, by unfold maxLen; omega, fun _ => ⟨w.heap.size, 0, rfl, by simp, fun i hi => ?_⟩⟩
  have : i = 0 := by simpa using hi
  subst this
  exact ⟨cell_blk hx 0, cell_blk hx 1, cell_blk hx 2, cell_blk hx 3, cell_blk hx 4, cell_blk hx 5⟩
/-- A store into a record of the row. -/
theorem cellsD_set (l : List (DnR × Value)) (i j : Nat) (u : Value) (q : DnR × Value) (hi : i < l.length) (hj : j < 6) (hq : cells6D q = (cells6D (atQ l i)).set j u) : (cellsD l).set (i * 6 + j) u = cellsD (l.set i q) := by
  have e : l = l.take i ++ (atQ l i :: l.drop (i + 1)) := by rw [atQ_get hi, List.getElem_cons_drop, List.take_append_drop]
  have hl : (l.take i).length = i := by rw [List.length_take]; omega
  have e2 : l.set i q = l.take i ++ (q :: l.drop (i + 1)) := by rw [List.set_eq_take_append_cons_drop, if_pos hi]
  have h2 : (cellsD l).set (i * 6 + j) u = (cellsD (l.take i) ++ (cells6D (atQ l i) ++ cellsD (l.drop (i + 1)))).set (i * 6 + j) u := by
    rw [← cellsD_cons, ← cellsD_append, ← e]
  rw [h2, List.set_append_right _ _ (by rw [cellsD_len, hl]; omega), cellsD_len, hl, Nat.add_sub_cancel_left, List.set_append_left _ _ (by simp [cells6D]; omega), ← hq, ← cellsD_cons, ← cellsD_append, ← e2]
theorem RowD.set {w : World} {base g n cap : Nat} {l : List (DnR × Value)} (h : RowD w base (.slice (some ⟨g, 0, none⟩) n cap) l) (i j : Nat) (u : Value) (q : DnR × Value) (hi : i < l.length) (hj : j < 6) (hq : cells6D q = (cells6D (atQ l i)).set j u) :
    RowD (w.setCell ⟨g, i * 6 + j, none⟩ u) base (.slice (some ⟨g, 0, none⟩) n cap) (l.set i q) ∧ w.grownBy (w.setCell ⟨g, i * 6 + j, none⟩ u) (some g) := by
  have hn : n = l.length := by
    rcases h.2 with ⟨h', _⟩ | ⟨g', cap', cur, h', _⟩
    · simp at h'
    · simp only [Value.slice.injEq] at h'; exact h'.2.1
  subst hn
  obtain ⟨h1, h2⟩ := World.ownsRow.stored h (i * 6 + j) u
  refine ⟨?_, h2⟩
  unfold RowD
  rw [List.length_set, ← cellsD_set l i j u q hi hj hq]
  exact h1
end Go.Proofs.Ytgckoihangccbaa
