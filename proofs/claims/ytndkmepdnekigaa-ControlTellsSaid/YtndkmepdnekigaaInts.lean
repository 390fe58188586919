import Derived.Test.YtndkmepdnekigaaFs
import Derived.Maps.AppendAt
import Derived.OwnWalk
import Derived.WalkMore
import Derived.IntWalk
/-
  Slices of integers: read as a list, own rows, append.
-/
namespace Go.Proofs.Ytndkmepdnekigaa
open Go.RowKit
set_option linter.unusedVariables false

def IntsWf (l : List Int) : Prop := ∀ z ∈ l, (Lit.int .i64 z).wf = true
/-- A slice that reads as 'l'. -/
def IsNs (w : World) (A : Option Addr) (n : Nat) (l : List Int) : Prop :=
  n = l.length ∧ n ≤ maxLen ∧ IntsWf l ∧ (0 < n → ∃ b off, A = some ⟨b, off, none⟩ ∧ b < w.heap.size ∧ ∀ i, i < l.length → w.cell? ⟨b, off + i, none⟩ = some (.int .i64 (l.getD i 0)))
theorem IsNs.below {w w' : World} {A : Option Addr} {n : Nat} {l : List Int} (h : IsNs w A n l) (hb : Below w.heap.size w w') : IsNs w' A n l := by
  obtain ⟨h1, h2, h3, h4⟩ := h
  refine ⟨h1, h2, h3, fun hn => ?_⟩
  obtain ⟨b, off, rfl, hlt, hc⟩ := h4 hn
  exact ⟨b, off, rfl, Nat.lt_of_lt_of_le hlt hb.size, fun i hi => (hb.cell (p := ⟨b, off + i, none⟩) hlt).trans (hc i hi)⟩
theorem IsNs.drew {w : World} {A : Option Addr} {n : Nat} {l : List Int} (h : IsNs w A n l) : IsNs w.drew A n l := h
theorem isNs_nil (w : World) (A : Option Addr) : IsNs w A 0 [] := ⟨rfl, by unfold maxLen; omega, by intro z h; simp at h, fun h => by omega⟩
theorem ints_at {l : List Int} (h : IntsWf l) {i : Nat} (hi : i < l.length) : (Lit.int .i64 (l.getD i 0)).wf = true := by
  rw [List.getD_eq_getElem?_getD, List.getElem?_eq_getElem hi]; exact h _ (List.getElem_mem _)
theorem wf_bounds {z : Int} (h : (Lit.int .i64 z).wf = true) : -9223372036854775808 ≤ z ∧ z ≤ 9223372036854775807 := by
  rw [show (Lit.int .i64 z).wf = (decide (-9223372036854775808 ≤ z) && decide (z ≤ 9223372036854775807)) from rfl] at h
  simpa using h
theorem wf_within {z : Int} (h1 : -9223372036854775808 ≤ z) (h2 : z ≤ 9223372036854775807) : (Lit.int .i64 z).wf = true := by
  rw [show (Lit.int .i64 z).wf = (decide (-9223372036854775808 ≤ z) && decide (z ≤ 9223372036854775807)) from rfl]
  simp; omega
/-- Integers' cells in memory. -/
def cellsI (l : List Int) : List Value := l.map (Value.int .i64 ·)
theorem cellsI_append (a b : List Int) : cellsI (a ++ b) = cellsI a ++ cellsI b := by simp [cellsI]
theorem cellsI_len (l : List Int) : (cellsI l).length = l.length := by simp [cellsI]
theorem cellsI_one (l : List Int) : ∀ u ∈ cellsI l, u.oneCell' = true := by
  intro u hu
  unfold cellsI at hu
  obtain ⟨z, _, rfl⟩ := List.mem_map.1 hu
  rfl
theorem cellsI_at (l : List Int) (i : Nat) (h : i < l.length) : (cellsI l)[i]? = some (.int .i64 (l.getD i 0)) := by
  unfold cellsI
  rw [List.getElem?_map, List.getElem?_eq_getElem h, List.getD_eq_getElem?_getD, List.getElem?_eq_getElem h]; rfl
/-- A row of integers of a call's own. -/
def RowI (w : World) (base : Nat) (v : Value) (l : List Int) : Prop := w.ownsRow base 3 1 v l.length (cellsI l)
theorem rowI_nil (w : World) (base : Nat) : RowI w base (.slice none 0 0) [] := World.ownsRow_nil _ _ _ _
theorem ownsI_below {w w' : World} {base size n : Nat} {e : TypeId} {v : Value} {xs : List Value} (h : w.ownsRow base e size v n xs) (hb : Below w.heap.size w w') : w'.ownsRow base e size v n xs :=
  h.kept (row := none) ⟨hb.os, hb.tape, hb.output, hb.size, fun i hi _ => hb.block i hi⟩ (by cases v.ownBlock with
    | none => exact .inl rfl
    | some x => exact .inr (fun e => by cases e))
theorem RowI.below {w w' : World} {base : Nat} {v : Value} {l : List Int} (h : RowI w base v l) (hb : Below w.heap.size w w') : RowI w' base v l := ownsI_below h hb
/-- An owned row reads as these integers. -/
theorem RowI.isNs {w : World} {base : Nat} {v : Value} {l : List Int} (h : RowI w base v l) (hwf : IntsWf l) :
    ∃ A cap, v = .slice A l.length cap ∧ l.length ≤ cap ∧ IsNs w A l.length l := by
  rcases h.2 with ⟨rfl, hv⟩ | ⟨g, cap, cur, hv, hg, hh, hnc, hcm, hcs, htk⟩
  · have : l.length = 0 := by omega
    exact ⟨none, 0, by simp_all, by omega, rfl, by unfold maxLen; omega, hwf, fun h => by omega⟩
  · subst hv
    refine ⟨_, cap, rfl, hnc, rfl, Nat.le_trans hnc hcm, hwf, fun _ => ⟨g, 0, rfl, lt_of_blk hh, fun i hi => ?_⟩⟩
    have c1 := h.cellAt i (by omega)
    rw [cellsI_at l i hi] at c1
    rw [Nat.zero_add]
    exact c1
/-- A slice that lies in new memory. -/
def NewN (B : Nat) (A : Option Addr) (n : Nat) : Prop := 0 < n → ∀ b off, A = some ⟨b, off, none⟩ → B ≤ b
theorem NewN.mono {B C : Nat} {A : Option Addr} {n : Nat} (h : NewN B A n) (hc : C ≤ B) : NewN C A n := fun hn b off e => Nat.le_trans hc (h hn b off e)
/-- A slice that lies in another block. -/
def ApartN (g : Nat) (A : Option Addr) (n : Nat) : Prop := 0 < n → ∀ b off, A = some ⟨b, off, none⟩ → b ≠ g
/-- A slice that lies in new memory, or is the one that was handed in. -/
def FromN (B : Nat) (A0 : Option Addr) (n0 : Nat) (A : Option Addr) (n : Nat) : Prop := NewN B A n ∨ (A = A0 ∧ n = n0)
theorem FromN.new {B C n0 n : Nat} {A0 A : Option Addr} (h : FromN B A0 n0 A n) (hc : C ≤ B) (h0 : NewN C A0 n0) : NewN C A n := by
  rcases h with h | ⟨rfl, rfl⟩
  · exact h.mono hc
  · exact h0
theorem FromN.apart {B g n0 n : Nat} {A0 A : Option Addr} (h : FromN B A0 n0 A n) (hg : g < B) (h0 : ApartN g A0 n0) : ApartN g A n := by
  rcases h with h | ⟨rfl, rfl⟩
  · exact fun hn b off e => by have := h hn b off e; omega
  · exact h0
theorem RowI.new {w : World} {base n cap : Nat} {A : Option Addr} {l : List Int} (h : RowI w base (.slice A n cap) l) : NewN base A n := fun _ b off hA => by
  subst hA
  exact (h.lt b rfl).1
theorem IsNs.set {W : World} {A : Option Addr} {n g j : Nat} {l : List Int} {u : Value} {B : Nat} (h : IsNs W A n l) (hnew : NewN B A n) (hg : g < B) : IsNs (W.setCell ⟨g, j, none⟩ u) A n l := by
  obtain ⟨h1, h2, h3, h4⟩ := h
  refine ⟨h1, h2, h3, fun hn => ?_⟩
  obtain ⟨b, off, rfl, hlt, hc⟩ := h4 hn
  have hb := hnew hn b off rfl
  have hh := heap_setCell_other W ⟨g, j, none⟩ b u (by show b ≠ g; omega)
  refine ⟨b, off, rfl, by simpa using hlt, fun i hi => ?_⟩
  have := hc i hi
  unfold World.cell? at this ⊢
  rw [show (⟨b, off + i, none⟩ : Addr).block = b from rfl] at *
  rw [hh]
  exact this
theorem IsNs.apart {w : World} {A : Option Addr} {n g : Nat} {l : List Int} (h : IsNs w A n l) (hg : w.heap.size ≤ g) : ApartN g A n := fun hn b off e => by
  obtain ⟨b2, o2, e2, hlt, _⟩ := h.2.2.2 hn
  rw [e] at e2
  simp only [Option.some.injEq, Addr.mk.injEq, and_true] at e2
  omega
theorem IsNs.kept {w w' : World} {A : Option Addr} {n : Nat} {l : List Int} {row : Option Nat} (h : IsNs w A n l) (hg : w.grownBy w' row) (hne : 0 < n → ∀ b off, A = some ⟨b, off, none⟩ → some b ≠ row) : IsNs w' A n l := by
  obtain ⟨h1, h2, h3, h4⟩ := h
  refine ⟨h1, h2, h3, fun hn => ?_⟩
  obtain ⟨b, off, rfl, hlt, hc⟩ := h4 hn
  have hh := hg.block b hlt (hne hn b off rfl)
  refine ⟨b, off, rfl, Nat.lt_of_lt_of_le hlt hg.size, fun i hi => ?_⟩
  have := hc i hi
  unfold World.cell? at this ⊢
  rw [show (⟨b, off + i, none⟩ : Addr).block = b from rfl] at *
  rw [hh]
  exact this
theorem IsNs.far {W : World} {A : Option Addr} {n g j : Nat} {l : List Int} {u : Value} (h : IsNs W A n l) (hne : ApartN g A n) : IsNs (W.setCell ⟨g, j, none⟩ u) A n l := by
  obtain ⟨h1, h2, h3, h4⟩ := h
  refine ⟨h1, h2, h3, fun hn => ?_⟩
  obtain ⟨b, off, rfl, hlt, hc⟩ := h4 hn
  have hh := heap_setCell_other W ⟨g, j, none⟩ b u (hne hn b off rfl)
  refine ⟨b, off, rfl, by simpa using hlt, fun i hi => ?_⟩
  have := hc i hi
  unfold World.cell? at this ⊢
  rw [show (⟨b, off + i, none⟩ : Addr).block = b from rfl] at *
  rw [hh]
  exact this
theorem infoI : (Try.prog.info? 3).map (fun i => (i.zero, i.size, i.bytes)) = some (some (.int .i64 0), 1, 8) := by kernel_rfl
theorem ints_cells {w : World} {b off : Nat} {l : List Int} (h : ∀ i, i < l.length → w.cell? ⟨b, off + i, none⟩ = some (.int .i64 (l.getD i 0))) : ∀ j u, (cellsI l)[j]? = some u → w.cell? ((⟨b, off, none⟩ : Addr).add j) = some u := by
  intro j u hj
  have hl : j < l.length := by rw [← cellsI_len]; exact (List.getElem?_eq_some_iff.1 hj).1
  have e : ((⟨b, off, none⟩ : Addr).add j) = ⟨b, off + j, none⟩ := by
    by_cases h0 : j = 0
    · subst h0; simp [Addr.add]
    · simp [Addr.add, h0]
  rw [e, h j hl, ← cellsI_at l j hl, hj]
theorem run_append_zeroI {w : World} {P : Program} (base : Nat) (t ty e : TypeId) (i : TypeInfo) (size : Nat) (ht : P.underlying t = some (.slice e)) (hi : P.info? e = some i)
    (v : Value) (n : Nat) (xs : List Value) (hown : w.ownsRow base e size v n xs) (A : Option Addr) (c : Nat) :
    (Builtin.append_ #[t, t] ty #[v, .slice A 0 c]).run P w = .ok v w := by
  rcases hown.2 with ⟨rfl, rfl⟩ | ⟨g, cap, cur, rfl, _, _, hnc, _⟩
  · cases A <;> simp [Builtin.append_, run_underlying ht, sizeOf, typeInfo, hi, Builtin.lenOf, Builtin.firstCells, loadCells, loadCellsFrom]
  · cases A <;> simp [Builtin.append_, run_underlying ht, sizeOf, typeInfo, hi, Builtin.lenOf, Builtin.firstCells, hnc, storeCells, loadCells, loadCellsFrom]
theorem cell_one_new (w : World) (x : Value) (t : TypeId) : (w.alloc (.cells #[x] t)).cell? ⟨w.heap.size, 0, none⟩ = some x := cell_blk (World.alloc_heap_new w _) 0
/-- One new integer's block, as a slice. -/
theorem isNs_one (w : World) (z : Int) (hz : (Lit.int .i64 z).wf = true) (t : TypeId) : IsNs (w.alloc (.cells #[.int .i64 z] t)) (some ⟨w.heap.size, 0, none⟩) 1 [z] := by
  refine ⟨rfl, by unfold maxLen; omega, fun x hx => by rw [List.mem_singleton] at hx; rw [hx]; exact hz, fun _ => ⟨w.heap.size, 0, rfl, by simp, fun i hi => ?_⟩⟩
  have : i = 0 := by simpa using hi
  subst this
  exact cell_one_new w _ t
theorem IsRow.isNs {w : World} {a : Option Addr} {len cap : Nat} {zs : List Int} (h : IsRow .i64 w a len cap zs) : len ≤ cap ∧ IsNs w a len (zs.take len) := by
  rcases h with ⟨rfl, rfl, rfl, rfl⟩ | ⟨x, rfl, h1, h2, h3, h4, h5⟩
  · exact ⟨Nat.le_refl _, isNs_nil _ _⟩
  · have hl : (zs.take len).length = len := by rw [List.length_take]; omega
    refine ⟨h1, hl.symm, Nat.le_trans h1 h2, fun z hz => h5 z (List.mem_of_mem_take hz), fun hn => ?_⟩
    have c0 := h4 0 (by omega)
    have hs : x.spot = none := World.cell?_spot (a := x) (by simpa [Addr.add] using c0)
    refine ⟨x.block, x.off, by cases x; simp_all, ?_, fun i hi => ?_⟩
    · have h0 : x.add 0 = x := by simp [Addr.add]
      rw [h0] at c0
      exact lt_of_cell c0
    · have hi' : i < len := by omega
      have c := h4 i (by omega)
      have e : (zs.take len).getD i 0 = zs.getD i 0 := by
        rw [List.getD_eq_getElem?_getD, List.getD_eq_getElem?_getD, List.getElem?_take_of_lt hi']
      rw [e]
      obtain ⟨b, off, spot⟩ := x
      simp only at hs
      subst hs
      by_cases h0 : i = 0
      · subst h0; simpa [Addr.add] using c
      · simpa [Addr.add, h0] using c
/-- A block, as it stands. -/
def Blk (W : World) (b : Nat) (o : Obj) : Prop := W.heap[b]? = some o
theorem Blk.below {w w' : World} {b : Nat} {o : Obj} (h : Blk w b o) (hb : Below w.heap.size w w') : Blk w' b o := Eq.trans (hb.block b (lt_of_blk h)) h
theorem Blk.far {W : World} {b g : Nat} {o : Obj} (h : Blk W b o) (hne : b ≠ g) (j : Nat) (u : Value) : Blk (W.setCell ⟨g, j, none⟩ u) b o := Eq.trans (heap_setCell_other W ⟨g, j, none⟩ b u hne) h
theorem Blk.kept {w w' : World} {b : Nat} {o : Obj} {row : Option Nat} (h : Blk w b o) (hg : w.grownBy w' row) (hne : some b ≠ row) : Blk w' b o := Eq.trans (hg.block b (lt_of_blk h) hne) h
theorem Blk.drew {W : World} {b : Nat} {o : Obj} (h : Blk W b o) : Blk W.drew b o := h
theorem Blk.new (W : World) (o : Obj) : Blk (W.alloc o) W.heap.size o := World.alloc_heap_new W _
theorem Blk.lt {W : World} {b : Nat} {o : Obj} (h : Blk W b o) : b < W.heap.size := lt_of_blk h
theorem Blk.cell {W : World} {b : Nat} {cs : Array Value} {T : TypeId} {fr : Nat × Nat} (h : Blk W b (.cells cs T fr)) (j : Nat) : W.cell? ⟨b, j, none⟩ = cs[j]? := cell_blk h j
theorem Blk.frozen {W : World} {b : Nat} {cs : Array Value} {T : TypeId} (h : Blk W b (.cells cs T (0, 0))) (j : Nat) : W.frozen? ⟨b, j, none⟩ = false := frozen_blk h j
theorem Blk.set {W : World} {b : Nat} {cs : Array Value} {T : TypeId} (h : Blk W b (.cells cs T (0, 0))) (j : Nat) (u : Value) (ds : Array Value) (hd : ds = cs.setIfInBounds j u) : Blk (W.setCell ⟨b, j, none⟩ u) b (.cells ds T (0, 0)) := by
  subst hd
  exact heap_setCell_same _ b j _ _ _ h
end Go.Proofs.Ytndkmepdnekigaa
