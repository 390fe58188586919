import Derived.Test.YtcifcpggiifjeaaInts
import Derived.Test.YtcifcpggiifjeaaSesMath
import Derived.Deep.RegionHeld3
import Derived.Laws.StructEq
import Derived.BigRegion
import Derived.BigQuiet
/-
  Sessions as values (stage 10): what is asked of the program's functions, a session's block.
-/
namespace Go.Proofs.Ytcifcpggiifjeaa
open Go.RowKit
set_option linter.unusedVariables false

/-- A session as a value. -/
abbrev snV (s : Sn) (x : Value) : Value := .agg #[.int .i64 s.next, .int .i64 s.seen, x]
def SnWf (s : Sn) : Prop := (Lit.int .i64 s.next).wf = true ∧ (Lit.int .i64 s.seen).wf = true
theorem RightS.wf {s : Sn} (h : RightS s) : SnWf s := ⟨wf_within (by have := h.1; omega) (by have := h.1; omega), wf_within (by have := h.2.1; omega) (by have := h.2.1; omega)⟩
theorem RightS.ints {s : Sn} (h : RightS s) : IntsWf s.ahead := fun z hz => by have := h.2.2.2 z hz; have := h.2.1; exact wf_within (by omega) (by omega)
/-- What a function leaves that answers a session and more. -/
def SnFrom (A0 : Option Addr) (n0 : Nat) (w : World) (s : Sn) (out : Value → Value) (e : Ending) (w' : World) : Prop :=
  ∃ A n cap, e = .returned (out (snV s (.slice A n cap))) ∧ n ≤ cap ∧ IsNs w' A n s.ahead ∧ FromN w.heap.size A0 n0 A n ∧ Below w.heap.size w w'
def SnPost (w : World) (s : Sn) (out : Value → Value) (e : Ending) (w' : World) : Prop :=
  ∃ A n cap, e = .returned (out (snV s (.slice A n cap))) ∧ n ≤ cap ∧ IsNs w' A n s.ahead ∧ NewN w.heap.size A n ∧ Below w.heap.size w w'
/-- What is asked of the program. (What is as it was may be what was handed in.) -/
def RightQ : Prop := ∀ (s : Sn) (A : Option Addr) (n cap : Nat) (w : World), SnWf s → n ≤ cap → IsNs w A n s.ahead →
  Calls Try.prog 16 #[snV s (.slice A n cap)] w fun e w' => e = .returned (.bool (rightS s)) ∧ Below w.heap.size w w'
def NewQ : Prop := ∀ w : World, Calls Try.prog 9 #[] w (SnPost w newS id)
def StampQ : Prop := ∀ (s : Sn) (A : Option Addr) (n cap : Nat) (w : World), SnWf s → n ≤ cap → IsNs w A n s.ahead → n ≤ 100 →
  Calls Try.prog 14 #[snV s (.slice A n cap)] w (SnFrom A n w (stampS s).1 fun v => .tuple #[v, .int .i64 (stampS s).2.1, .int .i64 (stampS s).2.2])
def TakeQ : Prop := ∀ (s : Sn) (A : Option Addr) (n cap : Nat) (q : Int) (w : World), SnWf s → n ≤ cap → IsNs w A n s.ahead → n ≤ 100 → (Lit.int .i64 q).wf = true →
  Calls Try.prog 11 #[snV s (.slice A n cap), .int .i64 q] w (SnFrom A n w (takeS s q).1 fun v => .tuple #[v, .bool (takeS s q).2.1, .int .i64 (takeS s q).2.2])
/-- A session's block. -/
def SnBlk (W : World) (g : Nat) (s : Sn) (x : Value) : Prop := W.heap[g]? = some (.cells #[.int .i64 s.next, .int .i64 s.seen, x] 24 (0, 0))
theorem SnBlk.below {w w' : World} {g : Nat} {s : Sn} {x : Value} (h : SnBlk w g s x) (hb : Below w.heap.size w w') : SnBlk w' g s x := Eq.trans (hb.block g (lt_of_blk h)) h
theorem SnBlk.cells {W : World} {g : Nat} {s : Sn} {x : Value} (h : SnBlk W g s x) : W.cell? ⟨g, 0, none⟩ = some (.int .i64 s.next) ∧ W.cell? ⟨g, 1, none⟩ = some (.int .i64 s.seen) ∧ W.cell? ⟨g, 2, none⟩ = some x := ⟨cell_blk h 0, cell_blk h 1, cell_blk h 2⟩
theorem SnBlk.frozen {W : World} {g : Nat} {s : Sn} {x : Value} (h : SnBlk W g s x) (j : Nat) : W.frozen? ⟨g, j, none⟩ = false := frozen_blk h j
theorem SnBlk.new (W : World) (s : Sn) (x : Value) : SnBlk (W.alloc (.cells #[.int .i64 s.next, .int .i64 s.seen, x] 24)) W.heap.size s x := World.alloc_heap_new W _
theorem SnBlk.drew {W : World} {g : Nat} {s : Sn} {x : Value} (h : SnBlk W g s x) : SnBlk W.drew g s x := h
theorem SnBlk.kept {w w' : World} {b : Nat} {s : Sn} {x : Value} {row : Option Nat} (h : SnBlk w b s x) (hg : w.grownBy w' row) (hne : some b ≠ row) : SnBlk w' b s x := Eq.trans (hg.block b (lt_of_blk h) hne) h
theorem SnBlk.far {W : World} {b g : Nat} {s : Sn} {x : Value} (h : SnBlk W b s x) (hne : b ≠ g) (j : Nat) (u : Value) : SnBlk (W.setCell ⟨g, j, none⟩ u) b s x := Eq.trans (heap_setCell_other W ⟨g, j, none⟩ b u hne) h
theorem SnBlk.put {W : World} {g : Nat} {s : Sn} {x : Value} (h : SnBlk W g s x) (t : Sn) (y : Value) : SnBlk (((W.setCell ⟨g, 0, none⟩ (.int .i64 t.next)).setCell ⟨g, 1, none⟩ (.int .i64 t.seen)).setCell ⟨g, 2, none⟩ y) g t y :=
  heap_setCell_same _ g 2 _ _ _ (heap_setCell_same _ g 1 _ _ _ (heap_setCell_same _ g 0 _ _ _ h))
theorem SnBlk.putSeen {W : World} {g : Nat} {s : Sn} {x : Value} (h : SnBlk W g s x) (z : Int) : SnBlk (W.setCell ⟨g, 1, none⟩ (.int .i64 z)) g ⟨s.next, z, s.ahead⟩ x := heap_setCell_same _ g 1 _ _ _ h
theorem SnBlk.putNext {W : World} {g : Nat} {s : Sn} {x : Value} (h : SnBlk W g s x) (z : Int) : SnBlk (W.setCell ⟨g, 0, none⟩ (.int .i64 z)) g ⟨z, s.seen, s.ahead⟩ x := heap_setCell_same _ g 0 _ _ _ h
theorem SnBlk.putAhead {W : World} {g : Nat} {s : Sn} {x : Value} (h : SnBlk W g s x) (l : List Int) (y : Value) : SnBlk (W.setCell ⟨g, 2, none⟩ y) g ⟨s.next, s.seen, l⟩ y := heap_setCell_same _ g 2 _ _ _ h
/-- A variable that holds a session. -/
def SnVar (W : World) (g : Nat) (s : Sn) (B : Nat) : Prop := ∃ A n cap, SnBlk W g s (.slice A n cap) ∧ n ≤ cap ∧ IsNs W A n s.ahead ∧ NewN B A n
theorem SnVar.below {w w' : World} {g B : Nat} {s : Sn} (h : SnVar w g s B) (hb : Below w.heap.size w w') : SnVar w' g s B := by
  obtain ⟨A, n, cap, h1, h2, h3, h4⟩ := h
  exact ⟨A, n, cap, h1.below hb, h2, h3.below hb, h4⟩
theorem SnVar.drew {w : World} {g B : Nat} {s : Sn} (h : SnVar w g s B) : SnVar w.drew g s B := h
theorem SnVar.far {w : World} {g B x : Nat} {s : Sn} (h : SnVar w g s B) (hne : g ≠ x) (hx : x < B) (j : Nat) (u : Value) : SnVar (w.setCell ⟨x, j, none⟩ u) g s B := by
  obtain ⟨A, n, cap, h1, h2, h3, h4⟩ := h
  exact ⟨A, n, cap, h1.far hne j u, h2, h3.set h4 hx, h4⟩
theorem SnVar.lt {w : World} {g B : Nat} {s : Sn} (h : SnVar w g s B) : g < w.heap.size := by
  obtain ⟨A, n, cap, h1, _⟩ := h
  exact lt_of_blk h1
/-- What is stored into a variable that is there. -/
theorem SnVar.put {W : World} {g B : Nat} {s t : Sn} {x : Value} {A : Option Addr} {n cap : Nat} (h : SnBlk W g s x) (hc : n ≤ cap) (hn : IsNs W A n t.ahead) (hnew : NewN B A n) (hg : g < B) :
    SnVar (((W.setCell ⟨g, 0, none⟩ (.int .i64 t.next)).setCell ⟨g, 1, none⟩ (.int .i64 t.seen)).setCell ⟨g, 2, none⟩ (.slice A n cap)) g t B :=
  ⟨A, n, cap, h.put t _, hc, ((hn.set hnew hg).set hnew hg).set hnew hg, hnew⟩
end Go.Proofs.Ytcifcpggiifjeaa
