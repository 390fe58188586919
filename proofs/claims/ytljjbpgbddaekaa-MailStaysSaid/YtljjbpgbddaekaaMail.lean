import Derived.Test.YtljjbpgbddaekaaLets
import Derived.Deep.RegionHeld3
import Derived.Deep.RegionLaw
import Derived.Deep.DeepCutAuto
import Derived.BigRegion
import Derived.BigQuiet
/-
  Mail (stage 11): what is asked of the program's functions.
-/
namespace Go.Proofs.Ytljjbpgbddaekaa
open Go.RowKit
set_option linter.unusedVariables false

/-- What a function leaves that answers letters and more. -/
def LsPost (w : World) (l : List Lt) (out : Value → Value) (e : Ending) (w' : World) : Prop :=
  ∃ A n cap, e = .returned (out (.slice A n cap)) ∧ n ≤ cap ∧ IsLs w' A n l ∧ NewN w.heap.size A n ∧ Below w.heap.size w w'
/-- The same, or the very list that was handed in (what is as it was may be that). -/
def LsFrom (A0 : Option Addr) (n0 : Nat) (w : World) (l : List Lt) (out : Value → Value) (e : Ending) (w' : World) : Prop :=
  ∃ A n cap, e = .returned (out (.slice A n cap)) ∧ n ≤ cap ∧ IsLs w' A n l ∧ FromN w.heap.size A0 n0 A n ∧ Below w.heap.size w w'
def NsPost (w : World) (l : List Int) (e : Ending) (w' : World) : Prop :=
  ∃ A n cap, e = .returned (.slice A n cap) ∧ n ≤ cap ∧ IsNs w' A n l ∧ NewN w.heap.size A n ∧ Below w.heap.size w w'
/-- What is asked of the program. -/
def PostQ : Prop := ∀ (l : List Lt) (m : Lt) (A : Option Addr) (n cap : Nat) (w : World), LtWf m → n ≤ cap → IsLs w A n l → n * 32 ≤ 140737488351232 →
  Calls Try.prog 11 #[.slice A n cap, ltV m] w (LsFrom A n w (postL l m).1 fun v => .tuple #[v, .int .i64 (postL l m).2])
def CopyQ : Prop := ∀ (l : List Lt) (i : Int) (A : Option Addr) (n cap : Nat) (w : World), (Lit.int .i64 i).wf = true → n ≤ cap → IsLs w A n l → n * 32 ≤ 140737488351232 →
  Calls Try.prog 15 #[.slice A n cap, .int .i64 i] w (LsFrom A n w (copyL l i).1 fun v => .tuple #[v, .int .i64 (copyL l i).2])
def LoseQ : Prop := ∀ (l : List Lt) (i : Int) (A : Option Addr) (n cap : Nat) (w : World), (Lit.int .i64 i).wf = true → n ≤ cap → IsLs w A n l → n * 32 ≤ 140737488351232 →
  Calls Try.prog 17 #[.slice A n cap, .int .i64 i] w (LsFrom A n w (loseL l i).1 fun v => .tuple #[v, .int .i64 (loseL l i).2])
def TakeM : Prop := ∀ (l : List Lt) (i : Int) (A : Option Addr) (n cap : Nat) (w : World), (Lit.int .i64 i).wf = true → n ≤ cap → IsLs w A n l → n * 32 ≤ 140737488351232 →
  Calls Try.prog 19 #[.slice A n cap, .int .i64 i] w (LsFrom A n w (takeL l i).2.1 fun v => .tuple #[ltV (takeL l i).1, v, .bool (takeL l i).2.2])
def ForQ : Prop := ∀ (l : List Lt) (t : Int) (A : Option Addr) (n cap : Nat) (w : World), (Lit.int .i64 t).wf = true → n ≤ cap → IsLs w A n l → n * 32 ≤ 140737488351232 →
  Calls Try.prog 22 #[.slice A n cap, .int .i64 t] w (NsPost w (forL l t))
/-- A letter's block. -/
def LtBlk (W : World) (g : Nat) (m : Lt) : Prop := Blk W g (.cells #[.int .i64 m.frm, .int .i64 m.to, .string m.bytes] 25 (0, 0))
theorem LtBlk.below {w w' : World} {g : Nat} {m : Lt} (h : LtBlk w g m) (hb : Below w.heap.size w w') : LtBlk w' g m := Blk.below h hb
theorem LtBlk.cells {W : World} {g : Nat} {m : Lt} (h : LtBlk W g m) : W.cell? ⟨g, 0, none⟩ = some (.int .i64 m.frm) ∧ W.cell? ⟨g, 1, none⟩ = some (.int .i64 m.to) ∧ W.cell? ⟨g, 2, none⟩ = some (.string m.bytes) := ⟨Blk.cell h 0, Blk.cell h 1, Blk.cell h 2⟩
theorem LtBlk.frozen {W : World} {g : Nat} {m : Lt} (h : LtBlk W g m) (j : Nat) : W.frozen? ⟨g, j, none⟩ = false := Blk.frozen h j
theorem LtBlk.new (W : World) (m : Lt) : LtBlk (W.alloc (.cells #[.int .i64 m.frm, .int .i64 m.to, .string m.bytes] 25)) W.heap.size m := Blk.new W _
theorem LtBlk.drew {W : World} {g : Nat} {m : Lt} (h : LtBlk W g m) : LtBlk W.drew g m := h
theorem LtBlk.far {W : World} {b g : Nat} {m : Lt} (h : LtBlk W b m) (hne : b ≠ g) (j : Nat) (u : Value) : LtBlk (W.setCell ⟨g, j, none⟩ u) b m := Blk.far h hne j u
theorem LtBlk.kept {w w' : World} {b : Nat} {m : Lt} {row : Option Nat} (h : LtBlk w b m) (hg : w.grownBy w' row) (hne : some b ≠ row) : LtBlk w' b m := Blk.kept h hg hne
theorem LtBlk.put {W : World} {g : Nat} {m : Lt} (h : LtBlk W g m) (t : Lt) : LtBlk (((W.setCell ⟨g, 0, none⟩ (.int .i64 t.frm)).setCell ⟨g, 1, none⟩ (.int .i64 t.to)).setCell ⟨g, 2, none⟩ (.string t.bytes)) g t :=
  heap_setCell_same _ g 2 _ _ _ (heap_setCell_same _ g 1 _ _ _ (heap_setCell_same _ g 0 _ _ _ h))
theorem RowL.set3 {W : World} {base g : Nat} {v : Value} {l : List Lt} (h : RowL W base v l) (hg : g < base) (x y z : Value) : RowL (((W.setCell ⟨g, 0, none⟩ x).setCell ⟨g, 1, none⟩ y).setCell ⟨g, 2, none⟩ z) base v l :=
  ownsRow_setCell_below (a := ⟨g, 2, none⟩) (ownsRow_setCell_below (a := ⟨g, 1, none⟩) (ownsRow_setCell_below (a := ⟨g, 0, none⟩) h hg x) hg y) hg z
theorem below_cells3 {w W : World} {B g : Nat} (h : Below B w W) (hg : B ≤ g) (x y z : Value) : Below B w (((W.setCell ⟨g, 0, none⟩ x).setCell ⟨g, 1, none⟩ y).setCell ⟨g, 2, none⟩ z) :=
  ((h.setCell (p := ⟨g, 0, none⟩) hg _).setCell (p := ⟨g, 1, none⟩) hg _).setCell (p := ⟨g, 2, none⟩) hg _
theorem slice_eqL {A B : Option Addr} {n c d : Nat} (h : Value.slice A n c = .slice B n d) : A = B ∧ c = d := by cases h; exact ⟨rfl, rfl⟩
theorem below_grownL {w w' : World} {v : Value} (hg : w.grownBy w' v.ownBlock) (hv : ∀ g, v.ownBlock = some g → w.heap.size ≤ g) : Below w.heap.size w w' := (Below.refl _ _).grown hg (Nat.le_refl _) hv
end Go.Proofs.Ytljjbpgbddaekaa
