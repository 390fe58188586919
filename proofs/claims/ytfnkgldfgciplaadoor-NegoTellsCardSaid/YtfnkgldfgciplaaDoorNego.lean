import Derived.Test.YtfnkgldfgciplaaDoorGPick
import Derived.Test.YtfnkgldfgciplaaDoorGMath
import Derived.Test.YtfnkgldfgciplaaDoorFs
import Derived.Test.YtfnkgldfgciplaaDoorStr
import Derived.Deep.RegionHeld3
import Derived.IntWalk
import Derived.WalkMore
import Derived.Laws.StructEq
import Derived.Laws.BitsAllLaws
import Derived.BigRegion
import Derived.BigQuiet
import Derived.WalkSmall
import Derived.FnData
/-
  Hellos as values (stage 9): what is asked of the program's functions (RightN, OfN, AgreeN), blocks of hellos and deals, equality, bits.
-/
namespace Go.Proofs.YtfnkgldfgciplaaDoor
open Go.RowKit
set_option linter.unusedVariables false

/-- A hello as a value; a deal. -/
def hlV (h : Hl) : Value := .agg #[.int .i64 h.low, .int .i64 h.high, .int .i64 h.feat]
def WfH (h : Hl) : Prop := (Lit.int .i64 h.low).wf = true ∧ (Lit.int .i64 h.high).wf = true ∧ (Lit.int .i64 h.feat).wf = true
theorem RightH.wf {h : Hl} (k : RightH h) : WfH h := by
  obtain ⟨k1, k2, k3, k4, k5⟩ := k
  have key : ∀ z : Int, 0 ≤ z → z ≤ 1048575 → (Lit.int .i64 z).wf = true := fun z h1 h2 => by
    rw [show (Lit.int .i64 z).wf = (decide (-9223372036854775808 ≤ z) && decide (z ≤ 9223372036854775807)) from rfl]
    simp; omega
  exact ⟨key _ (by omega) (by omega), key _ (by omega) (by omega), key _ (by omega) (by omega)⟩
theorem wfH_of (b l : Int) : WfH (ofH b l) := by
  unfold ofH
  by_cases h1 : b = 1
  · rw [if_pos h1]; exact ⟨by decide, by decide, by decide⟩
  · rw [if_neg h1]
    by_cases h2 : b = 2
    · rw [if_pos h2]
      by_cases h3 : l = 2
      · rw [if_pos h3]; exact ⟨by decide, by decide, by decide⟩
      · rw [if_neg h3]; exact ⟨by decide, by decide, by decide⟩
    · rw [if_neg h2]; exact ⟨by decide, by decide, by decide⟩
/-- What the program's table of what binaries know holds, in a world. -/
def Knw (W : World) : Prop := W.var? Tryd.prog "careen/nego.known" = some #[.int .i64 0, .int .i64 0, .int .i64 0, .int .i64 1, .int .i64 1, .int .i64 7, .int .i64 1, .int .i64 2, .int .i64 1048575]
theorem knw_named : Tryd.prog.globalNamed "careen/nego.known" = some 0 := by kernel_rfl
theorem Knw.size {W : World} (h : Knw W) : 0 < W.heap.size := by
  unfold Knw World.var? at h
  rw [knw_named] at h
  simp only [Option.bind_some] at h
  rcases Nat.lt_or_ge 0 W.heap.size with h1 | h1
  · exact h1
  · rw [Array.getElem?_eq_none h1] at h; cases h
theorem Knw.below {w w' : World} (h : Knw w) (hb : Below w.heap.size w w') : Knw w' := var?_below hb knw_named h.size h
theorem Knw.cell {W : World} (h : Knw W) (i : Nat) : W.cell? ⟨0, i, none⟩ = (#[.int .i64 0, .int .i64 0, .int .i64 0, .int .i64 1, .int .i64 1, .int .i64 7, .int .i64 1, .int .i64 2, .int .i64 1048575] : Array Value)[i]? := World.var?_cell knw_named h i
/-- What is asked of the program. -/
def RightN : Prop := ∀ (h : Hl), WfH h → ∀ w : World,
  Calls Tryd.prog 12 #[hlV h] w fun e w' => e = .returned (.bool (rightH h)) ∧ Below w.heap.size w w'
def OfN : Prop := ∀ (b l : Int), (Lit.int .i64 b).wf = true → (Lit.int .i64 l).wf = true → ∀ w : World, Knw w →
  Calls Tryd.prog 14 #[.int .i64 b, .int .i64 l] w fun e w' => e = .returned (hlV (ofH b l)) ∧ Below w.heap.size w w'
def AgreeN : Prop := ∀ (a b : Hl), WfH a → WfH b → ∀ w : World,
  Calls Tryd.prog 10 #[hlV a, hlV b] w fun e w' => e = .returned (.tuple #[.agg #[.int .i64 (agH a b).1, .int .i64 (agH a b).2.1], .int .i64 (agH a b).2.2]) ∧ Below w.heap.size w w'
/-- A hello's block; a deal's. -/
def HlBlk (W : World) (g : Nat) (h : Hl) : Prop := W.heap[g]? = some (.cells #[.int .i64 h.low, .int .i64 h.high, .int .i64 h.feat] 23 (0, 0))
theorem HlBlk.below {w w' : World} {g : Nat} {m : Hl} (h : HlBlk w g m) (hb : Below w.heap.size w w') : HlBlk w' g m := Eq.trans (hb.block g (lt_of_blk h)) h
theorem HlBlk.cells {W : World} {g : Nat} {m : Hl} (h : HlBlk W g m) : W.cell? ⟨g, 0, none⟩ = some (.int .i64 m.low) ∧ W.cell? ⟨g, 1, none⟩ = some (.int .i64 m.high) ∧ W.cell? ⟨g, 2, none⟩ = some (.int .i64 m.feat) := ⟨cell_blk h 0, cell_blk h 1, cell_blk h 2⟩
theorem HlBlk.frozen {W : World} {g : Nat} {m : Hl} (h : HlBlk W g m) (j : Nat) : W.frozen? ⟨g, j, none⟩ = false := frozen_blk h j
theorem HlBlk.new (W : World) (m : Hl) : HlBlk (W.alloc (.cells #[.int .i64 m.low, .int .i64 m.high, .int .i64 m.feat] 23)) W.heap.size m := World.alloc_heap_new W _
theorem HlBlk.put {W : World} {g : Nat} {m : Hl} (h : HlBlk W g m) (n : Hl) : HlBlk (((W.setCell ⟨g, 0, none⟩ (.int .i64 n.low)).setCell ⟨g, 1, none⟩ (.int .i64 n.high)).setCell ⟨g, 2, none⟩ (.int .i64 n.feat)) g n :=
  heap_setCell_same _ g 2 _ _ _ (heap_setCell_same _ g 1 _ _ _ (heap_setCell_same _ g 0 _ _ _ h))
theorem HlBlk.far {W : World} {b g : Nat} {m : Hl} (h : HlBlk W b m) (hne : b ≠ g) (j : Nat) (u : Value) : HlBlk (W.setCell ⟨g, j, none⟩ u) b m := Eq.trans (heap_setCell_other W ⟨g, j, none⟩ b u hne) h
def DlBlk (W : World) (g : Nat) (v f : Int) : Prop := W.heap[g]? = some (.cells #[.int .i64 v, .int .i64 f] 30 (0, 0))
theorem DlBlk.below {w w' : World} {g : Nat} {v f : Int} (h : DlBlk w g v f) (hb : Below w.heap.size w w') : DlBlk w' g v f := Eq.trans (hb.block g (lt_of_blk h)) h
theorem DlBlk.cells {W : World} {g : Nat} {v f : Int} (h : DlBlk W g v f) : W.cell? ⟨g, 0, none⟩ = some (.int .i64 v) ∧ W.cell? ⟨g, 1, none⟩ = some (.int .i64 f) := ⟨cell_blk h 0, cell_blk h 1⟩
theorem DlBlk.frozen {W : World} {g : Nat} {v f : Int} (h : DlBlk W g v f) (j : Nat) : W.frozen? ⟨g, j, none⟩ = false := frozen_blk h j
theorem DlBlk.new (W : World) (v f : Int) : DlBlk (W.alloc (.cells #[.int .i64 v, .int .i64 f] 30)) W.heap.size v f := World.alloc_heap_new W _
theorem DlBlk.put {W : World} {g : Nat} {v f : Int} (h : DlBlk W g v f) (x y : Int) : DlBlk ((W.setCell ⟨g, 0, none⟩ (.int .i64 x)).setCell ⟨g, 1, none⟩ (.int .i64 y)) g x y :=
  heap_setCell_same _ g 1 _ _ _ (heap_setCell_same _ g 0 _ _ _ h)
theorem DlBlk.far {W : World} {b g : Nat} {v f : Int} (h : DlBlk W b v f) (hne : b ≠ g) (j : Nat) (u : Value) : DlBlk (W.setCell ⟨g, j, none⟩ u) b v f := Eq.trans (heap_setCell_other W ⟨g, j, none⟩ b u hne) h
theorem eqDl (a b x y : Int) (w : World) : (Op.equalIn 10000 30 (.agg #[.int .i64 a, .int .i64 b]) (.agg #[.int .i64 x, .int .i64 y])).run Tryd.prog w = .ok (a == x && b == y) w := by
  have u3 := Tryd.underlying3
  have a3 := Tryd.isAgg3
  have z3 := Tryd.sizeOf3
  have hS : Tryd.prog.underlying 30 = some (.struct (Tryd.prog.fieldsOf 30)) := by kernel_rfl
  have hp : Tryd.prog.stoodInHeld 30 = false := by kernel_rfl
  rw [show (10000 : Nat) = 9999 + 1 from rfl, run_equalIn_agg w 9999 30 _ _ hS hp]
  simp only [Program.fieldsOf, Tryd.underlying30]
  go_simp
  by_cases h1 : a = x <;> by_cases h2 : b = y <;> simp [h1, h2]
theorem guardDl : Tryd.prog.eqGuardType Tryd.prog.depth 30 = false := by kernel_rfl
def eqHB (a b : Hl) : Bool := a.low == b.low && a.high == b.high && a.feat == b.feat
theorem eqHB_self (a : Hl) : eqHB a a = true := by unfold eqHB; simp
theorem eqHl (a b : Hl) (w : World) : (Op.equalIn 10000 23 (hlV a) (hlV b)).run Tryd.prog w = .ok (eqHB a b) w := by
  have u3 := Tryd.underlying3
  have a3 := Tryd.isAgg3
  have z3 := Tryd.sizeOf3
  have hS : Tryd.prog.underlying 23 = some (.struct (Tryd.prog.fieldsOf 23)) := by kernel_rfl
  have hp : Tryd.prog.stoodInHeld 23 = false := by kernel_rfl
  unfold hlV eqHB
  rw [show (10000 : Nat) = 9999 + 1 from rfl, run_equalIn_agg w 9999 23 _ _ hS hp]
  simp only [Program.fieldsOf, Tryd.underlying23]
  go_simp
  by_cases h1 : a.low = b.low <;> by_cases h2 : a.high = b.high <;> by_cases h3 : a.feat = b.feat <;> simp [h1, h2, h3]
theorem guardHl : Tryd.prog.eqGuardType Tryd.prog.depth 23 = false := by kernel_rfl
/-- Bits of small ints. -/
theorem i64_bandN (a b : Nat) (ha : a < 1048576) (hb : b < 1048576) : bits .and .i64 (a : Int) (b : Int) = ((a &&& b : Nat) : Int) := by
  have hx : a &&& b < 1048576 := and_lt ha
  show IntKind.i64.wrap ((BitVec.ofInt 64 (a : Int) &&& BitVec.ofInt 64 (b : Int)).toNat : Int) = _
  rw [BitVec.toNat_and, BitVec.ofInt_natCast, BitVec.ofInt_natCast, BitVec.toNat_ofNat, BitVec.toNat_ofNat, Nat.mod_eq_of_lt (by omega), Nat.mod_eq_of_lt (by omega), IntKind.wrap_i64]
  omega
theorem i64_borN (a b : Nat) (ha : a < 1048576) (hb : b < 1048576) : bits .or .i64 (a : Int) (b : Int) = ((a ||| b : Nat) : Int) := by
  have hx : a ||| b < 1048576 := or_lt ha hb
  show IntKind.i64.wrap ((BitVec.ofInt 64 (a : Int) ||| BitVec.ofInt 64 (b : Int)).toNat : Int) = _
  rw [BitVec.toNat_or, BitVec.ofInt_natCast, BitVec.ofInt_natCast, BitVec.toNat_ofNat, BitVec.toNat_ofNat, Nat.mod_eq_of_lt (by omega), Nat.mod_eq_of_lt (by omega), IntKind.wrap_i64]
  omega
end Go.Proofs.YtfnkgldfgciplaaDoor
