import Derived.Test.YtndkmepdnekigaaRefPut
import Derived.Test.YtndkmepdnekigaaRange
import Derived.Shelf.Abstract
import Derived.Shelf.RegionOpen
import Derived.WalkKit
import Derived.OwnWalkIn
import Derived.TacticsInMore
import Derived.LoopNIn
import Derived.LoopIn
import Derived.Maps.AppendAt
import Derived.Lib.Hide
/-
  The contract of varint.Put: for every number from 0 to 2^53 its bytes, else ErrArg; nothing that was in memory changes. (Its iterator's contract on the way.)
-/
namespace Go.Proofs.Ytndkmepdnekigaa
open Go.RowKit Go.Shelf

attribute [local go_sem] Oper.semAt_some

/-- What an iterator that keeps one number in a captured variable does to memory between two rounds. -/
def StBox (B : Nat) (X Y : World) : Prop := ∃ v, Y = X.setCell ⟨B, 0, none⟩ v
/-- What it asks of a round: that variable stays as it was. -/
def KpBox (B : Nat) (X Y : World) : Prop := Y.heap[B]? = X.heap[B]?
/-- The number in a captured variable. -/
def boxN (W : World) (B : Nat) : Nat := ((W.cell? ⟨B, 0, none⟩).map fun v => (intOf v).toNat).getD 0
theorem boxN_eq {W : World} {B : Nat} {t : TypeId} {k : Nat} (h : Boxed W B t (.int .i64 k)) : boxN W B = k := by
  unfold boxN; rw [h.cell]; simp [intOf]
theorem KpBox.boxed {B : Nat} {t : TypeId} {v : Value} {X Y : World} (h : KpBox B X Y) (hb : Boxed X B t v) : Boxed Y B t v := Eq.trans h hb
theorem u8_of {m : Nat} (h : m < 256) : ((UInt8.ofNat m).toNat : Int) = (m : Int) := by rw [toNat_ofNat_lt h]

theorem infoU8 : (Try.prog.info? 5).map (fun i => (i.zero, i.size, i.bytes)) = some (some (.int .u8 0), 1, 1) := by kernel_rfl

end Go.Proofs.Ytndkmepdnekigaa
