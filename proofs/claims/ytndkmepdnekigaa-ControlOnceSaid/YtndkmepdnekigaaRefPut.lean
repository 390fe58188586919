import Derived.Test.YtndkmepdnekigaaRows
import Derived.Test.YtndkmepdnekigaaGMath
import Derived.Test.YtndkmepdnekigaaGPick
import Derived.WalkKit
import Derived.ProofKit
import Derived.Lib.Hide
/-
  The contract of the document's own Put (careenref01.Put): for every number its bytes, or ErrArg; nothing that was in memory changes.
-/
namespace Go.Proofs.Ytndkmepdnekigaa
open Go.RowKit

/-- Bytes as a text. -/
def bs (l : List UInt8) : ByteArray := ⟨l.toArray⟩
theorem bs_append (l m : List UInt8) : bs l ++ bs m = bs (l ++ m) := by
  unfold bs
  rw [ByteArray.mk_append_mk]
theorem bs_size (l : List UInt8) : (bs l).size = l.length := by show l.toArray.size = _; simp

end Go.Proofs.Ytndkmepdnekigaa
