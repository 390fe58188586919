import Derived.Test.YtpnkkiokkhmjpaaRows
import Derived.Test.YtpnkkiokkhmjpaaGMath
import Derived.Test.YtpnkkiokkhmjpaaGPick
import Derived.WalkKit
import Derived.ProofKit
import Derived.Lib.Hide
/-
  The contract of the document's own Put (careenref01.Put): for every number its bytes, or ErrArg; nothing that was in memory changes.
-/
namespace Go.Proofs.Ytpnkkiokkhmjpaa
open Go.RowKit

/-- Bytes as a text. -/
def bs (l : List UInt8) : ByteArray := ⟨l.toArray⟩
theorem bs_append (l m : List UInt8) : bs l ++ bs m = bs (l ++ m) := by
  unfold bs
  rw [ByteArray.mk_append_mk]
theorem bs_size (l : List UInt8) : (bs l).size = l.length := by show l.toArray.size = _; simp

/-- One byte, laid in a new row, as a text. -/
theorem conv_one (W : World) (x : Int) :
    (convert 73 9 (.slice (some ⟨W.heap.size, 0, none⟩) 1 1)).run Try.prog (W.alloc (.cells #[.int .u8 x] 5)) = .ok (.string (bs [UInt8.ofNat x.toNat])) (W.alloc (.cells #[.int .u8 x] 5)) := by
  rw [run_convert_bytes_string _ _ _ 5 _ _ _ Try.underlying73 Try.underlying5 Try.underlying9]
  rw [run_bytesToString _ _ 1 1 [x] (by simp [loadCells, loadCellsFrom, go_sem])]
  rfl

end Go.Proofs.Ytpnkkiokkhmjpaa
