import Derived.Test.YtgckoihangccbaaRecRight2
import Derived.Test.YtgckoihangccbaaRefRight
/-
  The contracts of the document's own Right of records, and of what it calls: what rightR says; nothing that was in memory changes.
-/
namespace Go.Proofs.Ytgckoihangccbaa
open Go.RowKit

theorem toList_ne {s : ByteArray} (h : s.size ≠ 0) : s.toList.isEmpty = false := by
  rw [Bool.eq_false_iff]; intro h2; exact h ((toList_size s).1 (by simpa using h2))

end Go.Proofs.Ytgckoihangccbaa
