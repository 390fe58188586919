import Derived.Test.YtgckoihangccbaaRecRight
/-
  The contracts of record.extraRight, record.laterRight and record.Right: what rightR says; nothing that was in memory changes.
-/
namespace Go.Proofs.Ytgckoihangccbaa
open Go.RowKit

end Go.Proofs.Ytgckoihangccbaa
