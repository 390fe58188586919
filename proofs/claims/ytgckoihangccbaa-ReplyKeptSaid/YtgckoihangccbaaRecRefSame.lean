import Derived.Test.YtgckoihangccbaaRecSame
/-
  The contract of the document's own Same of records: are two records the same?
-/
namespace Go.Proofs.Ytgckoihangccbaa
open Go.RowKit

end Go.Proofs.Ytgckoihangccbaa
