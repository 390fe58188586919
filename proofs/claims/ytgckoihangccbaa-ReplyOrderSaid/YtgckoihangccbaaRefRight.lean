import Derived.Test.YtgckoihangccbaaRight
/-
  The contract of the document's own Right: what rightB says; memory stays as it was but for what is drawn.
-/
namespace Go.Proofs.Ytgckoihangccbaa
open Go.RowKit

end Go.Proofs.Ytgckoihangccbaa
