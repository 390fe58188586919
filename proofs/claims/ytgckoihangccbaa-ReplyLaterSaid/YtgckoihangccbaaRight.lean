import Derived.Test.YtgckoihangccbaaFs
import Derived.Deep.QuietTactic
import Derived.BigQuiet
/-
  The contracts of field.Right and of the document's own: what rightB says; nothing that was in memory changes.
-/
namespace Go.Proofs.Ytgckoihangccbaa
open Go.RowKit

end Go.Proofs.Ytgckoihangccbaa
