import Derived.Test.YtndkmepdnekigaaControlEven
import Derived.Test.YtndkmepdnekigaaCtP
/-
  Balance tells a place of a member that has two more than another one, at least, and to that one; a plan of it brings the loads nearer.
  The law 'ControlEven': for every input that can be read as data it returns true, and each argument reads behind the call as it read before. No condition of ours.
-/
namespace Go.Proofs.Ytndkmepdnekigaa
theorem controlEven_proved : Rows.ControlEvenSaid := controlEven_of rightC9_any newC9_any joinC9_any reportC9_any finalC9_any planC9_any commitC9_any cancelC9_any balC9_any
end Go.Proofs.Ytndkmepdnekigaa
