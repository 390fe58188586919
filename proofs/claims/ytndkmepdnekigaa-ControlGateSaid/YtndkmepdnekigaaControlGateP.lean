import Derived.Test.YtndkmepdnekigaaControlGate
import Derived.Test.YtndkmepdnekigaaCtP
/-
  Finalised is granted just if all members tell 2; then nobody tells 1 any more, nor joins with 1; before, each may go back.
  The law 'ControlGate': for every input that can be read as data it returns true, and each argument reads behind the call as it read before. No condition of ours.
-/
namespace Go.Proofs.Ytndkmepdnekigaa
theorem controlGate_proved : Rows.ControlGateSaid := controlGate_of rightC9_any newC9_any joinC9_any reportC9_any finalC9_any planC9_any commitC9_any cancelC9_any balC9_any
end Go.Proofs.Ytndkmepdnekigaa
