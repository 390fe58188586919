import Derived.Test.YtndkmepdnekigaaControlTells
import Derived.Test.YtndkmepdnekigaaCtP
/-
  What may be, and what each command does, is as the document says.
  The law 'ControlTells': for every input that can be read as data it returns true, and each argument reads behind the call as it read before. No condition of ours.
-/
namespace Go.Proofs.Ytndkmepdnekigaa
theorem controlTells_proved : Rows.ControlTellsSaid := controlTells_of rightC9_any newC9_any joinC9_any reportC9_any finalC9_any planC9_any commitC9_any cancelC9_any balC9_any
end Go.Proofs.Ytndkmepdnekigaa
