import Derived.Test.YtndkmepdnekigaaControlBack
import Derived.Test.YtndkmepdnekigaaCtP
/-
  Before it is final, who told 2, and tells the old binary again, is as before: nothing else is changed.
  The law 'ControlBack': for every input that can be read as data it returns true, and each argument reads behind the call as it read before. No condition of ours.
-/
namespace Go.Proofs.Ytndkmepdnekigaa
theorem controlBack_proved : Rows.ControlBackSaid := controlBack_of rightC9_any newC9_any joinC9_any reportC9_any finalC9_any planC9_any commitC9_any cancelC9_any balC9_any
end Go.Proofs.Ytndkmepdnekigaa
