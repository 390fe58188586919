import Derived.Test.YtndkmepdnekigaaControlMoves
import Derived.Test.YtndkmepdnekigaaCtP
/-
  Epochs only rise, by one for each commit; a move that is cancelled changes nothing; what comes out is right.
  The law 'ControlMoves': for every input that can be read as data it returns true, and each argument reads behind the call as it read before. No condition of ours.
-/
namespace Go.Proofs.Ytndkmepdnekigaa
theorem controlMoves_proved : Rows.ControlMovesSaid := controlMoves_of rightC9_any newC9_any joinC9_any reportC9_any finalC9_any planC9_any commitC9_any cancelC9_any balC9_any
end Go.Proofs.Ytndkmepdnekigaa
