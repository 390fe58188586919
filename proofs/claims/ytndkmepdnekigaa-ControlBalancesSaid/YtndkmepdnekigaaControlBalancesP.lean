import Derived.Test.YtndkmepdnekigaaControlBalances
import Derived.Test.YtndkmepdnekigaaCtP
/-
  Who plans what Balance tells, and commits, again and again, comes to loads that are at most one apart, in at most as many moves as there are places.
  The law 'ControlBalances': for every input that can be read as data it returns true, and each argument reads behind the call as it read before. No condition of ours.
-/
namespace Go.Proofs.Ytndkmepdnekigaa
theorem controlBalances_proved : Rows.ControlBalancesSaid := controlBalances_of rightC9_any newC9_any joinC9_any reportC9_any finalC9_any planC9_any commitC9_any cancelC9_any balC9_any
end Go.Proofs.Ytndkmepdnekigaa
