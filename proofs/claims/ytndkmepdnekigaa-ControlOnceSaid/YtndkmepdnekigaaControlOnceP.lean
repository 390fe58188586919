import Derived.Test.YtndkmepdnekigaaControlOnce
import Derived.Test.YtndkmepdnekigaaCtP
/-
  Finalised twice is finalised once; who joined has no shard, and is the only one more.
  The law 'ControlOnce': for every input that can be read as data it returns true, and each argument reads behind the call as it read before. No condition of ours.
-/
namespace Go.Proofs.Ytndkmepdnekigaa
theorem controlOnce_proved : Rows.ControlOnceSaid := controlOnce_of rightC9_any newC9_any joinC9_any reportC9_any finalC9_any planC9_any commitC9_any cancelC9_any balC9_any
end Go.Proofs.Ytndkmepdnekigaa
