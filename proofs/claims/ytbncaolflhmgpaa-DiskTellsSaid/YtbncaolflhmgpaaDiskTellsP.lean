import Derived.Test.YtbncaolflhmgpaaDiskTells
import Derived.Test.YtbncaolflhmgpaaDkS
/-
  What is appended, synced, torn off and swapped is as the document says.
  The law 'DiskTells': for every input that can be read as data it returns true, and each argument reads behind the call as it read before. No condition of ours.
-/
namespace Go.Proofs.Ytbncaolflhmgpaa
theorem diskTells_proved : Rows.DiskTellsSaid := diskTells_of logC appC syncC crashC swapC
end Go.Proofs.Ytbncaolflhmgpaa
