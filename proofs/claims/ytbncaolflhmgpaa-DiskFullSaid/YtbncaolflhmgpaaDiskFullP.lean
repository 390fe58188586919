import Derived.Test.YtbncaolflhmgpaaDiskFull
import Derived.Test.YtbncaolflhmgpaaDkS
/-
  So many bytes as there may be are appended, and swapped, one more is not; then the disk is as it was.
  The law 'DiskFull': for every input that can be read as data it returns true, and each argument reads behind the call as it read before. No condition of ours.
-/
namespace Go.Proofs.Ytbncaolflhmgpaa
theorem diskFull_proved : Rows.DiskFullSaid := diskFull_of logC appC syncC crashC swapC
end Go.Proofs.Ytbncaolflhmgpaa
