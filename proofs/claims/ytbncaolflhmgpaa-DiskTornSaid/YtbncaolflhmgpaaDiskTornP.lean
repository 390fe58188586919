import Derived.Test.YtbncaolflhmgpaaDiskTorn
import Derived.Test.YtbncaolflhmgpaaDkS
/-
  Behind a crash the log is a beginning of what it was, and has all that was synced; the base is what it was; a crash behind a crash, a sync or a swap changes nothing.
  The law 'DiskTorn': for every input that can be read as data it returns true, and each argument reads behind the call as it read before. No condition of ours.
-/
namespace Go.Proofs.Ytbncaolflhmgpaa
theorem diskTorn_proved : Rows.DiskTornSaid := diskTorn_of logC appC syncC crashC swapC
end Go.Proofs.Ytbncaolflhmgpaa
