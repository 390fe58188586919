import Derived.Test.YtbncaolflhmgpaaDiskOrder
import Derived.Test.YtbncaolflhmgpaaDkS
/-
  What was synced stays the log's beginning, until it is swapped, whatever is done.
  The law 'DiskOrder': for every input that can be read as data it returns true, and each argument reads behind the call as it read before. No condition of ours.
-/
namespace Go.Proofs.Ytbncaolflhmgpaa
theorem diskOrder_proved : Rows.DiskOrderSaid := diskOrder_of logC appC syncC crashC swapC
end Go.Proofs.Ytbncaolflhmgpaa
