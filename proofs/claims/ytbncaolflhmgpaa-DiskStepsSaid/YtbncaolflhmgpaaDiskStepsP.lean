import Derived.Test.YtbncaolflhmgpaaDiskSteps
import Derived.Test.YtbncaolflhmgpaaDkS
/-
  What is appended piece by piece is as all at once; what was synced outlives each crash.
  The law 'DiskSteps': for every input that can be read as data it returns true, and each argument reads behind the call as it read before. No condition of ours.
-/
namespace Go.Proofs.Ytbncaolflhmgpaa
theorem diskSteps_proved : Rows.DiskStepsSaid := diskSteps_of logC appC syncC crashC swapC
end Go.Proofs.Ytbncaolflhmgpaa
