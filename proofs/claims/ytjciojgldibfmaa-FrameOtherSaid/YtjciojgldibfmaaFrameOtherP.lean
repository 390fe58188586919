import Derived.Test.YtjciojgldibfmaaFrameOther
import Derived.Test.YtjciojgldibfmaaFrP7
/-
  What one version wrote is not read by the other one.
  The law 'FrameOther': for every input that can be read as data it returns true, and each argument reads behind the call as it read before. No condition of ours.
-/
namespace Go.Proofs.Ytjciojgldibfmaa
theorem frameOther_proved : Rows.FrameOtherSaid := frameOther_of encC scanC rightC
end Go.Proofs.Ytjciojgldibfmaa
