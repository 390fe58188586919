import Derived.Test.YtjciojgldibfmaaFrameBoth
import Derived.Test.YtjciojgldibfmaaFrP7
/-
  What version 1 may write version 2 may write, too, in no more bytes, but for one.
  The law 'FrameBoth': for every input that can be read as data it returns true, and each argument reads behind the call as it read before. No condition of ours.
-/
namespace Go.Proofs.Ytjciojgldibfmaa
theorem frameBoth_proved : Rows.FrameBothSaid := frameBoth_of encC scanC rightC
end Go.Proofs.Ytjciojgldibfmaa
