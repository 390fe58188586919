import Derived.Test.YtjciojgldibfmaaFrameBack
import Derived.Test.YtjciojgldibfmaaFrP7
/-
  Frames, one behind the other, are scanned to these, by either version.
  The law 'FrameBack': for every input that can be read as data it returns true, and each argument reads behind the call as it read before. No condition of ours.
-/
namespace Go.Proofs.Ytjciojgldibfmaa
theorem frameBack_proved : Rows.FrameBackSaid := frameBack_of encC scanC rightC
end Go.Proofs.Ytjciojgldibfmaa
