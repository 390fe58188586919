import Derived.Test.YtjciojgldibfmaaFrameAgain
import Derived.Test.YtjciojgldibfmaaFrP7
/-
  What was scanned, put into frames again, is what was scanned from.
  The law 'FrameAgain': for every input that can be read as data it returns true, and each argument reads behind the call as it read before. Where what comes in is of bulk at most 1048576 ('..UptoSaid').
-/
namespace Go.Proofs.Ytjciojgldibfmaa
theorem frameAgain_proved : Rows.FrameAgainUptoSaid := frameAgain_of encC scanC rightC
end Go.Proofs.Ytjciojgldibfmaa
