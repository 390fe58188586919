import Derived.Test.YtjciojgldibfmaaFrameJoined
import Derived.Test.YtjciojgldibfmaaFrP7
/-
  What is scanned of two texts, the first one of whole frames, is what is scanned of each.
  The law 'FrameJoined': for every input that can be read as data it returns true, and each argument reads behind the call as it read before. Where what comes in is of bulk at most 1048576 ('..UptoSaid').
-/
namespace Go.Proofs.Ytjciojgldibfmaa
theorem frameJoined_proved : Rows.FrameJoinedUptoSaid := frameJoined_of encC scanC rightC
end Go.Proofs.Ytjciojgldibfmaa
