import Derived.Test.YtjciojgldibfmaaFrameWrong
import Derived.Test.YtjciojgldibfmaaFrP7
/-
  One byte of Data, or of the sum, that is another one, ends it with ErrForm, at that frame.
  The law 'FrameWrong': for every input that can be read as data it returns true, and each argument reads behind the call as it read before. No condition of ours.
-/
namespace Go.Proofs.Ytjciojgldibfmaa
theorem frameWrong_proved : Rows.FrameWrongSaid := frameWrong_of encC scanC rightC
end Go.Proofs.Ytjciojgldibfmaa
