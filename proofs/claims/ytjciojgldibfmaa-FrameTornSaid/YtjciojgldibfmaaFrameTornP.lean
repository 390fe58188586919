import Derived.Test.YtjciojgldibfmaaFrameTorn
import Derived.Test.YtjciojgldibfmaaFrP7
/-
  Whatever is cut off at the end, frames that are whole are told.
  The law 'FrameTorn': for every input that can be read as data it returns true, and each argument reads behind the call as it read before. No condition of ours.
-/
namespace Go.Proofs.Ytjciojgldibfmaa
theorem frameTorn_proved : Rows.FrameTornSaid := frameTorn_of encC scanC rightC
end Go.Proofs.Ytjciojgldibfmaa
