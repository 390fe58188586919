import Derived.Test.YtjciojgldibfmaaFrameTells
import Derived.Test.YtjciojgldibfmaaFrP7
/-
  Frames may be, are encoded and scanned, as the document says.
  The law 'FrameTells': for every input that can be read as data it returns true, and each argument reads behind the call as it read before. Where what comes in is of bulk at most 1048576 ('..UptoSaid').
-/
namespace Go.Proofs.Ytjciojgldibfmaa
theorem frameTells_proved : Rows.FrameTellsUptoSaid := frameTells_of encC scanC rightC
end Go.Proofs.Ytjciojgldibfmaa
