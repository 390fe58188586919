import Derived.Test.YtpnkkiokkhmjpaaTableScans
import Derived.Test.YtpnkkiokkhmjpaaGTabQ
/-
  A scan tells just the keys there are, rising, the first five; one behind the other they are all.
  The law 'TableScans': for every input that can be read as data it returns true, and each argument reads behind the call as it read before. No condition of ours.
-/
namespace Go.Proofs.Ytpnkkiokkhmjpaa
theorem tableScans_proved : Rows.TableScansSaid := tableScans_of checkT_any writesT_any rightQT_any sameQT_any doT_any
end Go.Proofs.Ytpnkkiokkhmjpaa
