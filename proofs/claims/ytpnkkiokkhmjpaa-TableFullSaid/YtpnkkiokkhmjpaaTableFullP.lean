import Derived.Test.YtpnkkiokkhmjpaaTableFull
import Derived.Test.YtpnkkiokkhmjpaaGTabQ
/-
  Twenty keys may be, one more may not, until one is deleted.
  The law 'TableFull': for every input that can be read as data it returns true, and each argument reads behind the call as it read before. No condition of ours.
-/
namespace Go.Proofs.Ytpnkkiokkhmjpaa
theorem tableFull_proved : Rows.TableFullSaid := tableFull_of checkT_any writesT_any rightQT_any sameQT_any doT_any
end Go.Proofs.Ytpnkkiokkhmjpaa
