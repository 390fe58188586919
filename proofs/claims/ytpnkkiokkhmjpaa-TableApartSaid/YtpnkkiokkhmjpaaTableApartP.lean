import Derived.Test.YtpnkkiokkhmjpaaTableApart
import Derived.Test.YtpnkkiokkhmjpaaGTabQ
/-
  Ops of unlike keys may be done in either order.
  The law 'TableApart': for every input that can be read as data it returns true, and each argument reads behind the call as it read before. No condition of ours.
-/
namespace Go.Proofs.Ytpnkkiokkhmjpaa
theorem tableApart_proved : Rows.TableApartSaid := tableApart_of checkT_any writesT_any rightQT_any sameQT_any doT_any
end Go.Proofs.Ytpnkkiokkhmjpaa
