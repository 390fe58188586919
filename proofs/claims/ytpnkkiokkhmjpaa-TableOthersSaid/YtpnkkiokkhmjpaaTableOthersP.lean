import Derived.Test.YtpnkkiokkhmjpaaTableOthers
import Derived.Test.YtpnkkiokkhmjpaaGTabQ
/-
  An op changes no other key, and nothing that a key carries but what it says; what comes out is right.
  The law 'TableOthers': for every input that can be read as data it returns true, and each argument reads behind the call as it read before. No condition of ours.
-/
namespace Go.Proofs.Ytpnkkiokkhmjpaa
theorem tableOthers_proved : Rows.TableOthersSaid := tableOthers_of checkT_any writesT_any rightQT_any sameQT_any doT_any
end Go.Proofs.Ytpnkkiokkhmjpaa
