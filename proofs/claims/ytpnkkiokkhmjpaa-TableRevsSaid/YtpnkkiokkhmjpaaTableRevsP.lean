import Derived.Test.YtpnkkiokkhmjpaaTableRevs
import Derived.Test.YtpnkkiokkhmjpaaGTabQ
/-
  Revs of a key rise by one with each change; deleted and put again they begin anew.
  The law 'TableRevs': for every input that can be read as data it returns true, and each argument reads behind the call as it read before. No condition of ours.
-/
namespace Go.Proofs.Ytpnkkiokkhmjpaa
theorem tableRevs_proved : Rows.TableRevsSaid := tableRevs_of checkT_any writesT_any rightQT_any sameQT_any doT_any
end Go.Proofs.Ytpnkkiokkhmjpaa
