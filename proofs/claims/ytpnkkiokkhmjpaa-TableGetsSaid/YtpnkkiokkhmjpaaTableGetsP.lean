import Derived.Test.YtpnkkiokkhmjpaaTableGets
import Derived.Test.YtpnkkiokkhmjpaaGTabQ
/-
  What is put is got, with the rev that was told; what is deleted is not; a cas goes by that rev.
  The law 'TableGets': for every input that can be read as data it returns true, and each argument reads behind the call as it read before. No condition of ours.
-/
namespace Go.Proofs.Ytpnkkiokkhmjpaa
theorem tableGets_proved : Rows.TableGetsSaid := tableGets_of checkT_any writesT_any rightQT_any sameQT_any doT_any
end Go.Proofs.Ytpnkkiokkhmjpaa
