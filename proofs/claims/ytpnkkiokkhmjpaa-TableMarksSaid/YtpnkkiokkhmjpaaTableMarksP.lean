import Derived.Test.YtpnkkiokkhmjpaaTableMarks
import Derived.Test.YtpnkkiokkhmjpaaGTabQ
/-
  What is marked has that Life and Note, and its Value still; what is put still has its Life and Note.
  The law 'TableMarks': for every input that can be read as data it returns true, and each argument reads behind the call as it read before. No condition of ours.
-/
namespace Go.Proofs.Ytpnkkiokkhmjpaa
theorem tableMarks_proved : Rows.TableMarksSaid := tableMarks_of checkT_any writesT_any rightQT_any sameQT_any doT_any
end Go.Proofs.Ytpnkkiokkhmjpaa
