import Derived.Test.YtpnkkiokkhmjpaaTableTells
import Derived.Test.YtpnkkiokkhmjpaaGTabQ
/-
  What ops are, do and are replied is as the document says.
  The law 'TableTells': for every input that can be read as data it returns true, and each argument reads behind the call as it read before. No condition of ours.
-/
namespace Go.Proofs.Ytpnkkiokkhmjpaa
theorem tableTells_proved : Rows.TableTellsSaid := tableTells_of checkT_any writesT_any rightQT_any sameQT_any doT_any
end Go.Proofs.Ytpnkkiokkhmjpaa
