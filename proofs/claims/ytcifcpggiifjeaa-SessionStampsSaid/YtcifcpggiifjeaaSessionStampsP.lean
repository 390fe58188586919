import Derived.Test.YtcifcpggiifjeaaSessionStamps
import Derived.Test.YtcifcpggiifjeaaSesPc
/-
  What was stamped rises by one, whatever came between.
  The law 'SessionStamps': for every input that can be read as data it returns true, and each argument reads behind the call as it read before. No condition of ours.
-/
namespace Go.Proofs.Ytcifcpggiifjeaa
theorem sessionStamps_proved : Rows.SessionStampsSaid := sessionStamps_of rightC newC stampC takeC
end Go.Proofs.Ytcifcpggiifjeaa
