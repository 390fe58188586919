import Derived.Test.YtcifcpggiifjeaaSessionOnce
import Derived.Test.YtcifcpggiifjeaaSesPc
/-
  Whatever comes, in whatever order, however often: each number is new once.
  The law 'SessionOnce': for every input that can be read as data it returns true, and each argument reads behind the call as it read before. No condition of ours.
-/
namespace Go.Proofs.Ytcifcpggiifjeaa
theorem sessionOnce_proved : Rows.SessionOnceSaid := sessionOnce_of rightC newC stampC takeC
end Go.Proofs.Ytcifcpggiifjeaa
