import Derived.Test.YtcifcpggiifjeaaSessionOrder
import Derived.Test.YtcifcpggiifjeaaSesPc
/-
  The order in which numbers come makes no difference to what came.
  The law 'SessionOrder': for every input that can be read as data it returns true, and each argument reads behind the call as it read before. No condition of ours.
-/
namespace Go.Proofs.Ytcifcpggiifjeaa
theorem sessionOrder_proved : Rows.SessionOrderSaid := sessionOrder_of rightC newC stampC takeC
end Go.Proofs.Ytcifcpggiifjeaa
