import Derived.Test.YtcifcpggiifjeaaSessionFar
import Derived.Test.YtcifcpggiifjeaaSesPc
/-
  What is too far ahead is refused, and changes nothing; when those ahead of it came, it is taken.
  The law 'SessionFar': for every input that can be read as data it returns true, and each argument reads behind the call as it read before. No condition of ours.
-/
namespace Go.Proofs.Ytcifcpggiifjeaa
theorem sessionFar_proved : Rows.SessionFarSaid := sessionFar_of rightC newC stampC takeC
end Go.Proofs.Ytcifcpggiifjeaa
