import Derived.Test.YtcifcpggiifjeaaSessionTells
import Derived.Test.YtcifcpggiifjeaaSesPc
/-
  What is stamped and taken is as the document says.
  The law 'SessionTells': for every input that can be read as data it returns true, and each argument reads behind the call as it read before. No condition of ours.
-/
namespace Go.Proofs.Ytcifcpggiifjeaa
theorem sessionTells_proved : Rows.SessionTellsSaid := sessionTells_of rightC newC stampC takeC
end Go.Proofs.Ytcifcpggiifjeaa
