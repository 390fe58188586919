import Derived.Test.YtljjbpgbddaekaaMailStays
import Derived.Test.YtljjbpgbddaekaaMailPc
/-
  What is taken was posted; what is neither taken nor lost stays, in order.
  The law 'MailStays': for every input that can be read as data it returns true, and each argument reads behind the call as it read before. No condition of ours.
-/
namespace Go.Proofs.Ytljjbpgbddaekaa
theorem mailStays_proved : Rows.MailStaysSaid := mailStays_of postC copyC loseC takeC forC
end Go.Proofs.Ytljjbpgbddaekaa
