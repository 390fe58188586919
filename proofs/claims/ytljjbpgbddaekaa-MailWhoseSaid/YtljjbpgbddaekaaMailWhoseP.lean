import Derived.Test.YtljjbpgbddaekaaMailWhose
import Derived.Test.YtljjbpgbddaekaaMailPc
/-
  Each letter is one's, whose To it has; these are all.
  The law 'MailWhose': for every input that can be read as data it returns true, and each argument reads behind the call as it read before. No condition of ours.
-/
namespace Go.Proofs.Ytljjbpgbddaekaa
theorem mailWhose_proved : Rows.MailWhoseSaid := mailWhose_of postC copyC loseC takeC forC
end Go.Proofs.Ytljjbpgbddaekaa
