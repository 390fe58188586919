import Derived.Test.YtljjbpgbddaekaaMailTells
import Derived.Test.YtljjbpgbddaekaaMailPc
/-
  What is posted, doubled, lost, taken and found is as the document says.
  The law 'MailTells': for every input that can be read as data it returns true, and each argument reads behind the call as it read before. No condition of ours.
-/
namespace Go.Proofs.Ytljjbpgbddaekaa
theorem mailTells_proved : Rows.MailTellsSaid := mailTells_of postC copyC loseC takeC forC
end Go.Proofs.Ytljjbpgbddaekaa
