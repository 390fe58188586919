import Derived.Test.YtljjbpgbddaekaaMailFull
import Derived.Test.YtljjbpgbddaekaaMailPc
/-
  As many letters as there may be are posted, one more is not.
  The law 'MailFull': for every input that can be read as data it returns true, and each argument reads behind the call as it read before. No condition of ours.
-/
namespace Go.Proofs.Ytljjbpgbddaekaa
theorem mailFull_proved : Rows.MailFullSaid := mailFull_of postC copyC loseC takeC forC
end Go.Proofs.Ytljjbpgbddaekaa
