import Derived.Test.YtljjbpgbddaekaaMailMixed
import Derived.Test.YtljjbpgbddaekaaMailPc
/-
  In whatever order letters are taken, each is taken once, and none is left.
  The law 'MailMixed': for every input that can be read as data it returns true, and each argument reads behind the call as it read before. No condition of ours.
-/
namespace Go.Proofs.Ytljjbpgbddaekaa
theorem mailMixed_proved : Rows.MailMixedSaid := mailMixed_of postC copyC loseC takeC forC
end Go.Proofs.Ytljjbpgbddaekaa
