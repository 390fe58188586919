import Derived.Test.YtljjbpgbddaekaaMailDoubles
import Derived.Test.YtljjbpgbddaekaaMailPc
/-
  What is doubled is there once more, at the end; lost again all is as it was.
  The law 'MailDoubles': for every input that can be read as data it returns true, and each argument reads behind the call as it read before. No condition of ours.
-/
namespace Go.Proofs.Ytljjbpgbddaekaa
theorem mailDoubles_proved : Rows.MailDoublesSaid := mailDoubles_of postC copyC loseC takeC forC
end Go.Proofs.Ytljjbpgbddaekaa
