import Derived.Test.YtgckoihangccbaaReplyLater
import Derived.Test.YtgckoihangccbaaRpPh
import Derived.Test.YtgckoihangccbaaRpPj
/-
  Of one client's calls, kept in whatever order, the one of the greatest number is told; those that are older when they come are refused.
  The law 'ReplyLater': for every input that can be read as data it returns true, and each argument reads behind the call as it read before. No condition of ours.
-/
namespace Go.Proofs.Ytgckoihangccbaa
theorem replyLater_proved : Rows.ReplyLaterSaid := replyLater_of keepQ_any lookQ_any rightQ13_any sameQ13_any sameAllQ_any
end Go.Proofs.Ytgckoihangccbaa
