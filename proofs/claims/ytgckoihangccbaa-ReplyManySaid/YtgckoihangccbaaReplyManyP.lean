import Derived.Test.YtgckoihangccbaaReplyMany
import Derived.Test.YtgckoihangccbaaRpPh
import Derived.Test.YtgckoihangccbaaRpPj
/-
  Eight clients are kept, a ninth one is not; each one's last call is told, whatever others do.
  The law 'ReplyMany': for every input that can be read as data it returns true, and each argument reads behind the call as it read before. No condition of ours.
-/
namespace Go.Proofs.Ytgckoihangccbaa
theorem replyMany_proved : Rows.ReplyManySaid := replyMany_of keepQ_any lookQ_any rightQ13_any sameQ13_any sameAllQ_any
end Go.Proofs.Ytgckoihangccbaa
