import Derived.Test.YtgckoihangccbaaReplyOrder
import Derived.Test.YtgckoihangccbaaRpPh
import Derived.Test.YtgckoihangccbaaRpPj
/-
  What is kept for unlike clients may be kept in either order.
  The law 'ReplyOrder': for every input that can be read as data it returns true, and each argument reads behind the call as it read before. No condition of ours.
-/
namespace Go.Proofs.Ytgckoihangccbaa
theorem replyOrder_proved : Rows.ReplyOrderSaid := replyOrder_of keepQ_any lookQ_any rightQ13_any sameQ13_any sameAllQ_any
end Go.Proofs.Ytgckoihangccbaa
