import Derived.Test.YtgckoihangccbaaReplyKept
import Derived.Test.YtgckoihangccbaaRpPh
import Derived.Test.YtgckoihangccbaaRpPj
/-
  What was kept is told, until something later is kept of that client; others change nothing of it; a call is new once.
  The law 'ReplyKept': for every input that can be read as data it returns true, and each argument reads behind the call as it read before. No condition of ours.
-/
namespace Go.Proofs.Ytgckoihangccbaa
theorem replyKept_proved : Rows.ReplyKeptSaid := replyKept_of keepQ_any lookQ_any rightQ13_any sameQ13_any sameAllQ_any
end Go.Proofs.Ytgckoihangccbaa
