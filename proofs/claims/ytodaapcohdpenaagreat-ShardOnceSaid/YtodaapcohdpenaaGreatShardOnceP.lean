import Derived.Test.YtodaapcohdpenaaGreatShardOnce
import Derived.Test.YtodaapcohdpenaaGreatShPc
import Derived.Test.YtodaapcohdpenaaGreatShPf
import Derived.Test.YtodaapcohdpenaaGreatShPk
/-
  A call that writes is done once, however often it is asked; the reply stays.
  The law 'ShardOnce': for every input that can be read as data it returns true, and each argument reads behind the call as it read before. No condition of ours.
-/

namespace Go.Proofs.YtodaapcohdpenaaGreat
theorem shardOnce_proved : Rows.ShardOnceSaid := atn K_ Ld Km KD.a Kz.a
end Go.Proofs.YtodaapcohdpenaaGreat
