import Derived.Test.YtodaapcohdpenaaGreatShardReads
import Derived.Test.YtodaapcohdpenaaGreatShPc
import Derived.Test.YtodaapcohdpenaaGreatShPf
import Derived.Test.YtodaapcohdpenaaGreatShPk
/-
  What does not write changes nothing.
  The law 'ShardReads': for every input that can be read as data it returns true, and each argument reads behind the call as it read before. No condition of ours.
-/

namespace Go.Proofs.YtodaapcohdpenaaGreat
theorem shardReads_proved : Rows.ShardReadsSaid := atv K_ Ld Km KD.a Kz.a
end Go.Proofs.YtodaapcohdpenaaGreat
