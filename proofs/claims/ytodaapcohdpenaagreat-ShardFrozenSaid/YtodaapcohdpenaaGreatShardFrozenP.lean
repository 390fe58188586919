import Derived.Test.YtodaapcohdpenaaGreatShardFrozen
import Derived.Test.YtodaapcohdpenaaGreatShPc
import Derived.Test.YtodaapcohdpenaaGreatShPf
import Derived.Test.YtodaapcohdpenaaGreatShPk
/-
  A frozen shard stays as it is.
  The law 'ShardFrozen': for every input that can be read as data it returns true, and each argument reads behind the call as it read before. No condition of ours.
-/

namespace Go.Proofs.YtodaapcohdpenaaGreat
theorem shardFrozen_proved : Rows.ShardFrozenSaid := atl K_ Ld Km KD.a Kz.a
end Go.Proofs.YtodaapcohdpenaaGreat
