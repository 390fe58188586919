import Derived.Test.YtodaapcohdpenaaGreatShardTable
import Derived.Test.YtodaapcohdpenaaGreatShPc
import Derived.Test.YtodaapcohdpenaaGreatShPf
import Derived.Test.YtodaapcohdpenaaGreatShPk
/-
  A shard does what its table does.
  The law 'ShardTable': for every input that can be read as data it returns true, and each argument reads behind the call as it read before. No condition of ours.
-/

namespace Go.Proofs.YtodaapcohdpenaaGreat
theorem shardTable_proved : Rows.ShardTableSaid := atx K_ Ld Km KD.a Kz.a
end Go.Proofs.YtodaapcohdpenaaGreat
