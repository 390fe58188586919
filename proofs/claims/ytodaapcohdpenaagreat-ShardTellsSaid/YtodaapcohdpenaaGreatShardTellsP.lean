import Derived.Test.YtodaapcohdpenaaGreatShardTells
import Derived.Test.YtodaapcohdpenaaGreatShPc
import Derived.Test.YtodaapcohdpenaaGreatShPf
import Derived.Test.YtodaapcohdpenaaGreatShPk
/-
  The program answers as the document does: what is right, what is the same, and what a call does to a shard.
  The law 'ShardTells': for every input that can be read as data it returns true, and each argument reads behind the call as it read before. No condition of ours.
-/

namespace Go.Proofs.YtodaapcohdpenaaGreat
theorem shardTells_proved : Rows.ShardTellsSaid := atz K_ Ld Km KD.a Kz.a
end Go.Proofs.YtodaapcohdpenaaGreat
