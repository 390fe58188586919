import Derived.Test.YtodaapcohdpenaaGreatShardBack
import Derived.Test.YtodaapcohdpenaaGreatShPc
import Derived.Test.YtodaapcohdpenaaGreatShPf
import Derived.Test.YtodaapcohdpenaaGreatShPk
/-
  Who decodes what was encoded has the shard.
  The law 'ShardBack': for every input that can be read as data it returns true, and each argument reads behind the call as it read before. No condition of ours.
-/

namespace Go.Proofs.YtodaapcohdpenaaGreat
theorem shardBack_proved : Rows.ShardBackSaid := atg K_ Ld Km.a KD Kz
end Go.Proofs.YtodaapcohdpenaaGreat
