import Derived.Test.YtodaapcohdpenaaGreatShardForth
import Derived.Test.YtodaapcohdpenaaGreatShPc
import Derived.Test.YtodaapcohdpenaaGreatShPf
import Derived.Test.YtodaapcohdpenaaGreatShPk
/-
  What decodes encodes to the same bytes; else there is an error.
  The law 'ShardForth': for every input that can be read as data it returns true, and each argument reads behind the call as it read before. No condition of ours.
-/

namespace Go.Proofs.YtodaapcohdpenaaGreat
theorem shardForth_proved : Rows.ShardForthSaid := ati K_ Ld Km.a KD Kz (aeP (by omega))
end Go.Proofs.YtodaapcohdpenaaGreat
