import Derived.Test.YtjdpihppniibjaaWireOlder
import Derived.Test.YtjdpihppniibjaaWirePf
/-
  What version 1 may say version 2 may say, too, with the same bytes but the first one.
  The law 'WireOlder': for every input that can be read as data it returns true, and each argument reads behind the call as it read before. No condition of ours.
-/
namespace Go.Proofs.Ytjdpihppniibjaa
theorem wireOlder_proved : Rows.WireOlderSaid := wireOlder_of rightC encC decC
end Go.Proofs.Ytjdpihppniibjaa
