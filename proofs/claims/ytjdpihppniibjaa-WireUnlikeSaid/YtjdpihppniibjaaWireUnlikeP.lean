import Derived.Test.YtjdpihppniibjaaWireUnlike
import Derived.Test.YtjdpihppniibjaaWirePf
/-
  Unlike messages have unlike bytes.
  The law 'WireUnlike': for every input that can be read as data it returns true, and each argument reads behind the call as it read before. No condition of ours.
-/
namespace Go.Proofs.Ytjdpihppniibjaa
theorem wireUnlike_proved : Rows.WireUnlikeSaid := wireUnlike_of rightC encC decC
end Go.Proofs.Ytjdpihppniibjaa
