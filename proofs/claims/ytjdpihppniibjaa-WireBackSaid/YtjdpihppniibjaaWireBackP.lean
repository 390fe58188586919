import Derived.Test.YtjdpihppniibjaaWireBack
import Derived.Test.YtjdpihppniibjaaWirePf
/-
  Decode undoes Encode, by either version.
  The law 'WireBack': for every input that can be read as data it returns true, and each argument reads behind the call as it read before. No condition of ours.
-/
namespace Go.Proofs.Ytjdpihppniibjaa
theorem wireBack_proved : Rows.WireBackSaid := wireBack_of rightC encC decC
end Go.Proofs.Ytjdpihppniibjaa
