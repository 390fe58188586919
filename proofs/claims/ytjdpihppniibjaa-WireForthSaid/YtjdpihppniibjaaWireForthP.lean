import Derived.Test.YtjdpihppniibjaaWireForth
import Derived.Test.YtjdpihppniibjaaWirePf
/-
  Encode undoes Decode.
  The law 'WireForth': for every input that can be read as data it returns true, and each argument reads behind the call as it read before. No condition of ours.
-/
namespace Go.Proofs.Ytjdpihppniibjaa
theorem wireForth_proved : Rows.WireForthSaid := wireForth_of rightC encC decC
end Go.Proofs.Ytjdpihppniibjaa
