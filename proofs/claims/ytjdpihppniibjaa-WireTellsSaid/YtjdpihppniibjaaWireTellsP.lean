import Derived.Test.YtjdpihppniibjaaWireTells
import Derived.Test.YtjdpihppniibjaaWirePf
/-
  Messages may be, are encoded and decoded as the document says.
  The law 'WireTells': for every input that can be read as data it returns true, and each argument reads behind the call as it read before. No condition of ours.
-/
namespace Go.Proofs.Ytjdpihppniibjaa
theorem wireTells_proved : Rows.WireTellsSaid := wireTells_of rightC encC decC
end Go.Proofs.Ytjdpihppniibjaa
