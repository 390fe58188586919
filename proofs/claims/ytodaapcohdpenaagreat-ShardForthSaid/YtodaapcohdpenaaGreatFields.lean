-- eB
import Derived.Test.YtodaapcohdpenaaGreatGFld
import Derived.Test.YtodaapcohdpenaaGreatGEnc
namespace Go.Proofs.YtodaapcohdpenaaGreat
open Go.RowKit

end Go.Proofs.YtodaapcohdpenaaGreat
