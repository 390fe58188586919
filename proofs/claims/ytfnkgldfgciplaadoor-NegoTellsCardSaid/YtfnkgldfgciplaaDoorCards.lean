/-
  DERIVED. GIVEN WITH THE SEED: THE CARDS: each row of YtfnkgldfgciplaaDoorRows.lean that lists a variable, with what it lists TIED to the program's text (the seventh form; the later family's looks); each row that meets fmt, with fmt's text TOLD by the authors' own Lean function (tested against real Go, not proved from fmt's source: count such statements apart). THE CARD IS WHAT COUNTS. Prove the row's statement (the work); the ties are given (YtfnkgldfgciplaaDoorTie.lean); close each card by the builder's one call (the guide's Derived/Test/ToyasCard.lean, 'card_holds'). Laid BY PROGRAM, IN A SANDBOX (cutbox-door.mjs). By AI agents, Wed Nov 11 2026. No macro, syntax, notation, axiom, sorry.
-/
import Derived.Test.YtfnkgldfgciplaaDoorRows
import GoSem.ClaimSeven
namespace Go.Proofs.YtfnkgldfgciplaaDoor
namespace Rows

/-- THE TIED CARD OF 'careenlaw09.NegoTells'. -/
def negoTellsCard : Claim7 := { stood := { row := negoTellsRow, standIns := [], harness := (true, "57482178b2ab326ef7c84a4054b2f7af17e1256fdd4719c5c7812be14e020c30"), looks := false }, kinds := [], alts := [], laidByText := true, laidKinds := [.data], laidTests := true, laidLooks := .later }
def NegoTellsCardSaid : Prop := Claim7.holds Tryd.pinned (.plain (OpenSpec.ofChange negoTellsSpec)) negoTellsCard

/-- THE TIED CARD OF 'careenlaw09.NegoBoth'. -/
def negoBothCard : Claim7 := { stood := { row := negoBothRow, standIns := [], harness := (true, "57482178b2ab326ef7c84a4054b2f7af17e1256fdd4719c5c7812be14e020c30"), looks := false }, kinds := [], alts := [], laidByText := true, laidKinds := [.data], laidTests := true, laidLooks := .later }
def NegoBothCardSaid : Prop := Claim7.holds Tryd.pinned (.plain (OpenSpec.ofChange negoBothSpec)) negoBothCard

/-- THE TIED CARD OF 'careenlaw09.NegoMore'. -/
def negoMoreCard : Claim7 := { stood := { row := negoMoreRow, standIns := [], harness := (true, "57482178b2ab326ef7c84a4054b2f7af17e1256fdd4719c5c7812be14e020c30"), looks := false }, kinds := [], alts := [], laidByText := true, laidKinds := [.data], laidTests := true, laidLooks := .later }
def NegoMoreCardSaid : Prop := Claim7.holds Tryd.pinned (.plain (OpenSpec.ofChange negoMoreSpec)) negoMoreCard

/-- THE TIED CARD OF 'careenlaw09.NegoGate'. -/
def negoGateCard : Claim7 := { stood := { row := negoGateRow, standIns := [], harness := (true, "57482178b2ab326ef7c84a4054b2f7af17e1256fdd4719c5c7812be14e020c30"), looks := false }, kinds := [], alts := [], laidByText := true, laidKinds := [.data], laidTests := true, laidLooks := .later }
def NegoGateCardSaid : Prop := Claim7.holds Tryd.pinned (.plain (OpenSpec.ofChange negoGateSpec)) negoGateCard

/-- THE TIED CARD OF 'careenlaw09.NegoThree'. -/
def negoThreeCard : Claim7 := { stood := { row := negoThreeRow, standIns := [], harness := (true, "57482178b2ab326ef7c84a4054b2f7af17e1256fdd4719c5c7812be14e020c30"), looks := false }, kinds := [], alts := [], laidByText := true, laidKinds := [.data], laidTests := true, laidLooks := .later }
def NegoThreeCardSaid : Prop := Claim7.holds Tryd.pinned (.plain (OpenSpec.ofChange negoThreeSpec)) negoThreeCard

/-- THE SECOND FORM's CARD OF 'careenlaw09.NegoTells'. -/
def negoTellsUptoCard : Claim7 := { stood := { row := negoTellsUptoRow, standIns := [], harness := (true, "57482178b2ab326ef7c84a4054b2f7af17e1256fdd4719c5c7812be14e020c30"), looks := false }, kinds := [], alts := [], laidByText := true, laidKinds := [.data], laidTests := true, laidLooks := .later }
def NegoTellsUptoCardSaid : Prop := Claim7.holds Tryd.pinned (.plain (OpenSpec.upto negoTellsSpec)) negoTellsUptoCard

/-- THE SECOND FORM's CARD OF 'careenlaw09.NegoBoth'. -/
def negoBothUptoCard : Claim7 := { stood := { row := negoBothUptoRow, standIns := [], harness := (true, "57482178b2ab326ef7c84a4054b2f7af17e1256fdd4719c5c7812be14e020c30"), looks := false }, kinds := [], alts := [], laidByText := true, laidKinds := [.data], laidTests := true, laidLooks := .later }
def NegoBothUptoCardSaid : Prop := Claim7.holds Tryd.pinned (.plain (OpenSpec.upto negoBothSpec)) negoBothUptoCard

/-- THE SECOND FORM's CARD OF 'careenlaw09.NegoMore'. -/
def negoMoreUptoCard : Claim7 := { stood := { row := negoMoreUptoRow, standIns := [], harness := (true, "57482178b2ab326ef7c84a4054b2f7af17e1256fdd4719c5c7812be14e020c30"), looks := false }, kinds := [], alts := [], laidByText := true, laidKinds := [.data], laidTests := true, laidLooks := .later }
def NegoMoreUptoCardSaid : Prop := Claim7.holds Tryd.pinned (.plain (OpenSpec.upto negoMoreSpec)) negoMoreUptoCard

/-- THE SECOND FORM's CARD OF 'careenlaw09.NegoGate'. -/
def negoGateUptoCard : Claim7 := { stood := { row := negoGateUptoRow, standIns := [], harness := (true, "57482178b2ab326ef7c84a4054b2f7af17e1256fdd4719c5c7812be14e020c30"), looks := false }, kinds := [], alts := [], laidByText := true, laidKinds := [.data], laidTests := true, laidLooks := .later }
def NegoGateUptoCardSaid : Prop := Claim7.holds Tryd.pinned (.plain (OpenSpec.upto negoGateSpec)) negoGateUptoCard

/-- THE SECOND FORM's CARD OF 'careenlaw09.NegoThree'. -/
def negoThreeUptoCard : Claim7 := { stood := { row := negoThreeUptoRow, standIns := [], harness := (true, "57482178b2ab326ef7c84a4054b2f7af17e1256fdd4719c5c7812be14e020c30"), looks := false }, kinds := [], alts := [], laidByText := true, laidKinds := [.data], laidTests := true, laidLooks := .later }
def NegoThreeUptoCardSaid : Prop := Claim7.holds Tryd.pinned (.plain (OpenSpec.upto negoThreeSpec)) negoThreeUptoCard
end Rows
end Go.Proofs.YtfnkgldfgciplaaDoor
