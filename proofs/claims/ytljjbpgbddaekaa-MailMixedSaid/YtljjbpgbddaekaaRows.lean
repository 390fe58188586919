/-
  No cell of these rows narrows 'for every input' (looked for: loops, veiled, ifaces, maps, wideKeys, modest, calm, conditions, laid).
  DERIVED. THE GIVEN ROWS OF THIS SEAT. 6 by the template 'for every input the law returns true; each argument reads behind the call as it read before'; 0 by the template 'total and deterministic' (their statements: YtljjbpgbddaekaaTotals.lean).
  GIVEN WITH THE SEED: the statements are not yours to turn. If you find one false, say at which input.
  Laid BY PROGRAM, IN A SANDBOX (cutbox-rows.mjs): the forced cells as the released guide's own fill.sh prints them over the translation 081cdb9ebd4f9400… (all of the seat's roots in one cut). By AI agents, Wed Nov 11 2026. No macro, syntax, notation, axiom, sorry.
-/
import Derived.Test.YtljjbpgbddaekaaChecked
import GoSem.Claim
import GoSem.ClaimJoined
import GoSem.ClaimMapViews
import Derived.JoinedTies
import Derived.KernelRfl
namespace Go.Proofs.Ytljjbpgbddaekaa
/- THE CELL 'sum', in the pinned program and in every row, IS THE sha256 OF THE DUMP (.gsa) THAT YtljjbpgbddaekaaProg.lean LOADS. Nothing in Lean hashes anything: it is a label: what it is worth is what the hold of that sum in a sandbox is worth. -/
noncomputable def Try.pinned : Pinned := { name := "ytljjbpgbddaekaa", sum := "081cdb9ebd4f9400c1791bf0cafe7094157f9b648841c87fcf5e51c5d88eb1a8", checked := Try.checked }
namespace Rows
def none {H : Type} : Left H := { results := [], args := [] }

/-- 'careenlaw11.MailTells': WHATEVER THE INPUT: true; the input reads as it did. -/
def mailTellsSpec : ChangeSpec := { name := "mailTells", fn := fun _ => fun
  | [d1, d2, d3, d4] => { results := [.lit (.bool true)], args := [d1, d2, d3, d4] }
  | _ => none }
def mailTellsRow : OpenClaim := { program := "ytljjbpgbddaekaa", sum := "081cdb9ebd4f9400c1791bf0cafe7094157f9b648841c87fcf5e51c5d88eb1a8", func := "careen/careenlaw11.MailTells", spec := "mailTells", unfollowed := true, recurses := true, apart := false }
def MailTellsSaid : Prop := mailTellsRow.holds Try.pinned (OpenSpec.ofChange mailTellsSpec)

/-- ITS FALSE NEIGHBOUR: 'it returns false'. Refute it at one input. -/
def mailTellsWrong : ChangeSpec := { name := "mailTells", fn := fun _ => fun
  | [d1, d2, d3, d4] => { results := [.lit (.bool false)], args := [d1, d2, d3, d4] }
  | _ => none }
def MailTellsWrongFalsely : Prop := mailTellsRow.holds Try.pinned (OpenSpec.ofChange mailTellsWrong)

/-- 'careenlaw11.MailFull': WHATEVER THE INPUT: true; the input reads as it did. -/
def mailFullSpec : ChangeSpec := { name := "mailFull", fn := fun _ => fun
  | [d1, d2] => { results := [.lit (.bool true)], args := [d1, d2] }
  | _ => none }
def mailFullRow : OpenClaim := { program := "ytljjbpgbddaekaa", sum := "081cdb9ebd4f9400c1791bf0cafe7094157f9b648841c87fcf5e51c5d88eb1a8", func := "careen/careenlaw11.MailFull", spec := "mailFull", unfollowed := true, recurses := true, apart := false }
def MailFullSaid : Prop := mailFullRow.holds Try.pinned (OpenSpec.ofChange mailFullSpec)

/-- ITS FALSE NEIGHBOUR: 'it returns false'. Refute it at one input. -/
def mailFullWrong : ChangeSpec := { name := "mailFull", fn := fun _ => fun
  | [d1, d2] => { results := [.lit (.bool false)], args := [d1, d2] }
  | _ => none }
def MailFullWrongFalsely : Prop := mailFullRow.holds Try.pinned (OpenSpec.ofChange mailFullWrong)

/-- 'careenlaw11.MailStays': WHATEVER THE INPUT: true; the input reads as it did. -/
def mailStaysSpec : ChangeSpec := { name := "mailStays", fn := fun _ => fun
  | [d1, d2] => { results := [.lit (.bool true)], args := [d1, d2] }
  | _ => none }
def mailStaysRow : OpenClaim := { program := "ytljjbpgbddaekaa", sum := "081cdb9ebd4f9400c1791bf0cafe7094157f9b648841c87fcf5e51c5d88eb1a8", func := "careen/careenlaw11.MailStays", spec := "mailStays", unfollowed := true, recurses := true, apart := false }
def MailStaysSaid : Prop := mailStaysRow.holds Try.pinned (OpenSpec.ofChange mailStaysSpec)

/-- ITS FALSE NEIGHBOUR: 'it returns false'. Refute it at one input. -/
def mailStaysWrong : ChangeSpec := { name := "mailStays", fn := fun _ => fun
  | [d1, d2] => { results := [.lit (.bool false)], args := [d1, d2] }
  | _ => none }
def MailStaysWrongFalsely : Prop := mailStaysRow.holds Try.pinned (OpenSpec.ofChange mailStaysWrong)

/-- 'careenlaw11.MailWhose': WHATEVER THE INPUT: true; the input reads as it did. -/
def mailWhoseSpec : ChangeSpec := { name := "mailWhose", fn := fun _ => fun
  | [d] => { results := [.lit (.bool true)], args := [d] }
  | _ => none }
def mailWhoseRow : OpenClaim := { program := "ytljjbpgbddaekaa", sum := "081cdb9ebd4f9400c1791bf0cafe7094157f9b648841c87fcf5e51c5d88eb1a8", func := "careen/careenlaw11.MailWhose", spec := "mailWhose", unfollowed := true, recurses := true, apart := false }
def MailWhoseSaid : Prop := mailWhoseRow.holds Try.pinned (OpenSpec.ofChange mailWhoseSpec)

/-- ITS FALSE NEIGHBOUR: 'it returns false'. Refute it at one input. -/
def mailWhoseWrong : ChangeSpec := { name := "mailWhose", fn := fun _ => fun
  | [d] => { results := [.lit (.bool false)], args := [d] }
  | _ => none }
def MailWhoseWrongFalsely : Prop := mailWhoseRow.holds Try.pinned (OpenSpec.ofChange mailWhoseWrong)

/-- 'careenlaw11.MailDoubles': WHATEVER THE INPUT: true; the input reads as it did. -/
def mailDoublesSpec : ChangeSpec := { name := "mailDoubles", fn := fun _ => fun
  | [d1, d2] => { results := [.lit (.bool true)], args := [d1, d2] }
  | _ => none }
def mailDoublesRow : OpenClaim := { program := "ytljjbpgbddaekaa", sum := "081cdb9ebd4f9400c1791bf0cafe7094157f9b648841c87fcf5e51c5d88eb1a8", func := "careen/careenlaw11.MailDoubles", spec := "mailDoubles", unfollowed := true, recurses := true, apart := false }
def MailDoublesSaid : Prop := mailDoublesRow.holds Try.pinned (OpenSpec.ofChange mailDoublesSpec)

/-- ITS FALSE NEIGHBOUR: 'it returns false'. Refute it at one input. -/
def mailDoublesWrong : ChangeSpec := { name := "mailDoubles", fn := fun _ => fun
  | [d1, d2] => { results := [.lit (.bool false)], args := [d1, d2] }
  | _ => none }
def MailDoublesWrongFalsely : Prop := mailDoublesRow.holds Try.pinned (OpenSpec.ofChange mailDoublesWrong)

/-- 'careenlaw11.MailMixed': WHATEVER THE INPUT: true; the input reads as it did. -/
def mailMixedSpec : ChangeSpec := { name := "mailMixed", fn := fun _ => fun
  | [d1, d2] => { results := [.lit (.bool true)], args := [d1, d2] }
  | _ => none }
def mailMixedRow : OpenClaim := { program := "ytljjbpgbddaekaa", sum := "081cdb9ebd4f9400c1791bf0cafe7094157f9b648841c87fcf5e51c5d88eb1a8", func := "careen/careenlaw11.MailMixed", spec := "mailMixed", unfollowed := true, recurses := true, apart := false }
def MailMixedSaid : Prop := mailMixedRow.holds Try.pinned (OpenSpec.ofChange mailMixedSpec)

/-- ITS FALSE NEIGHBOUR: 'it returns false'. Refute it at one input. -/
def mailMixedWrong : ChangeSpec := { name := "mailMixed", fn := fun _ => fun
  | [d1, d2] => { results := [.lit (.bool false)], args := [d1, d2] }
  | _ => none }
def MailMixedWrongFalsely : Prop := mailMixedRow.holds Try.pinned (OpenSpec.ofChange mailMixedWrong)

/- THE SECOND FORM. 'bulk': how many values and letters a reading holds, each counted each time it is reached (what is shared counts as often as it is met; a slice's spare places count too). A statement '..UptoSaid' is the law's where the arguments, and the package variables that the reading takes, are together of bulk at most 1048576: NARROWER than '..Said'. Prove '..Said' where nothing that the law and all that it calls make is longer than what came in: it says more and counts as full. Else prove '..UptoSaid'. A law counts once. -/
mutual
def uptoBulk {H : Type} : DataW H → Nat
  | .lit (.string bytes) => bytes.length + 1
  | .lit _ => 1
  | .nil => 1
  | .ptr d => uptoBulk d + 1
  | .slice elems spare => uptoBulkAll elems + uptoBulkAll spare + 1
  | .agg parts => uptoBulkAll parts + 1
  | .iface _ d => uptoBulk d + 1
  | .map entries => uptoBulkEntries entries + 1
  | .held _ => 1
def uptoBulkAll {H : Type} : List (DataW H) → Nat
  | [] => 0
  | d :: r => uptoBulk d + uptoBulkAll r
def uptoBulkEntries {H : Type} : List (Lit × DataW H) → Nat
  | [] => 0
  | x :: r => uptoBulkEntry x + uptoBulkEntries r
def uptoBulkEntry {H : Type} : Lit × DataW H → Nat
  | (.string bytes, d) => bytes.length + uptoBulk d + 1
  | (_, d) => uptoBulk d + 1
 end
def uptoSmall : (H : Type) → List (DataW H) → Bool := fun _ ds => decide (uptoBulkAll ds ≤ 1048576)
def OpenSpec.upto (s : _root_.Go.ChangeSpec) : _root_.Go.OpenSpec := { _root_.Go.OpenSpec.ofChange s with cond := some uptoSmall }

/-- 'careenlaw11.MailTells', WHERE WHAT IT READS IS OF BULK AT MOST 1048576: true; the input reads as it did. -/
def mailTellsUptoRow : OpenClaim := { program := "ytljjbpgbddaekaa", sum := "081cdb9ebd4f9400c1791bf0cafe7094157f9b648841c87fcf5e51c5d88eb1a8", func := "careen/careenlaw11.MailTells", spec := "mailTells", unfollowed := true, recurses := true, apart := false, narrowed := true }
def MailTellsUptoSaid : Prop := mailTellsUptoRow.holds Try.pinned (OpenSpec.upto mailTellsSpec)

/-- 'careenlaw11.MailFull', WHERE WHAT IT READS IS OF BULK AT MOST 1048576: true; the input reads as it did. -/
def mailFullUptoRow : OpenClaim := { program := "ytljjbpgbddaekaa", sum := "081cdb9ebd4f9400c1791bf0cafe7094157f9b648841c87fcf5e51c5d88eb1a8", func := "careen/careenlaw11.MailFull", spec := "mailFull", unfollowed := true, recurses := true, apart := false, narrowed := true }
def MailFullUptoSaid : Prop := mailFullUptoRow.holds Try.pinned (OpenSpec.upto mailFullSpec)

/-- 'careenlaw11.MailStays', WHERE WHAT IT READS IS OF BULK AT MOST 1048576: true; the input reads as it did. -/
def mailStaysUptoRow : OpenClaim := { program := "ytljjbpgbddaekaa", sum := "081cdb9ebd4f9400c1791bf0cafe7094157f9b648841c87fcf5e51c5d88eb1a8", func := "careen/careenlaw11.MailStays", spec := "mailStays", unfollowed := true, recurses := true, apart := false, narrowed := true }
def MailStaysUptoSaid : Prop := mailStaysUptoRow.holds Try.pinned (OpenSpec.upto mailStaysSpec)

/-- 'careenlaw11.MailWhose', WHERE WHAT IT READS IS OF BULK AT MOST 1048576: true; the input reads as it did. -/
def mailWhoseUptoRow : OpenClaim := { program := "ytljjbpgbddaekaa", sum := "081cdb9ebd4f9400c1791bf0cafe7094157f9b648841c87fcf5e51c5d88eb1a8", func := "careen/careenlaw11.MailWhose", spec := "mailWhose", unfollowed := true, recurses := true, apart := false, narrowed := true }
def MailWhoseUptoSaid : Prop := mailWhoseUptoRow.holds Try.pinned (OpenSpec.upto mailWhoseSpec)

/-- 'careenlaw11.MailDoubles', WHERE WHAT IT READS IS OF BULK AT MOST 1048576: true; the input reads as it did. -/
def mailDoublesUptoRow : OpenClaim := { program := "ytljjbpgbddaekaa", sum := "081cdb9ebd4f9400c1791bf0cafe7094157f9b648841c87fcf5e51c5d88eb1a8", func := "careen/careenlaw11.MailDoubles", spec := "mailDoubles", unfollowed := true, recurses := true, apart := false, narrowed := true }
def MailDoublesUptoSaid : Prop := mailDoublesUptoRow.holds Try.pinned (OpenSpec.upto mailDoublesSpec)

/-- 'careenlaw11.MailMixed', WHERE WHAT IT READS IS OF BULK AT MOST 1048576: true; the input reads as it did. -/
def mailMixedUptoRow : OpenClaim := { program := "ytljjbpgbddaekaa", sum := "081cdb9ebd4f9400c1791bf0cafe7094157f9b648841c87fcf5e51c5d88eb1a8", func := "careen/careenlaw11.MailMixed", spec := "mailMixed", unfollowed := true, recurses := true, apart := false, narrowed := true }
def MailMixedUptoSaid : Prop := mailMixedUptoRow.holds Try.pinned (OpenSpec.upto mailMixedSpec)

end Rows
end Go.Proofs.Ytljjbpgbddaekaa
