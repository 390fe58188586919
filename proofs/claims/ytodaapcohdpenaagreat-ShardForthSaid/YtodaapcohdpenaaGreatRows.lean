/-
  No cell of these rows narrows 'for every input' (looked for: loops, veiled, ifaces, maps, wideKeys, modest, calm, conditions, laid).
  DERIVED. THE GIVEN ROWS OF THIS SEAT. 8 by the template 'for every input the law returns true; each argument reads behind the call as it read before'; 0 by the template 'total and deterministic' (their statements: YtodaapcohdpenaaGreatTotals.lean).
  GIVEN WITH THE SEED: the statements are not yours to turn. If you find one false, say at which input.
  Laid BY PROGRAM, IN A SANDBOX (cutbox-rows.mjs): the forced cells as the released guide's own fill.sh prints them over the translation feda2bdf86048fe8… (all of the seat's roots in one cut). By AI agents, Wed Nov 11 2026. No macro, syntax, notation, axiom, sorry.
-/
import Derived.Test.YtodaapcohdpenaaGreatChecked
import GoSem.Claim
import GoSem.ClaimJoined
import GoSem.ClaimMapViews
import Derived.JoinedTies
import Derived.KernelRfl
namespace Go.Proofs.YtodaapcohdpenaaGreat
/- THE CELL 'sum', in the pinned program and in every row, IS THE sha256 OF THE DUMP (.gsa) THAT YtodaapcohdpenaaGreatProg.lean LOADS. Nothing in Lean hashes anything: it is a label: what it is worth is what the hold of that sum in a sandbox is worth. -/
noncomputable def Tryz.pinned : Pinned := { name := "ytodaapcohdpenaagreat", sum := "feda2bdf86048fe8414e12236290a34668a83fee3aa7e929c64fe231c9152357", checked := Tryz.checked }
namespace Rows
def none {H : Type} : Left H := { results := [], args := [] }

/-- 'careenlaw14.ShardTells': WHATEVER THE INPUT: true; the input reads as it did. -/
def shardTellsSpec : ChangeSpec := { name := "shardTells", fn := fun _ => fun
  | [d1, d2, d3, d4, d5, d6, d7, d8] => { results := [.lit (.bool true)], args := [d1, d2, d3, d4, d5, d6, d7, d8] }
  | _ => none }
def shardTellsRow : OpenClaim := { program := "ytodaapcohdpenaagreat", sum := "feda2bdf86048fe8414e12236290a34668a83fee3aa7e929c64fe231c9152357", func := "careen/careenlaw14.ShardTells", spec := "shardTells", inPlace := ["internal/bytealg.abigen_runtime_cmpstring", "slices.overlaps[careen/api.Record]", "slices.overlaps[careen/api.Done]", "internal/abi.NoEscape"], unfollowed := true, recurses := true, apart := false }
def ShardTellsSaid : Prop := shardTellsRow.holds Tryz.pinned (OpenSpec.ofChange shardTellsSpec)

/-- ITS FALSE NEIGHBOUR: 'it returns false'. Refute it at one input. -/
def shardTellsWrong : ChangeSpec := { name := "shardTells", fn := fun _ => fun
  | [d1, d2, d3, d4, d5, d6, d7, d8] => { results := [.lit (.bool false)], args := [d1, d2, d3, d4, d5, d6, d7, d8] }
  | _ => none }
def ShardTellsWrongFalsely : Prop := shardTellsRow.holds Tryz.pinned (OpenSpec.ofChange shardTellsWrong)

/-- 'careenlaw14.ShardBytes': WHATEVER THE INPUT: true; the input reads as it did. -/
def shardBytesSpec : ChangeSpec := { name := "shardBytes", fn := fun _ => fun
  | [d1, d2, d3, d4, d5, d6, d7, d8, d9] => { results := [.lit (.bool true)], args := [d1, d2, d3, d4, d5, d6, d7, d8, d9] }
  | _ => none }
def shardBytesRow : OpenClaim := { program := "ytodaapcohdpenaagreat", sum := "feda2bdf86048fe8414e12236290a34668a83fee3aa7e929c64fe231c9152357", func := "careen/careenlaw14.ShardBytes", spec := "shardBytes", inPlace := ["internal/bytealg.abigen_runtime_cmpstring", "slices.overlaps[careen/api.Record]", "slices.overlaps[careen/api.Done]", "internal/abi.NoEscape"], unfollowed := true, recurses := true, apart := false }
def ShardBytesSaid : Prop := shardBytesRow.holds Tryz.pinned (OpenSpec.ofChange shardBytesSpec)

/-- ITS FALSE NEIGHBOUR: 'it returns false'. Refute it at one input. -/
def shardBytesWrong : ChangeSpec := { name := "shardBytes", fn := fun _ => fun
  | [d1, d2, d3, d4, d5, d6, d7, d8, d9] => { results := [.lit (.bool false)], args := [d1, d2, d3, d4, d5, d6, d7, d8, d9] }
  | _ => none }
def ShardBytesWrongFalsely : Prop := shardBytesRow.holds Tryz.pinned (OpenSpec.ofChange shardBytesWrong)

/-- 'careenlaw14.ShardBack': WHATEVER THE INPUT: true; the input reads as it did. -/
def shardBackSpec : ChangeSpec := { name := "shardBack", fn := fun _ => fun
  | [d1, d2, d3, d4] => { results := [.lit (.bool true)], args := [d1, d2, d3, d4] }
  | _ => none }
def shardBackRow : OpenClaim := { program := "ytodaapcohdpenaagreat", sum := "feda2bdf86048fe8414e12236290a34668a83fee3aa7e929c64fe231c9152357", func := "careen/careenlaw14.ShardBack", spec := "shardBack", inPlace := ["internal/bytealg.abigen_runtime_cmpstring", "slices.overlaps[careen/api.Record]", "slices.overlaps[careen/api.Done]", "internal/abi.NoEscape"], unfollowed := true, recurses := true, apart := false }
def ShardBackSaid : Prop := shardBackRow.holds Tryz.pinned (OpenSpec.ofChange shardBackSpec)

/-- ITS FALSE NEIGHBOUR: 'it returns false'. Refute it at one input. -/
def shardBackWrong : ChangeSpec := { name := "shardBack", fn := fun _ => fun
  | [d1, d2, d3, d4] => { results := [.lit (.bool false)], args := [d1, d2, d3, d4] }
  | _ => none }
def ShardBackWrongFalsely : Prop := shardBackRow.holds Tryz.pinned (OpenSpec.ofChange shardBackWrong)

/-- 'careenlaw14.ShardForth': WHATEVER THE INPUT: true; the input reads as it did. -/
def shardForthSpec : ChangeSpec := { name := "shardForth", fn := fun _ => fun
  | [d1, d2, d3, d4, d5] => { results := [.lit (.bool true)], args := [d1, d2, d3, d4, d5] }
  | _ => none }
def shardForthRow : OpenClaim := { program := "ytodaapcohdpenaagreat", sum := "feda2bdf86048fe8414e12236290a34668a83fee3aa7e929c64fe231c9152357", func := "careen/careenlaw14.ShardForth", spec := "shardForth", inPlace := ["internal/bytealg.abigen_runtime_cmpstring", "slices.overlaps[careen/api.Record]", "slices.overlaps[careen/api.Done]", "internal/abi.NoEscape"], unfollowed := true, recurses := true, apart := false }
def ShardForthSaid : Prop := shardForthRow.holds Tryz.pinned (OpenSpec.ofChange shardForthSpec)

/-- ITS FALSE NEIGHBOUR: 'it returns false'. Refute it at one input. -/
def shardForthWrong : ChangeSpec := { name := "shardForth", fn := fun _ => fun
  | [d1, d2, d3, d4, d5] => { results := [.lit (.bool false)], args := [d1, d2, d3, d4, d5] }
  | _ => none }
def ShardForthWrongFalsely : Prop := shardForthRow.holds Tryz.pinned (OpenSpec.ofChange shardForthWrong)

/-- 'careenlaw14.ShardOnce': WHATEVER THE INPUT: true; the input reads as it did. -/
def shardOnceSpec : ChangeSpec := { name := "shardOnce", fn := fun _ => fun
  | [d1, d2, d3, d4] => { results := [.lit (.bool true)], args := [d1, d2, d3, d4] }
  | _ => none }
def shardOnceRow : OpenClaim := { program := "ytodaapcohdpenaagreat", sum := "feda2bdf86048fe8414e12236290a34668a83fee3aa7e929c64fe231c9152357", func := "careen/careenlaw14.ShardOnce", spec := "shardOnce", inPlace := ["internal/bytealg.abigen_runtime_cmpstring", "slices.overlaps[careen/api.Record]", "slices.overlaps[careen/api.Done]", "internal/abi.NoEscape"], unfollowed := true, recurses := true, apart := false }
def ShardOnceSaid : Prop := shardOnceRow.holds Tryz.pinned (OpenSpec.ofChange shardOnceSpec)

/-- ITS FALSE NEIGHBOUR: 'it returns false'. Refute it at one input. -/
def shardOnceWrong : ChangeSpec := { name := "shardOnce", fn := fun _ => fun
  | [d1, d2, d3, d4] => { results := [.lit (.bool false)], args := [d1, d2, d3, d4] }
  | _ => none }
def ShardOnceWrongFalsely : Prop := shardOnceRow.holds Tryz.pinned (OpenSpec.ofChange shardOnceWrong)

/-- 'careenlaw14.ShardReads': WHATEVER THE INPUT: true; the input reads as it did. -/
def shardReadsSpec : ChangeSpec := { name := "shardReads", fn := fun _ => fun
  | [d1, d2, d3, d4, d5, d6] => { results := [.lit (.bool true)], args := [d1, d2, d3, d4, d5, d6] }
  | _ => none }
def shardReadsRow : OpenClaim := { program := "ytodaapcohdpenaagreat", sum := "feda2bdf86048fe8414e12236290a34668a83fee3aa7e929c64fe231c9152357", func := "careen/careenlaw14.ShardReads", spec := "shardReads", inPlace := ["internal/bytealg.abigen_runtime_cmpstring", "slices.overlaps[careen/api.Record]", "slices.overlaps[careen/api.Done]", "internal/abi.NoEscape"], unfollowed := true, recurses := true, apart := false }
def ShardReadsSaid : Prop := shardReadsRow.holds Tryz.pinned (OpenSpec.ofChange shardReadsSpec)

/-- ITS FALSE NEIGHBOUR: 'it returns false'. Refute it at one input. -/
def shardReadsWrong : ChangeSpec := { name := "shardReads", fn := fun _ => fun
  | [d1, d2, d3, d4, d5, d6] => { results := [.lit (.bool false)], args := [d1, d2, d3, d4, d5, d6] }
  | _ => none }
def ShardReadsWrongFalsely : Prop := shardReadsRow.holds Tryz.pinned (OpenSpec.ofChange shardReadsWrong)

/-- 'careenlaw14.ShardFrozen': WHATEVER THE INPUT: true; the input reads as it did. -/
def shardFrozenSpec : ChangeSpec := { name := "shardFrozen", fn := fun _ => fun
  | [d1, d2, d3] => { results := [.lit (.bool true)], args := [d1, d2, d3] }
  | _ => none }
def shardFrozenRow : OpenClaim := { program := "ytodaapcohdpenaagreat", sum := "feda2bdf86048fe8414e12236290a34668a83fee3aa7e929c64fe231c9152357", func := "careen/careenlaw14.ShardFrozen", spec := "shardFrozen", inPlace := ["internal/bytealg.abigen_runtime_cmpstring", "slices.overlaps[careen/api.Record]", "slices.overlaps[careen/api.Done]", "internal/abi.NoEscape"], unfollowed := true, recurses := true, apart := false }
def ShardFrozenSaid : Prop := shardFrozenRow.holds Tryz.pinned (OpenSpec.ofChange shardFrozenSpec)

/-- ITS FALSE NEIGHBOUR: 'it returns false'. Refute it at one input. -/
def shardFrozenWrong : ChangeSpec := { name := "shardFrozen", fn := fun _ => fun
  | [d1, d2, d3] => { results := [.lit (.bool false)], args := [d1, d2, d3] }
  | _ => none }
def ShardFrozenWrongFalsely : Prop := shardFrozenRow.holds Tryz.pinned (OpenSpec.ofChange shardFrozenWrong)

/-- 'careenlaw14.ShardTable': WHATEVER THE INPUT: true; the input reads as it did. -/
def shardTableSpec : ChangeSpec := { name := "shardTable", fn := fun _ => fun
  | [d] => { results := [.lit (.bool true)], args := [d] }
  | _ => none }
def shardTableRow : OpenClaim := { program := "ytodaapcohdpenaagreat", sum := "feda2bdf86048fe8414e12236290a34668a83fee3aa7e929c64fe231c9152357", func := "careen/careenlaw14.ShardTable", spec := "shardTable", inPlace := ["internal/bytealg.abigen_runtime_cmpstring", "slices.overlaps[careen/api.Record]", "slices.overlaps[careen/api.Done]", "internal/abi.NoEscape"], unfollowed := true, recurses := true, apart := false }
def ShardTableSaid : Prop := shardTableRow.holds Tryz.pinned (OpenSpec.ofChange shardTableSpec)

/-- ITS FALSE NEIGHBOUR: 'it returns false'. Refute it at one input. -/
def shardTableWrong : ChangeSpec := { name := "shardTable", fn := fun _ => fun
  | [d] => { results := [.lit (.bool false)], args := [d] }
  | _ => none }
def ShardTableWrongFalsely : Prop := shardTableRow.holds Tryz.pinned (OpenSpec.ofChange shardTableWrong)

/- THE SECOND FORM. 'bulk': how many values and letters a reading holds, each counted each time it is reached (what is shared counts as often as it is met; a slice's spare places count too). A statement '..UptoSaid' is the law's where the arguments, and the package variables that the reading takes, are together of bulk at most 1048576: NARROWER than '..Said'. Prove '..Said' where nothing that the law and all that it calls make is longer than what came in: it says more and counts as full. Else prove '..UptoSaid'. A law counts once. -/
mutual
def uptoBulk {H : Type} : DataW H → Nat
  | .lit (.string bytes) => bytes.length + 1
  | .lit _ => 1
  | .nil => 1
  | .ptr d => uptoBulk d + 1
  | .slice elems spare => uptoBulkAll elems + uptoBulkAll spare + 1
  | .agg parts => uptoBulkAll parts + 1
  | .iface _ d => uptoBulk d + 1
  | .map entries => uptoBulkEntries entries + 1
  | .held _ => 1
def uptoBulkAll {H : Type} : List (DataW H) → Nat
  | [] => 0
  | d :: r => uptoBulk d + uptoBulkAll r
def uptoBulkEntries {H : Type} : List (Lit × DataW H) → Nat
  | [] => 0
  | x :: r => uptoBulkEntry x + uptoBulkEntries r
def uptoBulkEntry {H : Type} : Lit × DataW H → Nat
  | (.string bytes, d) => bytes.length + uptoBulk d + 1
  | (_, d) => uptoBulk d + 1
 end
def uptoSmall : (H : Type) → List (DataW H) → Bool := fun _ ds => decide (uptoBulkAll ds ≤ 1048576)
def OpenSpec.upto (s : _root_.Go.ChangeSpec) : _root_.Go.OpenSpec := { _root_.Go.OpenSpec.ofChange s with cond := some uptoSmall }

/-- 'careenlaw14.ShardTells', WHERE WHAT IT READS IS OF BULK AT MOST 1048576: true; the input reads as it did. -/
def shardTellsUptoRow : OpenClaim := { program := "ytodaapcohdpenaagreat", sum := "feda2bdf86048fe8414e12236290a34668a83fee3aa7e929c64fe231c9152357", func := "careen/careenlaw14.ShardTells", spec := "shardTells", inPlace := ["internal/bytealg.abigen_runtime_cmpstring", "slices.overlaps[careen/api.Record]", "slices.overlaps[careen/api.Done]", "internal/abi.NoEscape"], unfollowed := true, recurses := true, apart := false, narrowed := true }
def ShardTellsUptoSaid : Prop := shardTellsUptoRow.holds Tryz.pinned (OpenSpec.upto shardTellsSpec)

/-- 'careenlaw14.ShardBytes', WHERE WHAT IT READS IS OF BULK AT MOST 1048576: true; the input reads as it did. -/
def shardBytesUptoRow : OpenClaim := { program := "ytodaapcohdpenaagreat", sum := "feda2bdf86048fe8414e12236290a34668a83fee3aa7e929c64fe231c9152357", func := "careen/careenlaw14.ShardBytes", spec := "shardBytes", inPlace := ["internal/bytealg.abigen_runtime_cmpstring", "slices.overlaps[careen/api.Record]", "slices.overlaps[careen/api.Done]", "internal/abi.NoEscape"], unfollowed := true, recurses := true, apart := false, narrowed := true }
def ShardBytesUptoSaid : Prop := shardBytesUptoRow.holds Tryz.pinned (OpenSpec.upto shardBytesSpec)

/-- 'careenlaw14.ShardBack', WHERE WHAT IT READS IS OF BULK AT MOST 1048576: true; the input reads as it did. -/
def shardBackUptoRow : OpenClaim := { program := "ytodaapcohdpenaagreat", sum := "feda2bdf86048fe8414e12236290a34668a83fee3aa7e929c64fe231c9152357", func := "careen/careenlaw14.ShardBack", spec := "shardBack", inPlace := ["internal/bytealg.abigen_runtime_cmpstring", "slices.overlaps[careen/api.Record]", "slices.overlaps[careen/api.Done]", "internal/abi.NoEscape"], unfollowed := true, recurses := true, apart := false, narrowed := true }
def ShardBackUptoSaid : Prop := shardBackUptoRow.holds Tryz.pinned (OpenSpec.upto shardBackSpec)

/-- 'careenlaw14.ShardForth', WHERE WHAT IT READS IS OF BULK AT MOST 1048576: true; the input reads as it did. -/
def shardForthUptoRow : OpenClaim := { program := "ytodaapcohdpenaagreat", sum := "feda2bdf86048fe8414e12236290a34668a83fee3aa7e929c64fe231c9152357", func := "careen/careenlaw14.ShardForth", spec := "shardForth", inPlace := ["internal/bytealg.abigen_runtime_cmpstring", "slices.overlaps[careen/api.Record]", "slices.overlaps[careen/api.Done]", "internal/abi.NoEscape"], unfollowed := true, recurses := true, apart := false, narrowed := true }
def ShardForthUptoSaid : Prop := shardForthUptoRow.holds Tryz.pinned (OpenSpec.upto shardForthSpec)

/-- 'careenlaw14.ShardOnce', WHERE WHAT IT READS IS OF BULK AT MOST 1048576: true; the input reads as it did. -/
def shardOnceUptoRow : OpenClaim := { program := "ytodaapcohdpenaagreat", sum := "feda2bdf86048fe8414e12236290a34668a83fee3aa7e929c64fe231c9152357", func := "careen/careenlaw14.ShardOnce", spec := "shardOnce", inPlace := ["internal/bytealg.abigen_runtime_cmpstring", "slices.overlaps[careen/api.Record]", "slices.overlaps[careen/api.Done]", "internal/abi.NoEscape"], unfollowed := true, recurses := true, apart := false, narrowed := true }
def ShardOnceUptoSaid : Prop := shardOnceUptoRow.holds Tryz.pinned (OpenSpec.upto shardOnceSpec)

/-- 'careenlaw14.ShardReads', WHERE WHAT IT READS IS OF BULK AT MOST 1048576: true; the input reads as it did. -/
def shardReadsUptoRow : OpenClaim := { program := "ytodaapcohdpenaagreat", sum := "feda2bdf86048fe8414e12236290a34668a83fee3aa7e929c64fe231c9152357", func := "careen/careenlaw14.ShardReads", spec := "shardReads", inPlace := ["internal/bytealg.abigen_runtime_cmpstring", "slices.overlaps[careen/api.Record]", "slices.overlaps[careen/api.Done]", "internal/abi.NoEscape"], unfollowed := true, recurses := true, apart := false, narrowed := true }
def ShardReadsUptoSaid : Prop := shardReadsUptoRow.holds Tryz.pinned (OpenSpec.upto shardReadsSpec)

/-- 'careenlaw14.ShardFrozen', WHERE WHAT IT READS IS OF BULK AT MOST 1048576: true; the input reads as it did. -/
def shardFrozenUptoRow : OpenClaim := { program := "ytodaapcohdpenaagreat", sum := "feda2bdf86048fe8414e12236290a34668a83fee3aa7e929c64fe231c9152357", func := "careen/careenlaw14.ShardFrozen", spec := "shardFrozen", inPlace := ["internal/bytealg.abigen_runtime_cmpstring", "slices.overlaps[careen/api.Record]", "slices.overlaps[careen/api.Done]", "internal/abi.NoEscape"], unfollowed := true, recurses := true, apart := false, narrowed := true }
def ShardFrozenUptoSaid : Prop := shardFrozenUptoRow.holds Tryz.pinned (OpenSpec.upto shardFrozenSpec)

/-- 'careenlaw14.ShardTable', WHERE WHAT IT READS IS OF BULK AT MOST 1048576: true; the input reads as it did. -/
def shardTableUptoRow : OpenClaim := { program := "ytodaapcohdpenaagreat", sum := "feda2bdf86048fe8414e12236290a34668a83fee3aa7e929c64fe231c9152357", func := "careen/careenlaw14.ShardTable", spec := "shardTable", inPlace := ["internal/bytealg.abigen_runtime_cmpstring", "slices.overlaps[careen/api.Record]", "slices.overlaps[careen/api.Done]", "internal/abi.NoEscape"], unfollowed := true, recurses := true, apart := false, narrowed := true }
def ShardTableUptoSaid : Prop := shardTableUptoRow.holds Tryz.pinned (OpenSpec.upto shardTableSpec)

end Rows
end Go.Proofs.YtodaapcohdpenaaGreat
