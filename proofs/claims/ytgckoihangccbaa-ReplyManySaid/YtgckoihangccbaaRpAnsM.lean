import Derived.Test.YtgckoihangccbaaRpRef
import Derived.Test.YtgckoihangccbaaGPick
/-
  The law package's own Answer, plainly (stage 13).
-/
namespace Go.Proofs.Ytgckoihangccbaa
open Go.RowKit
set_option linter.unusedVariables false
set_option linter.unusedSimpArgs false

/-- A reply of raw numbers. -/
def erN13 : Nat → Nat
  | 0 => 0 | 1 => 0 | 2 => 70 | _ => 71
def vaK13 : Nat → ByteArray
  | 0 => ⟨#[]⟩ | 1 => ⟨#[120]⟩ | _ => ⟨#[121, 121]⟩
def keK13 : List ByteArray := [⟨#[97]⟩, ⟨#[98, 111, 98]⟩]
def ansR (a : Nat → Int) : RepR := ⟨erN13 (pickN (a 0) 4), (pickN (a 1) 300 : Nat), vaK13 (pickN (a 2) 3), if pickN (a 0) 5 = 4 then keK13.take (pickN (a 2) 3) else []⟩
abbrev threeV (a : Nat → Int) : Value := .agg #[.int .i64 (a 0), .int .i64 (a 1), .int .i64 (a 2)]
theorem ans_may (a : Nat → Int) : MayP (ansR a) := by
  have h1 := pickN_lt (a 1) 300 (by omega)
  have h0 : erN13 (pickN (a 0) 4) ≤ 255 := by unfold erN13; split <;> omega
  have h2 : (vaK13 (pickN (a 2) 3)).size ≤ 200 := by unfold vaK13; split <;> decide
  have hk : ∀ k ∈ keK13, k.size ≤ 16 := by unfold keK13; intro k hk; simp at hk; rcases hk with rfl | rfl <;> decide
  refine ⟨?_, ⟨?_, ?_⟩, h2, ?_, h0⟩
  · intro k hk2
    unfold ansR at hk2
    simp only at hk2
    split at hk2
    · exact hk k (List.mem_of_mem_take hk2)
    · cases hk2
  · show (0 : Int) ≤ ((pickN (a 1) 300 : Nat) : Int); omega
  · show ((pickN (a 1) 300 : Nat) : Int) ≤ maxN; unfold maxN; omega
  · unfold ansR
    simp only
    split
    · rw [List.length_take]; unfold keK13; simp; omega
    · simp
/-- What Answer, Look tell: a reply whose keys lie somewhere. -/
def OwnR13 (w : World) (r : RepR) (e : Ending) (w' : World) : Prop := ∃ K k kc, e = .returned (rpV r (.slice K k kc)) ∧ k ≤ kc ∧ IsSs w' K k r.keys ∧ Below w.heap.size w w'
end Go.Proofs.Ytgckoihangccbaa
