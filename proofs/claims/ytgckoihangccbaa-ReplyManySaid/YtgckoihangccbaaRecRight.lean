import Derived.Test.YtgckoihangccbaaRight
import Derived.Test.YtgckoihangccbaaGMath
import Derived.Deep.QuietTactic
import Derived.BigQuiet
/-
  The contracts of record.Right and of what it calls: what rightR says; nothing that was in memory changes.
-/
namespace Go.Proofs.Ytgckoihangccbaa
open Go.RowKit

/-- A record as a value. -/
abbrev rcV (r : Rcd) (x : Value) : Value := .agg #[.string r.key, .string r.value, .int .i64 r.rev, .int .i64 r.life, .string r.note, x]
/-- Its texts are not too long. -/
def RcWf (r : Rcd) : Prop := r.key.size ≤ 140737488365000 ∧ r.value.size ≤ 140737488365000 ∧ r.note.size ≤ 140737488365000

def verB (v : Int) : Bool := decide (v = 1 ∨ v = 2)
def textB (s : ByteArray) (m : Int) : Bool := decide (1 ≤ s.size ∧ (s.size : Int) ≤ m)
theorem toList_size (s : ByteArray) : s.toList = [] ↔ s.size = 0 := by
  have e : s.toList = s.data.toList := by rw [bs_of s, bs_toList]; simp [bs]
  rw [e]
  constructor
  · intro h; have : s.data.toList.length = 0 := by rw [h]; rfl
    simpa using this
  · intro h; exact List.eq_nil_of_length_eq_zero (by simpa using h)
def numB (n : Int) : Bool := decide (0 ≤ n ∧ n ≤ 9007199254740992)
end Go.Proofs.Ytgckoihangccbaa
