import Derived.Test.YtkcmjhpbjgjebaaGRec
import Derived.Test.YtkcmjhpbjgjebaaRecEncode
import Derived.Test.YtkcmjhpbjgjebaaRecSame
/-
  The law's own first calls ('awake') of stage 3: they answer true, and nothing that was in memory changes.
-/
namespace Go.Proofs.Ytkcmjhpbjgjebaa
open Go.RowKit
set_option linter.unusedSimpArgs false
set_option linter.unusedVariables false

def rA : Rcd := ⟨⟨#[97]⟩, ⟨#[98]⟩, 1, 0, ⟨#[]⟩, []⟩
theorem rA_right : rightR 1 rA = true := by decide
theorem rA_not : rightR 3 rA = false := by decide
theorem rA_wf : RcWf rA := by refine ⟨?_, ?_, ?_⟩ <;> decide
theorem rA_enc : recE 1 rA = ([1, 1, 97, 2, 1, 98, 3, 1, 1], 0) := by
  have e0 : numD 1 = ⟨#[1]⟩ := by unfold numD; rw [if_neg (by decide), show (1 : Int).toNat = 1 from rfl, vb_small (by omega)]; rfl
  have e1 : fieldsR rA = [(1, ⟨#[97]⟩), (2, ⟨#[98]⟩), (3, ⟨#[1]⟩)] := by
    unfold fieldsR five rA
    rw [e0]; rfl
  have e2 : encL [(1, ⟨#[97]⟩), (2, ⟨#[98]⟩), (3, (⟨#[1]⟩ : ByteArray))] = [1, 1, 97, 2, 1, 98, 3, 1, 1] := by
    show (vb 1 ++ (vb 1 ++ [97])) ++ ((vb 2 ++ (vb 1 ++ [98])) ++ ((vb 3 ++ (vb 1 ++ [1])) ++ [])) = _
    rw [vb_small (n := 1) (by omega), vb_small (n := 2) (by omega), vb_small (n := 3) (by omega)]; rfl
  have e3 := (rec_back (v := 1) (r := rA) rA_right (by rw [e1, e2]; decide)).1
  rw [e1, e2] at e3
  exact e3
def xA : Rcd := ⟨⟨#[97]⟩, ⟨#[98]⟩, 1, 0, ⟨#[]⟩, [(4, ⟨#[7]⟩)]⟩
def yA : Rcd := ⟨⟨#[97]⟩, ⟨#[98]⟩, 1, 7, ⟨#[]⟩, []⟩
theorem dA1 : recD 1 [1, 1, 97, 2, 1, 98, 3, 1, 1, 4, 1, 7] = (xA, 0) := by rfl
theorem dA2 : recD 2 [1, 1, 97, 2, 1, 98, 3, 1, 1, 4, 1, 7] = (yA, 0) := by rfl
theorem dA3 : recD 2 [1, 1, 97, 2, 1, 98, 3, 1, 1, 4, 1, 0] = (zeroR, 21) := by rfl
theorem dA4 : recD 1 [2, 1, 98] = (zeroR, 20) := by rfl
theorem sA1 : sameR rA xA = false := sameR_no (fun h => by have h2 := congrArg (fun r => r.extra.length) h; simp [rA, xA] at h2)
theorem sA2 : sameR rA rA = true := sameR_self _
theorem str_lit {a b c : ByteArray} (h : a ++ b = c) (hs : a.size + b.size ≤ 9223372036854775807) (W : World) : (Op.stringOp .add a b).run Try.prog W = .ok (.string c) W := by rw [← h]; exact str_add hs W
/-- What Decode leaves, written out. -/
def RecLit (k v : ByteArray) (r l : Int) (nt : ByteArray) (ex : List Fld) (err : Int) (w : World) (e : Ending) (w' : World) : Prop :=
  ∃ A n cap, e = .returned (.tuple #[.agg #[.string k, .string v, .int .i64 r, .int .i64 l, .string nt, .slice A n cap], .int .i64 err]) ∧ IsFs w' A n ex ∧ Below w.heap.size w w'
end Go.Proofs.Ytkcmjhpbjgjebaa
