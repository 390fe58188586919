import Derived.Test.YtndkmepdnekigaaTake
/-
  Small lemmas on texts and on memory for the laws' walks: slices of texts, equality of texts, 'nothing that was there has changed' joined.
-/
namespace Go.Proofs.Ytndkmepdnekigaa
open Go.RowKit

theorem bch {a b c : World} (h : Below a.heap.size a b) (k : Below b.heap.size b c) : Below a.heap.size a c := h.trans (k.mono h.size)
theorem slice_from {T S : ByteArray} {k : Nat} (h : T.extract k T.size = S) (h1 : k ≤ T.size) (W : World) :
    (Instr.slice 9 (.string T) (some (.int .i64 k)) none none).run Try.prog W = .ok (.string S) W := by
  rw [run_slice_string_from_if _ _ _ _ _ Try.underlying9, if_pos ⟨by omega, by omega⟩, ← h]; rfl
theorem extract_cons (b : UInt8) (l : List UInt8) : (bs (b :: l)).extract 1 (bs (b :: l)).size = bs l := by
  rw [bs_size]; unfold bs; rw [ByteArray.extract_mk]; simp

theorem slice_to {T S : ByteArray} {k : Nat} (h : T.extract 0 k = S) (h1 : k ≤ T.size) (W : World) :
    (Instr.slice 9 (.string T) none (some (.int .i64 k)) none).run Try.prog W = .ok (.string S) W := by
  rw [run_slice_string_to_if _ _ _ _ _ Try.underlying9, if_pos ⟨by omega, by omega⟩, ← h]; rfl
theorem bs_toList (l : List UInt8) : (bs l).toList = l := by unfold bs; exact ByteArray.toList_mk l
theorem bs_eq {l m : List UInt8} (h : l = m) : ((bs l).toList == (bs m).toList) = true := by rw [bs_toList, bs_toList, h]; simp
theorem bs_ne {l m : List UInt8} (h : l ≠ m) : ((bs l).toList == (bs m).toList) = false := by rw [bs_toList, bs_toList]; simpa using h
theorem bs_take (l : List UInt8) (k : Nat) : (bs l).extract 0 k = bs (l.take k) := by unfold bs; rw [ByteArray.extract_mk]; simp
theorem bs_drop (l : List UInt8) (k : Nat) : (bs l).extract k (bs l).size = bs (l.drop k) := by rw [bs_size]; unfold bs; rw [ByteArray.extract_mk, List.take_of_length_le (by simp)]
theorem bs_data (l : List UInt8) : (bs l).data.toList = l := by unfold bs; simp
theorem add_data (a b : ByteArray) : (a ++ b).data.toList = a.data.toList ++ b.data.toList := by simp
theorem str_add {a b : ByteArray} (h : a.size + b.size ≤ 9223372036854775807) (W : World) : (Op.stringOp .add a b).run Try.prog W = .ok (.string (a ++ b)) W := run_string_add_sum W a b h
/-- What the walk is told of a slice of integers that came in: it is nil; or it leads to a row of 'cap' cells, the numbers 'zs' (the first 'len' are its elements, the rest its spare room), each fitting its kind. -/
def IsRow (k : IntKind) (w : World) (a : Option Addr) (len cap : Nat) (zs : List Int) : Prop :=
  (a = none ∧ len = 0 ∧ cap = 0 ∧ zs = []) ∨
  ∃ x, a = some x ∧ len ≤ cap ∧ cap ≤ maxLen ∧ zs.length = cap ∧ (∀ i, i < zs.length → w.cell? (x.add i) = some (.int k (zs.getD i 0))) ∧ ∀ n ∈ zs, (Lit.int k n).wf = true
theorem lt_of_cell {w : World} {a : Addr} {v : Value} (h : w.cell? a = some v) : a.block < w.heap.size := by
  unfold World.cell? at h
  rcases Nat.lt_or_ge a.block w.heap.size with h1 | h1
  · exact h1
  · simp [Array.getElem?_eq_none h1] at h
theorem bs_of (s : ByteArray) : s = bs s.data.toList := by unfold bs; rfl
end Go.Proofs.Ytndkmepdnekigaa
