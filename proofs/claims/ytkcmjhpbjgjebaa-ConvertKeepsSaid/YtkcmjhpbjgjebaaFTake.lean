import Derived.Test.YtkcmjhpbjgjebaaRefRight
import Derived.Laws.Strings2
/-
  The contract of field.take: what takeF says; nothing that was in memory changes.
-/
namespace Go.Proofs.Ytkcmjhpbjgjebaa
open Go.RowKit

theorem data_extract (s : ByteArray) (i j : Nat) : (s.extract i j).data.toList = (s.data.toList.drop i).take (j - i) := by
  simp [ByteArray.data_extract, Array.toList_extract, List.extract_eq_take_drop]
theorem data_from (s : ByteArray) (i : Nat) : (s.extract i s.size).data.toList = s.data.toList.drop i := by
  rw [data_extract, List.take_of_length_le (by simp)]
theorem slice_mid {T S : ByteArray} {j k : Nat} (h : T.extract j k = S) (h1 : j ≤ k) (h2 : k ≤ T.size) (W : World) :
    (Instr.slice 9 (.string T) (some (.int .i64 j)) (some (.int .i64 k)) none).run Try.prog W = .ok (.string S) W := by
  rw [run_slice_string W _ T _ _ (j : Int) (k : Int) Try.underlying9 (by omega) (by omega) (by omega), ← h]; rfl

end Go.Proofs.Ytkcmjhpbjgjebaa
