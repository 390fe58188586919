import Derived.Test.YtgckoihangccbaaOpen
import Derived.Test.YtgckoihangccbaaFs
/-
  A slice of fields that came in, opened to cells.
-/
namespace Go.Proofs.Ytgckoihangccbaa
open Go.RowKit Go.ChangeShapes Go.WideShapes

section
variable {H : Type} {enc : TypeId × Value → H} {w : World}
theorem one_of {cs : List Value} {j : Nat} (h : j < cs.length) : (cs.drop j).take 1 = [cs[j]] := by rw [List.drop_eq_getElem_cons h]; rfl
theorem cellsInt : Try.prog.cellsOf 3 = 1 := by kernel_rfl
theorem cellsStr : Try.prog.cellsOf 9 = 1 := by kernel_rfl
end
end Go.Proofs.Ytgckoihangccbaa
