import Derived.Test.YtfnkgldfgciplaaDoorNegoMore
import Derived.Test.YtfnkgldfgciplaaDoorNegoP
import Derived.Test.YtfnkgldfgciplaaDoorCards
import Derived.Test.YtfnkgldfgciplaaDoorTie
import Derived.SevenTiedAt
/-
  Who knows more agrees on no less; alone one agrees on all it knows.
  The tied card of the law 'NegoMore': for every input that can be read as data it returns true, and each argument reads behind the call as it read before; the listed package-level variables are those that the program's text lays.
-/
namespace Go.Proofs.YtfnkgldfgciplaaDoor
open Go

set_option maxRecDepth 100000 in
theorem negoMore_proved : Rows.NegoMoreCardSaid :=
  Claim7.holds_tied_plain_at .later [] [.data] true _ false
    (negoMore_of rightN ofN agreeN) (fun _ h => by cases h) (by kernel_rfl) (fun _ h => by cases h) negoMore_row_tie rfl ⟨rfl, rfl⟩ (by kernel_rfl) rfl
    (fun f fn hf hfn => by
      obtain rfl : f = 5 := Option.some.inj ((show Tryd.prog.funcNamed "careen/careenlaw09.NegoMore" = some 5 by kernel_rfl).symm.trans hf) |>.symm
      obtain rfl : fn = Tryd.f5 := (Option.some.inj (Tryd.func5.symm.trans hfn)).symm
      exact ⟨by kernel_rfl, fun j t ht => by
        rw [Tryd.params5] at ht
        have hm : t ∈ [24, 3] := by simpa using Array.mem_of_getElem? ht
        have hall : ([24, 3].all fun u => !Tryd.prog.wantsStandIn u) = true := by kernel_rfl
        exact (show Tryd.prog.wantsStandIn t = false by simpa using List.all_eq_true.1 hall t hm)⟩)
    (by kernel_rfl)
end Go.Proofs.YtfnkgldfgciplaaDoor
