import Derived.Test.YtnfpfcbbbabckaaSumAwake
import Derived.Test.YtnfpfcbbbabckaaGPick
/-
  The walk of the law SumTells.
-/
namespace Go.Proofs.Ytnfpfcbbbabckaa
open Go.RowKit
set_option linter.unusedVariables false

set_option maxRecDepth 100000 in
set_option maxHeartbeats 4000000 in
theorem sumTells_walk (s : ByteArray) (a1 : Int) (w : World) (hs : s.size ≤ 140737488351232) (w1 : (Lit.int .i64 a1).wf = true) :
    Calls Try.prog 3 #[.string s, .int .i64 a1] w fun e w' => e = .returned (.bool true) ∧ Below w.heap.size w w' := by
  have p1 := pickS_nat a1 4294967296 (by omega) (by omega) w1
  generalize pickN a1 4294967296 = x at p1
  obtain ⟨P, hP⟩ : ∃ P, bs (bytesR (x : Int)) = P := ⟨_, rfl⟩
  obtain ⟨Q, hQ⟩ : ∃ Q, bs (bytesR a1) = Q := ⟨_, rfl⟩
  have y1 := fun W => bytes_any (x : Int) W
  have y2 := fun W => bytes_any a1 W
  have r1 := fun W => refbytes_any (x : Int) W
  have r2 := fun W => refbytes_any a1 W
  rw [hP] at y1 r1
  rw [hQ] at y2 r2
  have eP : (P.toList == P.toList) = true := by simp
  have eQ : (Q.toList == Q.toList) = true := by simp
  clear hP hQ
  by_cases hl : 3000 < s.size
  · obtain ⟨A, hA⟩ : ∃ A, s.extract 0 3000 = A := ⟨_, rfl⟩
    have hAs : A.size ≤ 3000 := by rw [← hA, ByteArray.size_extract]; omega
    have hsl : ∀ W : World, (Instr.slice 9 (.string s) none (some (.int .i64 3000)) none).run Try.prog W = .ok (.string A) W := fun W => slice_to hA (by omega) W
    obtain ⟨u, hu⟩ : ∃ u, sumR A.data.toList = u := ⟨_, rfl⟩
    have o1 := fun W => of_any A (by omega) W
    have o2 := fun W => refof_any A (by omega) W
    rw [hu] at o1 o2
    clear hu hA hAs
    go_enter Try.func3, Try.ntmps3
    go_wp2_with fail
    ((with_reducible refine (awake5_any _).mono ?_); rintro e W1 ⟨rfl, b1⟩)
    go_wp2_with fail
    ((with_reducible refine (o1 _).mono ?_); rintro e W ⟨rfl, rfl⟩)
    go_wp2_with fail
    ((with_reducible refine (o2 _).mono ?_); rintro e W ⟨rfl, rfl⟩)
    go_wp2_with fail
    ((with_reducible refine (y2 _).mono ?_); rintro e W2 ⟨rfl, b2⟩)
    go_wp2_with fail
    ((with_reducible refine (r2 _).mono ?_); rintro e W3 ⟨rfl, b3⟩)
    go_wp2_with fail
    ((with_reducible refine (p1 _).mono ?_); rintro e W ⟨rfl, rfl⟩)
    go_wp2_with fail
    ((with_reducible refine (y1 _).mono ?_); rintro e W4 ⟨rfl, b4⟩)
    go_wp2_with fail
    ((with_reducible refine (p1 _).mono ?_); rintro e W ⟨rfl, rfl⟩)
    go_wp2_with fail
    ((with_reducible refine (r1 _).mono ?_); rintro e W5 ⟨rfl, b5⟩)
    go_wp2_with fail
    go_ret
    exact ⟨rfl, bch (bch (bch (bch b1 b2) b3) b4) b5⟩
  · obtain ⟨u, hu⟩ : ∃ u, sumR s.data.toList = u := ⟨_, rfl⟩
    have o1 := fun W => of_any s (by omega) W
    have o2 := fun W => refof_any s (by omega) W
    rw [hu] at o1 o2
    clear hu
    go_enter Try.func3, Try.ntmps3
    go_wp2_with fail
    ((with_reducible refine (awake5_any _).mono ?_); rintro e W1 ⟨rfl, b1⟩)
    go_wp2_with fail
    ((with_reducible refine (o1 _).mono ?_); rintro e W ⟨rfl, rfl⟩)
    go_wp2_with fail
    ((with_reducible refine (o2 _).mono ?_); rintro e W ⟨rfl, rfl⟩)
    go_wp2_with fail
    ((with_reducible refine (y2 _).mono ?_); rintro e W2 ⟨rfl, b2⟩)
    go_wp2_with fail
    ((with_reducible refine (r2 _).mono ?_); rintro e W3 ⟨rfl, b3⟩)
    go_wp2_with fail
    ((with_reducible refine (p1 _).mono ?_); rintro e W ⟨rfl, rfl⟩)
    go_wp2_with fail
    ((with_reducible refine (y1 _).mono ?_); rintro e W4 ⟨rfl, b4⟩)
    go_wp2_with fail
    ((with_reducible refine (p1 _).mono ?_); rintro e W ⟨rfl, rfl⟩)
    go_wp2_with fail
    ((with_reducible refine (r1 _).mono ?_); rintro e W5 ⟨rfl, b5⟩)
    go_wp2_with fail
    go_ret
    exact ⟨rfl, bch (bch (bch (bch b1 b2) b3) b4) b5⟩
end Go.Proofs.Ytnfpfcbbbabckaa
