import Derived.Test.YtfnkgldfgciplaaDoorNego
import Derived.Test.YtfnkgldfgciplaaDoorGPick
import Derived.Deep.DeepCutAuto
/-
  The contracts of the law package's own 'Hello' and 'awake' (stage 9), over what is asked of the program.
-/
namespace Go.Proofs.YtfnkgldfgciplaaDoor
open Go.RowKit
set_option linter.unusedVariables false

/-- The hello that 'Hello' makes. -/
def helR (l h f : Int) : Hl := ⟨min (1 + (pickN l 2 : Int)) (1 + (pickN h 2 : Int)), max (1 + (pickN l 2 : Int)) (1 + (pickN h 2 : Int)), pickN f 1048576⟩
theorem helR_right (l h f : Int) : RightH (helR l h f) := by
  have h1 := pickN_lt l 2 (by omega)
  have h2 := pickN_lt h 2 (by omega)
  have h3 := pickN_lt f 1048576 (by omega)
  unfold RightH helR
  simp only
  omega
theorem ret_hl {a b : Hl} (h : a = b) : Ending.returned (hlV a) = .returned (hlV b) := by rw [h]
set_option maxRecDepth 100000 in
set_option maxHeartbeats 2000000 in
theorem hello_any (l h f : Int) (hl : (Lit.int .i64 l).wf = true) (hh : (Lit.int .i64 h).wf = true) (hf : (Lit.int .i64 f).wf = true) (w : World) :
    Calls Tryd.prog 9 #[.int .i64 l, .int .i64 h, .int .i64 f] w fun e w' => e = .returned (hlV (helR l h f)) ∧ Below w.heap.size w w' := by
  have q1 := pickN9_nat l 2 (by omega) (by omega) hl
  have k1 := pickN_lt l 2 (by omega)
  have q2 := pickN9_nat h 2 (by omega) (by omega) hh
  have k2 := pickN_lt h 2 (by omega)
  have q3 := pickN9_nat f 1048576 (by omega) (by omega) hf
  obtain ⟨R, hR⟩ : ∃ R, helR l h f = R := ⟨_, rfl⟩
  rw [hR]
  unfold helR at hR
  generalize pickN l 2 = a at q1 k1 hR
  generalize pickN h 2 = b at q2 k2 hR
  generalize pickN f 1048576 = c at q3 hR
  have HRR := Lib.hid hR; clear hR
  have hx0 := HlBlk.new w ⟨0, 0, 0⟩
  obtain ⟨W0, hW0⟩ : ∃ W, w.alloc (.cells #[.int .i64 0, .int .i64 0, .int .i64 0] 23) = W := ⟨_, rfl⟩
  have hb0 : Below w.heap.size w W0 := by rw [← hW0]; exact (Below.refl _ _).alloc (Nat.le_refl _) _
  have hx : HlBlk W0 w.heap.size ⟨0, 0, 0⟩ := by rw [← hW0]; exact hx0
  clear hx0
  obtain ⟨x0, x1, x2⟩ := hx.cells
  have f0 := hx.frozen 0
  have f1 := hx.frozen 1
  have f2 := hx.frozen 2
  have HX := Lib.hid hx; clear hx
  have HB := Lib.hid hb0; clear hb0
  rcases (by omega : (a = 0 ∧ b = 0) ∨ (a = 0 ∧ b = 1) ∨ (a = 1 ∧ b = 0) ∨ (a = 1 ∧ b = 1)) with ⟨rfl, rfl⟩ | ⟨rfl, rfl⟩ | ⟨rfl, rfl⟩ | ⟨rfl, rfl⟩
  · have hR2 : ⟨1, 1, c⟩ = R := by rw [← HRR.out]; rfl
    have HR := Lib.hid hR2; clear hR2 HRR k1 k2
    go_enter Tryd.func9, Tryd.ntmps9
    go_wp2_with fail
    ((with_reducible refine (q1 _).mono ?_); rintro e W1 ⟨rfl, rfl⟩)
    go_wp2_with fail
    ((with_reducible refine (q2 _).mono ?_); rintro e W1 ⟨rfl, rfl⟩)
    go_wp2_with fail
    ((with_reducible refine (q3 _).mono ?_); rintro e W1 ⟨rfl, rfl⟩)
    go_wp2_with fail
    have hfin := HX.out.put ⟨1, 1, c⟩
    have hbf := ((HB.out.setCell (p := ⟨w.heap.size, 0, none⟩) (Nat.le_refl _) (.int .i64 1)).setCell (p := ⟨w.heap.size, 1, none⟩) (Nat.le_refl _) (.int .i64 1)).setCell (p := ⟨w.heap.size, 2, none⟩) (Nat.le_refl _) (.int .i64 (c : Int))
    obtain ⟨e0, e1, e2⟩ := hfin.cells
    simp only at e0 e1 e2
    refine bodyPost_ret (v := hlV R) (by rw [← HR.out]; simp [hlV, results, Tryd.results9, go_sem, e0, e1, e2]) rfl ⟨rfl, hbf⟩
  · have hR2 : ⟨1, 2, c⟩ = R := by rw [← HRR.out]; rfl
    have HR := Lib.hid hR2; clear hR2 HRR k1 k2
    go_enter Tryd.func9, Tryd.ntmps9
    go_wp2_with fail
    ((with_reducible refine (q1 _).mono ?_); rintro e W1 ⟨rfl, rfl⟩)
    go_wp2_with fail
    ((with_reducible refine (q2 _).mono ?_); rintro e W1 ⟨rfl, rfl⟩)
    go_wp2_with fail
    ((with_reducible refine (q3 _).mono ?_); rintro e W1 ⟨rfl, rfl⟩)
    go_wp2_with fail
    have hfin := HX.out.put ⟨1, 2, c⟩
    have hbf := ((HB.out.setCell (p := ⟨w.heap.size, 0, none⟩) (Nat.le_refl _) (.int .i64 1)).setCell (p := ⟨w.heap.size, 1, none⟩) (Nat.le_refl _) (.int .i64 2)).setCell (p := ⟨w.heap.size, 2, none⟩) (Nat.le_refl _) (.int .i64 (c : Int))
    obtain ⟨e0, e1, e2⟩ := hfin.cells
    simp only at e0 e1 e2
    refine bodyPost_ret (v := hlV R) (by rw [← HR.out]; simp [hlV, results, Tryd.results9, go_sem, e0, e1, e2]) rfl ⟨rfl, hbf⟩
  · have hR2 : ⟨1, 2, c⟩ = R := by rw [← HRR.out]; rfl
    have HR := Lib.hid hR2; clear hR2 HRR k1 k2
    go_enter Tryd.func9, Tryd.ntmps9
    go_wp2_with fail
    ((with_reducible refine (q1 _).mono ?_); rintro e W1 ⟨rfl, rfl⟩)
    go_wp2_with fail
    ((with_reducible refine (q2 _).mono ?_); rintro e W1 ⟨rfl, rfl⟩)
    go_wp2_with fail
    ((with_reducible refine (q3 _).mono ?_); rintro e W1 ⟨rfl, rfl⟩)
    go_wp2_with fail
    have hfin := HX.out.put ⟨1, 2, c⟩
    have hbf := ((HB.out.setCell (p := ⟨w.heap.size, 0, none⟩) (Nat.le_refl _) (.int .i64 1)).setCell (p := ⟨w.heap.size, 1, none⟩) (Nat.le_refl _) (.int .i64 2)).setCell (p := ⟨w.heap.size, 2, none⟩) (Nat.le_refl _) (.int .i64 (c : Int))
    obtain ⟨e0, e1, e2⟩ := hfin.cells
    simp only at e0 e1 e2
    refine bodyPost_ret (v := hlV R) (by rw [← HR.out]; simp [hlV, results, Tryd.results9, go_sem, e0, e1, e2]) rfl ⟨rfl, hbf⟩
  · have hR2 : ⟨2, 2, c⟩ = R := by rw [← HRR.out]; rfl
    have HR := Lib.hid hR2; clear hR2 HRR k1 k2
    go_enter Tryd.func9, Tryd.ntmps9
    go_wp2_with fail
    ((with_reducible refine (q1 _).mono ?_); rintro e W1 ⟨rfl, rfl⟩)
    go_wp2_with fail
    ((with_reducible refine (q2 _).mono ?_); rintro e W1 ⟨rfl, rfl⟩)
    go_wp2_with fail
    ((with_reducible refine (q3 _).mono ?_); rintro e W1 ⟨rfl, rfl⟩)
    go_wp2_with fail
    have hfin := HX.out.put ⟨2, 2, c⟩
    have hbf := ((HB.out.setCell (p := ⟨w.heap.size, 0, none⟩) (Nat.le_refl _) (.int .i64 2)).setCell (p := ⟨w.heap.size, 1, none⟩) (Nat.le_refl _) (.int .i64 2)).setCell (p := ⟨w.heap.size, 2, none⟩) (Nat.le_refl _) (.int .i64 (c : Int))
    obtain ⟨e0, e1, e2⟩ := hfin.cells
    simp only at e0 e1 e2
    refine bodyPost_ret (v := hlV R) (by rw [← HR.out]; simp [hlV, results, Tryd.results9, go_sem, e0, e1, e2]) rfl ⟨rfl, hbf⟩
end Go.Proofs.YtfnkgldfgciplaaDoor
