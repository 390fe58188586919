import Derived.Test.YtgckoihangccbaaOpenFld
import Derived.OpenShut
/-
  What came in, opened to cells: arrays of three, of five and of six integers.
-/
namespace Go.Proofs.Ytgckoihangccbaa
open Go.RowKit Go.ChangeShapes Go.WideShapes

section
variable {H : Type} {enc : TypeId × Value → H} {w : World}
theorem okWide_arrayb {P : Program} {r : Reach} {b0 : Nat} {t e : TypeId} {n : Nat} {v : Value} (ht : P.underlying t = some (.array n e)) (h : Value.okWide P w r b0 t v) : ∃ cs, v = .agg cs ∧ cs.size = P.cellsOf t := by
  simp only [Value.okWide, ht] at h
  obtain ⟨cs, h1, h2, _⟩ := h
  exact ⟨cs, h1, h2⟩
theorem open_arr3b {P : Program} {t i64 : TypeId} {v : Value} {d : DataW H} {ps : List MemPlace} {r : Reach} {b0 : Nat} (ht : P.underlying t = some (.array 3 i64)) (hi : P.underlying i64 = some (.int .i64)) (hC : P.cellsOf t = 3) (h1 : P.cellsOf i64 = 1)
    (hv : Value.okWide P w r b0 t v) (h : DataW.Trod enc P w 0 (fun _ => true) true t v d ps) :
    ∃ a0 a1 a2 : Int, v = .agg #[.int .i64 a0, .int .i64 a1, .int .i64 a2] ∧ (Lit.int .i64 a0).wf = true ∧ (Lit.int .i64 a1).wf = true ∧ (Lit.int .i64 a2).wf = true := by
  obtain ⟨cs, rfl, hs⟩ := okWide_arrayb ht hv
  rw [hC] at hs
  obtain ⟨fuel, hf⟩ := h
  obtain ⟨xs, m, _, _, hl, hx, hel⟩ := DataW.trod_array ht hf
  obtain ⟨l⟩ := cs
  have hl5 : l.length = 3 := by simpa using hs
  have key : ∀ i, (hi5 : i < 3) → ∃ a : Int, l[i]'(by omega) = .int .i64 a ∧ (Lit.int .i64 a).wf = true := by
    intro i hi5
    have h2 := hel i hi5
    rw [h1, Nat.mul_one] at h2
    have hlt : i < ((Value.agg ⟨l⟩).cells.toList).length := by simp [Value.cells]; omega
    rw [one_of hlt, List.getElem?_eq_getElem (by omega)] at h2
    obtain ⟨z, hz, _, hwf⟩ := DataW.trod_int hi h2
    refine ⟨z, ?_, hwf⟩
    simpa [Value.cells] using hz
  match l, hl5, key with
  | [b0, b1, b2], _, key =>
    obtain ⟨a0, e0, w0⟩ := key 0 (by omega)
    obtain ⟨a1, e1, w1⟩ := key 1 (by omega)
    obtain ⟨a2, e2, w2⟩ := key 2 (by omega)
    simp only [List.getElem_cons_zero, List.getElem_cons_succ] at e0 e1 e2
    subst e0 e1 e2
    exact ⟨a0, a1, a2, rfl, w0, w1, w2⟩
theorem open_arr5b {P : Program} {t i64 : TypeId} {v : Value} {d : DataW H} {ps : List MemPlace} {r : Reach} {b0 : Nat} (ht : P.underlying t = some (.array 5 i64)) (hi : P.underlying i64 = some (.int .i64)) (hC : P.cellsOf t = 5) (h1 : P.cellsOf i64 = 1)
    (hv : Value.okWide P w r b0 t v) (h : DataW.Trod enc P w 0 (fun _ => true) true t v d ps) :
    ∃ a0 a1 a2 a3 a4 : Int, v = .agg #[.int .i64 a0, .int .i64 a1, .int .i64 a2, .int .i64 a3, .int .i64 a4] ∧ (Lit.int .i64 a0).wf = true ∧ (Lit.int .i64 a1).wf = true ∧ (Lit.int .i64 a2).wf = true ∧ (Lit.int .i64 a3).wf = true ∧ (Lit.int .i64 a4).wf = true := by
  obtain ⟨cs, rfl, hs⟩ := okWide_arrayb ht hv
  rw [hC] at hs
  obtain ⟨fuel, hf⟩ := h
  obtain ⟨xs, m, _, _, hl, hx, hel⟩ := DataW.trod_array ht hf
  obtain ⟨l⟩ := cs
  have hl5 : l.length = 5 := by simpa using hs
  have key : ∀ i, (hi5 : i < 5) → ∃ a : Int, l[i]'(by omega) = .int .i64 a ∧ (Lit.int .i64 a).wf = true := by
    intro i hi5
    have h2 := hel i hi5
    rw [h1, Nat.mul_one] at h2
    have hlt : i < ((Value.agg ⟨l⟩).cells.toList).length := by simp [Value.cells]; omega
    rw [one_of hlt, List.getElem?_eq_getElem (by omega)] at h2
    obtain ⟨z, hz, _, hwf⟩ := DataW.trod_int hi h2
    refine ⟨z, ?_, hwf⟩
    simpa [Value.cells] using hz
  match l, hl5, key with
  | [b0, b1, b2, b3, b4], _, key =>
    obtain ⟨a0, e0, w0⟩ := key 0 (by omega)
    obtain ⟨a1, e1, w1⟩ := key 1 (by omega)
    obtain ⟨a2, e2, w2⟩ := key 2 (by omega)
    obtain ⟨a3, e3, w3⟩ := key 3 (by omega)
    obtain ⟨a4, e4, w4⟩ := key 4 (by omega)
    simp only [List.getElem_cons_zero, List.getElem_cons_succ] at e0 e1 e2 e3 e4
    subst e0 e1 e2 e3 e4
    exact ⟨a0, a1, a2, a3, a4, rfl, w0, w1, w2, w3, w4⟩
theorem open_arr6b {P : Program} {t i64 : TypeId} {v : Value} {d : DataW H} {ps : List MemPlace} {r : Reach} {b0 : Nat} (ht : P.underlying t = some (.array 6 i64)) (hi : P.underlying i64 = some (.int .i64)) (hC : P.cellsOf t = 6) (h1 : P.cellsOf i64 = 1)
    (hv : Value.okWide P w r b0 t v) (h : DataW.Trod enc P w 0 (fun _ => true) true t v d ps) :
    ∃ a0 a1 a2 a3 a4 a5 : Int, v = .agg #[.int .i64 a0, .int .i64 a1, .int .i64 a2, .int .i64 a3, .int .i64 a4, .int .i64 a5] ∧ (Lit.int .i64 a0).wf = true ∧ (Lit.int .i64 a1).wf = true ∧ (Lit.int .i64 a2).wf = true ∧ (Lit.int .i64 a3).wf = true ∧ (Lit.int .i64 a4).wf = true ∧ (Lit.int .i64 a5).wf = true := by
  obtain ⟨cs, rfl, hs⟩ := okWide_arrayb ht hv
  rw [hC] at hs
  obtain ⟨fuel, hf⟩ := h
  obtain ⟨xs, m, _, _, hl, hx, hel⟩ := DataW.trod_array ht hf
  obtain ⟨l⟩ := cs
  have hl5 : l.length = 6 := by simpa using hs
  have key : ∀ i, (hi5 : i < 6) → ∃ a : Int, l[i]'(by omega) = .int .i64 a ∧ (Lit.int .i64 a).wf = true := by
    intro i hi5
    have h2 := hel i hi5
    rw [h1, Nat.mul_one] at h2
    have hlt : i < ((Value.agg ⟨l⟩).cells.toList).length := by simp [Value.cells]; omega
    rw [one_of hlt, List.getElem?_eq_getElem (by omega)] at h2
    obtain ⟨z, hz, _, hwf⟩ := DataW.trod_int hi h2
    refine ⟨z, ?_, hwf⟩
    simpa [Value.cells] using hz
  match l, hl5, key with
  | [b0, b1, b2, b3, b4, b5], _, key =>
    obtain ⟨a0, e0, w0⟩ := key 0 (by omega)
    obtain ⟨a1, e1, w1⟩ := key 1 (by omega)
    obtain ⟨a2, e2, w2⟩ := key 2 (by omega)
    obtain ⟨a3, e3, w3⟩ := key 3 (by omega)
    obtain ⟨a4, e4, w4⟩ := key 4 (by omega)
    obtain ⟨a5, e5, w5⟩ := key 5 (by omega)
    simp only [List.getElem_cons_zero, List.getElem_cons_succ] at e0 e1 e2 e3 e4 e5
    subst e0 e1 e2 e3 e4 e5
    exact ⟨a0, a1, a2, a3, a4, a5, rfl, w0, w1, w2, w3, w4, w5⟩
end
end Go.Proofs.Ytgckoihangccbaa
