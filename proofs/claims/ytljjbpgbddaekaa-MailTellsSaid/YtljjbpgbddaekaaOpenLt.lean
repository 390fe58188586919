import Derived.Test.YtljjbpgbddaekaaLets
import Derived.Test.YtljjbpgbddaekaaOpen
import Derived.SizedLaws
/-
  A letter that came in, opened to its cells.
-/
namespace Go.Proofs.Ytljjbpgbddaekaa
open Go.RowKit Go.ChangeShapes Go.WideShapes

section
variable {H : Type} {enc : TypeId × Value → H} {w : World}
theorem cellsLt : Try.prog.cellsOf 25 = 3 := by kernel_rfl
theorem cellsInt11 : Try.prog.cellsOf 3 = 1 := by kernel_rfl
theorem cellsStr11 : Try.prog.cellsOf 9 = 1 := by kernel_rfl
theorem fieldsLt : ∃ f0 f1 f2, Try.prog.underlying 25 = some (.struct #[f0, f1, f2]) ∧ (f0.offset = 0 ∧ f0.type = 3) ∧ (f1.offset = 1 ∧ f1.type = 3) ∧ (f2.offset = 2 ∧ f2.type = 9) := ⟨_, _, _, Try.underlying25, ⟨rfl, rfl⟩, ⟨rfl, rfl⟩, ⟨rfl, rfl⟩⟩
theorem open_letter {v : Value} {d : DataW H} {ps : List MemPlace} {r : Reach} {b0 : Nat}
    (hv : Value.okWide Try.prog w r b0 25 v) (h : DataW.Trod enc Try.prog w 0 (fun _ => true) true 25 v d ps)
    (hwt : ∀ n ∈ d.weights Try.prog 25, n ≤ reachBytes) :
    ∃ m : Lt, v = ltV m ∧ LtWf m := by
  obtain ⟨f0, f1, f2, hu, ⟨o0, k0⟩, ⟨o1, k1⟩, ⟨o2, k2⟩⟩ := fieldsLt
  obtain ⟨⟨l⟩, rfl, hs⟩ := okWide_struct hu hv
  rw [cellsLt] at hs
  obtain ⟨fuel, hf⟩ := h
  obtain ⟨xs, m, _, hx0, hlen, hxl, hel⟩ := DataW.trod_struct hu hf
  have hl3 : l.length = 3 := by simpa using hs
  have hx3 : xs.length = 3 := by simpa using hxl
  have h0 := hel 0 f0 rfl
  have h1 := hel 1 f1 rfl
  have h2 := hel 2 f2 rfl
  clear hel hf hv hlen hs
  obtain ⟨c0, c1, c2, rfl⟩ : ∃ c0 c1 c2, l = [c0, c1, c2] := match l, hl3 with | [c0, c1, c2], _ => ⟨_, _, _, rfl⟩
  obtain ⟨x0, x1, x2, rfl⟩ : ∃ c0 c1 c2, xs = [c0, c1, c2] := match xs, hx3 with | [c0, c1, c2], _ => ⟨_, _, _, rfl⟩
  simp only [Value.cells] at h0 h1 h2
  rw [o0, k0, cellsInt11] at h0
  rw [o1, k1, cellsInt11] at h1
  rw [o2, k2, cellsStr11] at h2
  obtain ⟨i0, z0, e0, w0⟩ := DataW.trod_int Try.underlying3 (show DataW.trod enc Try.prog w 0 (fun _ => true) true m 3 [c0] = some x0 from h0)
  obtain ⟨i1, z1, e1, w1⟩ := DataW.trod_int Try.underlying3 (show DataW.trod enc Try.prog w 0 (fun _ => true) true m 3 [c1] = some x1 from h1)
  obtain ⟨s2, z2, e2, _⟩ := DataW.trod_string Try.underlying9 (show DataW.trod enc Try.prog w 0 (fun _ => true) true m 9 [c2] = some x2 from h2)
  have hd : d = .agg ([x0, x1, x2].map (·.1)) := by have := congrArg Prod.fst hx0; simpa using this
  clear hx0
  simp only [List.cons.injEq, and_true] at z0 z1 z2
  subst z0 z1 z2
  subst e0 e1 e2
  subst hd
  have hb : s2.size ≤ 140737488355328 := by
    have h := hwt s2.data.toList.length (by simp [DataW.weights, DataW.weightsEach, Try.underlying25])
    have : s2.size = s2.data.toList.length := by rw [Array.length_toList]; rfl
    have := reachBytes_lt
    omega
  exact ⟨⟨i0, i1, s2⟩, rfl, w0, w1, hb⟩
end
end Go.Proofs.Ytljjbpgbddaekaa
