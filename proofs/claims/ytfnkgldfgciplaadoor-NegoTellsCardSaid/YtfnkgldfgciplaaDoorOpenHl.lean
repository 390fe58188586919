import Derived.Test.YtfnkgldfgciplaaDoorNego
import Derived.Test.YtfnkgldfgciplaaDoorOpen
/-
  A hello that came in, opened to its cells.
-/
namespace Go.Proofs.YtfnkgldfgciplaaDoor
open Go.RowKit Go.ChangeShapes Go.WideShapes

section
variable {H : Type} {enc : TypeId × Value → H} {w : World}
theorem cellsHl : Tryd.prog.cellsOf 23 = 3 := by kernel_rfl
theorem cellsInt9 : Tryd.prog.cellsOf 3 = 1 := by kernel_rfl
theorem fieldsHl : ∃ f0 f1 f2, Tryd.prog.underlying 23 = some (.struct #[f0, f1, f2]) ∧ (f0.offset = 0 ∧ f0.type = 3) ∧ (f1.offset = 1 ∧ f1.type = 3) ∧ (f2.offset = 2 ∧ f2.type = 3) := ⟨_, _, _, Tryd.underlying23, ⟨rfl, rfl⟩, ⟨rfl, rfl⟩, ⟨rfl, rfl⟩⟩
theorem open_hello {v : Value} {d : DataW H} {ps : List MemPlace} {r : Reach} {b0 : Nat}
    (hv : Value.okWide Tryd.prog w r b0 23 v) (h : DataW.Trod enc Tryd.prog w 0 (fun _ => true) true 23 v d ps) :
    ∃ m : Hl, v = hlV m ∧ WfH m := by
  obtain ⟨f0, f1, f2, hu, ⟨o0, k0⟩, ⟨o1, k1⟩, ⟨o2, k2⟩⟩ := fieldsHl
  obtain ⟨⟨l⟩, rfl, hs⟩ := okWide_struct hu hv
  rw [cellsHl] at hs
  obtain ⟨fuel, hf⟩ := h
  obtain ⟨xs, m, _, hx0, hlen, hxl, hel⟩ := DataW.trod_struct hu hf
  have hl3 : l.length = 3 := by simpa using hs
  have hx3 : xs.length = 3 := by simpa using hxl
  have h0 := hel 0 f0 rfl
  have h1 := hel 1 f1 rfl
  have h2 := hel 2 f2 rfl
  clear hel hf hx0 hv hlen hs
  obtain ⟨c0, c1, c2, rfl⟩ : ∃ c0 c1 c2, l = [c0, c1, c2] := match l, hl3 with | [c0, c1, c2], _ => ⟨_, _, _, rfl⟩
  obtain ⟨x0, x1, x2, rfl⟩ : ∃ c0 c1 c2, xs = [c0, c1, c2] := match xs, hx3 with | [c0, c1, c2], _ => ⟨_, _, _, rfl⟩
  simp only [Value.cells] at h0 h1 h2
  rw [o0, k0, cellsInt9] at h0
  rw [o1, k1, cellsInt9] at h1
  rw [o2, k2, cellsInt9] at h2
  obtain ⟨i0, z0, e0, w0⟩ := DataW.trod_int Tryd.underlying3 (show DataW.trod enc Tryd.prog w 0 (fun _ => true) true m 3 [c0] = some x0 from h0)
  obtain ⟨i1, z1, e1, w1⟩ := DataW.trod_int Tryd.underlying3 (show DataW.trod enc Tryd.prog w 0 (fun _ => true) true m 3 [c1] = some x1 from h1)
  obtain ⟨i2, z2, e2, w2⟩ := DataW.trod_int Tryd.underlying3 (show DataW.trod enc Tryd.prog w 0 (fun _ => true) true m 3 [c2] = some x2 from h2)
  simp only [List.cons.injEq, and_true] at z0 z1 z2
  subst z0 z1 z2
  exact ⟨⟨i0, i1, i2⟩, rfl, w0, w1, w2⟩
end
end Go.Proofs.YtfnkgldfgciplaaDoor
