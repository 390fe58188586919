import Derived.Test.YtjdpihppniibjaaWire
import Derived.Test.YtjdpihppniibjaaOpen
import Derived.SizedLaws
/-
  A message that came in, opened to its cells.
-/
namespace Go.Proofs.Ytjdpihppniibjaa
open Go.RowKit Go.ChangeShapes Go.WideShapes

section
variable {H : Type} {enc : TypeId × Value → H} {w : World}
theorem cellsMg : Try.prog.cellsOf 23 = 6 := by kernel_rfl
theorem cellsStr8 : Try.prog.cellsOf 9 = 1 := by kernel_rfl
theorem cellsInt8 : Try.prog.cellsOf 3 = 1 := by kernel_rfl
theorem fieldsMg : ∃ f0 f1 f2 f3 f4 f5, Try.prog.underlying 23 = some (.struct #[f0, f1, f2, f3, f4, f5]) ∧ (f0.offset = 0 ∧ f0.type = 3) ∧ (f1.offset = 1 ∧ f1.type = 3) ∧ (f2.offset = 2 ∧ f2.type = 3) ∧ (f3.offset = 3 ∧ f3.type = 3) ∧ (f4.offset = 4 ∧ f4.type = 9) ∧ (f5.offset = 5 ∧ f5.type = 3) := ⟨_, _, _, _, _, _, Try.underlying23, ⟨rfl, rfl⟩, ⟨rfl, rfl⟩, ⟨rfl, rfl⟩, ⟨rfl, rfl⟩, ⟨rfl, rfl⟩, ⟨rfl, rfl⟩⟩
theorem open_msg {v : Value} {d : DataW H} {ps : List MemPlace} {r : Reach} {b0 : Nat}
    (hv : Value.okWide Try.prog w r b0 23 v) (h : DataW.Trod enc Try.prog w 0 (fun _ => true) true 23 v d ps)
    (hwt : ∀ n ∈ d.weights Try.prog 23, n ≤ reachBytes) :
    ∃ m : Mg, v = mgV m ∧ WfM m ∧ m.body.size ≤ 140737488355328 := by
  obtain ⟨f0, f1, f2, f3, f4, f5, hu, ⟨o0, k0⟩, ⟨o1, k1⟩, ⟨o2, k2⟩, ⟨o3, k3⟩, ⟨o4, k4⟩, ⟨o5, k5⟩⟩ := fieldsMg
  obtain ⟨⟨l⟩, rfl, hs⟩ := okWide_struct hu hv
  rw [cellsMg] at hs
  obtain ⟨fuel, hf⟩ := h
  obtain ⟨xs, m, _, hx0, hlen, hxl, hel⟩ := DataW.trod_struct hu hf
  have hl6 : l.length = 6 := by simpa using hs
  have hx6 : xs.length = 6 := by simpa using hxl
  have hd : d = .agg (xs.map (·.1)) := by have := congrArg Prod.fst hx0; simpa using this
  have h0 := hel 0 f0 rfl
  have h1 := hel 1 f1 rfl
  have h2 := hel 2 f2 rfl
  have h3 := hel 3 f3 rfl
  have h4 := hel 4 f4 rfl
  have h5 := hel 5 f5 rfl
  clear hel hf hx0 hv hlen hs
  obtain ⟨c0, c1, c2, c3, c4, c5, rfl⟩ : ∃ c0 c1 c2 c3 c4 c5, l = [c0, c1, c2, c3, c4, c5] := match l, hl6 with | [c0, c1, c2, c3, c4, c5], _ => ⟨_, _, _, _, _, _, rfl⟩
  obtain ⟨x0, x1, x2, x3, x4, x5, rfl⟩ : ∃ c0 c1 c2 c3 c4 c5, xs = [c0, c1, c2, c3, c4, c5] := match xs, hx6 with | [c0, c1, c2, c3, c4, c5], _ => ⟨_, _, _, _, _, _, rfl⟩
  simp only [Value.cells] at h0 h1 h2 h3 h4 h5
  rw [o0, k0, cellsInt8] at h0
  rw [o1, k1, cellsInt8] at h1
  rw [o2, k2, cellsInt8] at h2
  rw [o3, k3, cellsInt8] at h3
  rw [o4, k4, cellsStr8] at h4
  rw [o5, k5, cellsInt8] at h5
  obtain ⟨i0, z0, e0, w0⟩ := DataW.trod_int Try.underlying3 (show DataW.trod enc Try.prog w 0 (fun _ => true) true m 3 [c0] = some x0 from h0)
  obtain ⟨i1, z1, e1, w1⟩ := DataW.trod_int Try.underlying3 (show DataW.trod enc Try.prog w 0 (fun _ => true) true m 3 [c1] = some x1 from h1)
  obtain ⟨i2, z2, e2, w2⟩ := DataW.trod_int Try.underlying3 (show DataW.trod enc Try.prog w 0 (fun _ => true) true m 3 [c2] = some x2 from h2)
  obtain ⟨i3, z3, e3, w3⟩ := DataW.trod_int Try.underlying3 (show DataW.trod enc Try.prog w 0 (fun _ => true) true m 3 [c3] = some x3 from h3)
  obtain ⟨s4, z4, e4, _⟩ := DataW.trod_string Try.underlying9 (show DataW.trod enc Try.prog w 0 (fun _ => true) true m 9 [c4] = some x4 from h4)
  obtain ⟨i5, z5, e5, w5⟩ := DataW.trod_int Try.underlying3 (show DataW.trod enc Try.prog w 0 (fun _ => true) true m 3 [c5] = some x5 from h5)
  simp only [List.cons.injEq, and_true] at z0 z1 z2 z3 z4 z5
  subst z0 z1 z2 z3 z4 z5
  subst e0 e1 e2 e3 e4 e5
  subst hd
  have key : ∀ s : ByteArray, s.data.toList.length ≤ reachBytes → s.size ≤ 140737488355328 := fun s hs => by
    have e : s.size = s.data.toList.length := by rw [Array.length_toList]; rfl
    have h : s.data.toList.length ≤ 140737488355328 := Nat.le_trans hs (by simp [reachBytes])
    omega
  refine ⟨⟨i0, i1, i2, i3, s4, i5⟩, rfl, ⟨w0, w1, w2, w3, w5⟩, key _ (hwt _ ?_)⟩
  simp [DataW.weights, DataW.weightsEach, Try.underlying23]
end
end Go.Proofs.Ytjdpihppniibjaa
