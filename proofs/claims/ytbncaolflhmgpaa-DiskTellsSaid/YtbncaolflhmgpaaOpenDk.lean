import Derived.Test.YtbncaolflhmgpaaDk
import Derived.Test.YtbncaolflhmgpaaOpen
import Derived.SizedLaws
/-
  A disk that came in, opened to its texts.
-/
namespace Go.Proofs.Ytbncaolflhmgpaa
open Go.RowKit Go.ChangeShapes Go.WideShapes

section
variable {H : Type} {enc : TypeId × Value → H} {w : World}
theorem cellsDk : Try.prog.cellsOf 23 = 3 := by kernel_rfl
theorem cellsStr7 : Try.prog.cellsOf 9 = 1 := by kernel_rfl
theorem fieldsDk : ∃ f0 f1 f2, Try.prog.underlying 23 = some (.struct #[f0, f1, f2]) ∧ (f0.offset = 0 ∧ f0.type = 9) ∧ (f1.offset = 1 ∧ f1.type = 9) ∧ (f2.offset = 2 ∧ f2.type = 9) := ⟨_, _, _, Try.underlying23, ⟨rfl, rfl⟩, ⟨rfl, rfl⟩, ⟨rfl, rfl⟩⟩
theorem open_disk {v : Value} {d : DataW H} {ps : List MemPlace} {r : Reach} {b0 : Nat}
    (hv : Value.okWide Try.prog w r b0 23 v) (h : DataW.Trod enc Try.prog w 0 (fun _ => true) true 23 v d ps)
    (hwt : ∀ n ∈ d.weights Try.prog 23, n ≤ reachBytes) :
    ∃ a b c : ByteArray, v = .agg #[.string a, .string b, .string c] ∧ a.size ≤ 140737488355328 ∧ b.size ≤ 140737488355328 ∧ c.size ≤ 140737488355328 := by
  obtain ⟨f0, f1, f2, hu, ⟨o0, k0⟩, ⟨o1, k1⟩, ⟨o2, k2⟩⟩ := fieldsDk
  obtain ⟨⟨l⟩, rfl, hs⟩ := okWide_struct hu hv
  rw [cellsDk] at hs
  obtain ⟨fuel, hf⟩ := h
  obtain ⟨xs, m, _, hx0, hlen, hxl, hel⟩ := DataW.trod_struct hu hf
  have hl3 : l.length = 3 := by simpa using hs
  have hx3 : xs.length = 3 := by simpa using hxl
  have hd : d = .agg (xs.map (·.1)) := by have := congrArg Prod.fst hx0; simpa using this
  have h0 := hel 0 f0 rfl
  have h1 := hel 1 f1 rfl
  have h2 := hel 2 f2 rfl
  clear hel hf hx0 hv hlen hs
  obtain ⟨c0, c1, c2, rfl⟩ : ∃ c0 c1 c2, l = [c0, c1, c2] := match l, hl3 with | [c0, c1, c2], _ => ⟨_, _, _, rfl⟩
  obtain ⟨x0, x1, x2, rfl⟩ : ∃ c0 c1 c2, xs = [c0, c1, c2] := match xs, hx3 with | [c0, c1, c2], _ => ⟨_, _, _, rfl⟩
  simp only [Value.cells] at h0 h1 h2
  rw [o0, k0, cellsStr7] at h0
  rw [o1, k1, cellsStr7] at h1
  rw [o2, k2, cellsStr7] at h2
  obtain ⟨s0, z0, e0, _⟩ := DataW.trod_string Try.underlying9 (show DataW.trod enc Try.prog w 0 (fun _ => true) true m 9 [c0] = some x0 from h0)
  obtain ⟨s1, z1, e1, _⟩ := DataW.trod_string Try.underlying9 (show DataW.trod enc Try.prog w 0 (fun _ => true) true m 9 [c1] = some x1 from h1)
  obtain ⟨s2, z2, e2, _⟩ := DataW.trod_string Try.underlying9 (show DataW.trod enc Try.prog w 0 (fun _ => true) true m 9 [c2] = some x2 from h2)
  simp only [List.cons.injEq, and_true] at z0 z1 z2
  subst z0 z1 z2
  subst e0 e1 e2
  subst hd
  have key : ∀ s : ByteArray, s.data.toList.length ≤ reachBytes → s.size ≤ 140737488355328 := fun s hs => by
    have e : s.size = s.data.toList.length := by rw [Array.length_toList]; rfl
    have h : s.data.toList.length ≤ 140737488355328 := Nat.le_trans hs (by simp [reachBytes])
    omega
  refine ⟨s0, s1, s2, rfl, key _ (hwt _ ?_), key _ (hwt _ ?_), key _ (hwt _ ?_)⟩ <;> simp [DataW.weights, DataW.weightsEach, Try.underlying23]
end
end Go.Proofs.Ytbncaolflhmgpaa
