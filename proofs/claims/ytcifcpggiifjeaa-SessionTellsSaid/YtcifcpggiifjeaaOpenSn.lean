import Derived.Test.YtcifcpggiifjeaaSes
import Derived.Test.YtcifcpggiifjeaaOpen
import Derived.SliceStrings
/-
  A session that came in, opened to its cells.
-/
namespace Go.Proofs.Ytcifcpggiifjeaa
open Go.RowKit Go.ChangeShapes Go.WideShapes

section
variable {H : Type} {enc : TypeId × Value → H} {w : World}
theorem open_ints_t {v : Value} {d : DataW H} {ps : List MemPlace}
    (h : DataW.Trod enc Try.prog w 0 (fun _ => true) true 22 v d ps) (hs : ∃ A n cap, v = .slice A n cap) : ∃ A n cap zs, v = .slice A n cap ∧ IsRow .i64 w A n cap zs := by
  obtain ⟨A, n, cap, rfl⟩ := hs
  obtain ⟨fuel, hf⟩ := h
  rcases open_ints Try.underlying22 Try.underlying3 (by kernel_rfl) hf with ⟨hcs, _⟩ | ⟨x, l, c, zs, hcs, _, hl, hm, hz, _, hcell, hwz⟩
  · simp [Value.cells] at hcs
    obtain ⟨rfl, rfl, rfl⟩ := hcs
    exact ⟨none, 0, 0, [], rfl, .inl ⟨rfl, rfl, rfl, rfl⟩⟩
  · simp [Value.cells] at hcs
    obtain ⟨rfl, rfl, rfl⟩ := hcs
    exact ⟨_, n, cap, zs, rfl, .inr ⟨_, rfl, hl, hm, by simpa using hz, hcell, hwz⟩⟩
theorem cellsSn : Try.prog.cellsOf 24 = 3 := by kernel_rfl
theorem cellsInt10 : Try.prog.cellsOf 3 = 1 := by kernel_rfl
theorem cellsInts10 : Try.prog.cellsOf 22 = 1 := by kernel_rfl
theorem fieldsSn : ∃ f0 f1 f2, Try.prog.underlying 24 = some (.struct #[f0, f1, f2]) ∧ (f0.offset = 0 ∧ f0.type = 3) ∧ (f1.offset = 1 ∧ f1.type = 3) ∧ (f2.offset = 2 ∧ f2.type = 22) := ⟨_, _, _, Try.underlying24, ⟨rfl, rfl⟩, ⟨rfl, rfl⟩, ⟨rfl, rfl⟩⟩
theorem open_ses {v : Value} {d : DataW H} {ps : List MemPlace} {r : Reach} {b0 : Nat}
    (hv : Value.okWide Try.prog w r b0 24 v) (h : DataW.Trod enc Try.prog w 0 (fun _ => true) true 24 v d ps) :
    ∃ (s : Sn) (A : Option Addr) (n cap : Nat), v = snV s (.slice A n cap) ∧ SnWf s ∧ n ≤ cap ∧ IsNs w A n s.ahead := by
  obtain ⟨f0, f1, f2, hu, ⟨o0, k0⟩, ⟨o1, k1⟩, ⟨o2, k2⟩⟩ := fieldsSn
  obtain ⟨⟨l⟩, rfl, hs⟩ := okWide_struct hu hv
  rw [cellsSn] at hs
  obtain ⟨fuel, hf⟩ := h
  obtain ⟨xs, m, _, hx0, hlen, hxl, hel⟩ := DataW.trod_struct hu hf
  have hl3 : l.length = 3 := by simpa using hs
  have hx3 : xs.length = 3 := by simpa using hxl
  have h0 := hel 0 f0 rfl
  have h1 := hel 1 f1 rfl
  have h2 := hel 2 f2 rfl
  clear hel hf hx0 hv hlen hs
  obtain ⟨c0, c1, c2, rfl⟩ : ∃ c0 c1 c2, l = [c0, c1, c2] := match l, hl3 with | [c0, c1, c2], _ => ⟨_, _, _, rfl⟩
  obtain ⟨x0, x1, x2, rfl⟩ : ∃ c0 c1 c2, xs = [c0, c1, c2] := match xs, hx3 with | [c0, c1, c2], _ => ⟨_, _, _, rfl⟩
  simp only [Value.cells] at h0 h1 h2
  rw [o0, k0, cellsInt10] at h0
  rw [o1, k1, cellsInt10] at h1
  rw [o2, k2, cellsInts10] at h2
  obtain ⟨i0, z0, e0, w0⟩ := DataW.trod_int Try.underlying3 (show DataW.trod enc Try.prog w 0 (fun _ => true) true m 3 [c0] = some x0 from h0)
  obtain ⟨i1, z1, e1, w1⟩ := DataW.trod_int Try.underlying3 (show DataW.trod enc Try.prog w 0 (fun _ => true) true m 3 [c1] = some x1 from h1)
  have h2' : DataW.trod enc Try.prog w 0 (fun _ => true) true m 22 [c2] = some x2 := h2
  have hsl : ∃ A n cap, c2 = .slice A n cap := by
    rcases Go.Deep.open_slice Try.underlying22 h2' with ⟨hcs, _⟩ | ⟨x, l, c, m, q, D, Pl, hcs, _⟩
    · exact ⟨none, 0, 0, by simpa using hcs⟩
    · exact ⟨some x, l, c, by simpa using hcs⟩
  have hT : DataW.Trod enc Try.prog w 0 (fun _ => true) true 22 c2 x2.1 x2.2 := ⟨m, by
    obtain ⟨A, n, cap, rfl⟩ := hsl
    exact h2'⟩
  obtain ⟨A, n, cap, zs, hv2, hrow⟩ := open_ints_t hT hsl
  simp only [List.cons.injEq, and_true] at z0 z1
  subst z0 z1 hv2
  obtain ⟨hle, hns⟩ := hrow.isNs
  exact ⟨⟨i0, i1, zs.take n⟩, A, n, cap, rfl, ⟨w0, w1⟩, hle, hns⟩
end
end Go.Proofs.Ytcifcpggiifjeaa
