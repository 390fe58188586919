import Derived.Test.YtjciojgldibfmaaFrs
import Derived.Test.YtjciojgldibfmaaOpen
import Derived.Test.YtjciojgldibfmaaRows
/-
  For the '..UptoSaid' of stage 6: what the bound on the bulk gives; a frame that came in, opened to its cells.
-/
namespace Go.Proofs.Ytjciojgldibfmaa
open Go.RowKit Go.ChangeShapes Go.WideShapes

section
variable {H : Type} {enc : TypeId × Value → H} {w : World}
theorem bulk_part {d : DataW H} {l : List (DataW H)} (h : d ∈ l) : Rows.uptoBulk d ≤ Rows.uptoBulkAll l := by
  induction l with
  | nil => cases h
  | cons x r ih =>
    simp only [Rows.uptoBulkAll]
    rcases List.mem_cons.1 h with rfl | e
    · omega
    · have := ih e; omega
theorem bulk_any {d : DataW H} {l : List (DataW H)} (hk : Rows.uptoSmall H l = true) (h : d ∈ l) : Rows.uptoBulk d ≤ 1048576 := by
  have h1 : Rows.uptoBulkAll l ≤ 1048576 := of_decide_eq_true hk
  have := bulk_part h
  omega
theorem bulk_str {s : ByteArray} {l : List (DataW H)} (hk : Rows.uptoSmall H l = true) (h : DataW.lit (.string s.data.toList) ∈ l) : s.size ≤ 1048576 := by
  have h1 := bulk_any hk h
  simp only [Rows.uptoBulk] at h1
  have e : s.data.toList.length = s.size := by rw [Array.length_toList]; rfl
  omega
theorem cellsFrm : Try.prog.cellsOf 23 = 3 := by kernel_rfl
theorem cellsInt6 : Try.prog.cellsOf 3 = 1 := by kernel_rfl
theorem cellsStr6 : Try.prog.cellsOf 9 = 1 := by kernel_rfl
theorem fieldsFrm : ∃ f0 f1 f2, Try.prog.underlying 23 = some (.struct #[f0, f1, f2]) ∧ (f0.offset = 0 ∧ f0.type = 3) ∧ (f1.offset = 1 ∧ f1.type = 3) ∧ (f2.offset = 2 ∧ f2.type = 9) := ⟨_, _, _, Try.underlying23, ⟨rfl, rfl⟩, ⟨rfl, rfl⟩, ⟨rfl, rfl⟩⟩
theorem open_frame {v : Value} {d : DataW H} {ps : List MemPlace} {r : Reach} {b0 : Nat}
    (hv : Value.okWide Try.prog w r b0 23 v) (h : DataW.Trod enc Try.prog w 0 (fun _ => true) true 23 v d ps) :
    ∃ f : Frm, v = .agg #[.int .i64 f.kind, .int .i64 f.flags, .string f.data] ∧ f.data.size ≤ Rows.uptoBulk d := by
  obtain ⟨f0, f1, f2, hu, ⟨o0, k0⟩, ⟨o1, k1⟩, ⟨o2, k2⟩⟩ := fieldsFrm
  obtain ⟨⟨l⟩, rfl, hs⟩ := okWide_struct hu hv
  rw [cellsFrm] at hs
  obtain ⟨fuel, hf⟩ := h
  obtain ⟨xs, m, _, hx0, hlen, hxl, hel⟩ := DataW.trod_struct hu hf
  have hl3 : l.length = 3 := by simpa using hs
  have hx3 : xs.length = 3 := by simpa using hxl
  have hd : d = .agg (xs.map (·.1)) := by have := congrArg Prod.fst hx0; simpa using this
  have h0 := hel 0 f0 rfl
  have h1 := hel 1 f1 rfl
  have h2 := hel 2 f2 rfl
  clear hel hf hx0 hv hlen hs
  obtain ⟨c0, c1, c2, rfl⟩ : ∃ c0 c1 c2, l = [c0, c1, c2] := match l, hl3 with | [c0, c1, c2], _ => ⟨_, _, _, rfl⟩
  obtain ⟨x0, x1, x2, rfl⟩ : ∃ c0 c1 c2, xs = [c0, c1, c2] := match xs, hx3 with | [c0, c1, c2], _ => ⟨_, _, _, rfl⟩
  simp only [Value.cells] at h0 h1 h2
  rw [o0, k0, cellsInt6] at h0
  rw [o1, k1, cellsInt6] at h1
  rw [o2, k2, cellsStr6] at h2
  obtain ⟨i0, z0, e0, w0⟩ := DataW.trod_int Try.underlying3 (show DataW.trod enc Try.prog w 0 (fun _ => true) true m 3 [c0] = some x0 from h0)
  obtain ⟨i1, z1, e1, w1⟩ := DataW.trod_int Try.underlying3 (show DataW.trod enc Try.prog w 0 (fun _ => true) true m 3 [c1] = some x1 from h1)
  obtain ⟨s2, z2, e2, _⟩ := DataW.trod_string Try.underlying9 (show DataW.trod enc Try.prog w 0 (fun _ => true) true m 9 [c2] = some x2 from h2)
  simp only [List.cons.injEq, and_true] at z0 z1 z2
  subst z0 z1 z2
  subst e0 e1 e2
  subst hd
  refine ⟨⟨i0, i1, s2⟩, rfl, ?_⟩
  have e : s2.data.toList.length = s2.size := by rw [Array.length_toList]; rfl
  simp [Rows.uptoBulk, Rows.uptoBulkAll]
  omega
end
end Go.Proofs.Ytjciojgldibfmaa
