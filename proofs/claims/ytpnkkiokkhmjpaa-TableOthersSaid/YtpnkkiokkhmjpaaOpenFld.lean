import Derived.Test.YtpnkkiokkhmjpaaOpen
import Derived.Test.YtpnkkiokkhmjpaaFs
/-
  A slice of fields that came in, opened to cells.
-/
namespace Go.Proofs.Ytpnkkiokkhmjpaa
open Go.RowKit Go.ChangeShapes Go.WideShapes

section
variable {H : Type} {enc : TypeId × Value → H} {w : World}
theorem one_of {cs : List Value} {j : Nat} (h : j < cs.length) : (cs.drop j).take 1 = [cs[j]] := by rw [List.drop_eq_getElem_cons h]; rfl
theorem cellsFld : Try.prog.cellsOf 57 = 2 := by kernel_rfl
theorem fieldsFld : ∃ f0 f1, Try.prog.underlying 57 = some (.struct #[f0, f1]) ∧ f0.offset = 0 ∧ f0.type = 3 ∧ f1.offset = 1 ∧ f1.type = 9 := ⟨_, _, Try.underlying57, rfl, rfl, rfl, rfl⟩
theorem cellsInt : Try.prog.cellsOf 3 = 1 := by kernel_rfl
theorem cellsStr : Try.prog.cellsOf 9 = 1 := by kernel_rfl
theorem open_flds {v : Value} {d : DataW H} {ps : List MemPlace} {r : Reach} {b0 : Nat}
    (hv : Value.okWide Try.prog w r b0 45 v) (h : DataW.Trod enc Try.prog w 0 (fun _ => true) true 45 v d ps) : ∃ A n cap fs, v = .slice A n cap ∧ n ≤ cap ∧ IsFs w A n fs := by
  obtain ⟨A, n, cap, rfl⟩ := okWide_slice Try.underlying45 hv
  obtain ⟨fuel, hf⟩ := h
  rcases Go.Deep.open_slice Try.underlying45 hf with ⟨hcs, _⟩ | ⟨x, l, c, m, q, D, Pl, hcs, _, hl, hm, hmm, _, hrow⟩
  · simp [Value.cells] at hcs
    obtain ⟨rfl, rfl, rfl⟩ := hcs
    exact ⟨none, 0, 0, [], rfl, Nat.le_refl _, rfl, by unfold maxLen; omega, fun f h => by simp at h, fun h => by omega⟩
  · simp [Value.cells] at hcs
    obtain ⟨rfl, rfl, rfl⟩ := hcs
    simp at hmm
    obtain ⟨f0, f1, hu, o0, k0, o1, k1⟩ := fieldsFld
    have key : ∀ i, i < n → ∃ z s, w.cell? (x.add (i * 2)) = some (.int .i64 z) ∧ w.cell? (x.add (i * 2 + 1)) = some (.string s) ∧ (Lit.int .i64 z).wf = true ∧ s.size ≤ maxLen := by
      intro i hi'
      obtain ⟨cs', hc, ht'⟩ := hrow i (by omega)
      rw [cellsFld] at hc
      obtain ⟨_, hcl, hat⟩ := World.cells?_some hc
      obtain ⟨xs, m', _, _, hlen, hxl, hel⟩ := DataW.trod_struct hu ht'
      have h0 := hel 0 f0 rfl
      have h1 := hel 1 f1 rfl
      rw [o0, k0, cellsInt, one_of (by omega), List.getElem?_eq_getElem (by rw [hxl]; simp)] at h0
      rw [o1, k1, cellsStr, one_of (by omega), List.getElem?_eq_getElem (by rw [hxl]; simp)] at h1
      obtain ⟨z, hz, _, hwf⟩ := DataW.trod_int Try.underlying3 h0
      obtain ⟨s, hs, _, hsz⟩ := DataW.trod_string Try.underlying9 h1
      have g0 := hat 0 (by omega)
      have g1 := hat 1 (by omega)
      rw [Go.Deep.add_add] at g0 g1
      refine ⟨z, s, ?_, ?_, hwf, hsz⟩
      · rw [Nat.add_zero] at g0; rw [g0, List.getElem?_eq_getElem (by omega)]; simpa using hz
      · rw [g1, List.getElem?_eq_getElem (by omega)]; simpa using hs
    -- the list that is read
    obtain ⟨F, hF⟩ : ∃ F : Nat → Fld, ∀ i, i < n → w.cell? (x.add (i * 2)) = some (.int .i64 (F i).1) ∧ w.cell? (x.add (i * 2 + 1)) = some (.string (F i).2) ∧ (Lit.int .i64 (F i).1).wf = true ∧ (F i).2.size ≤ maxLen := by
      refine ⟨fun i => (intOf ((w.cell? (x.add (i * 2))).getD undef), match w.cell? (x.add (i * 2 + 1)) with | some (.string s) => s | _ => ByteArray.empty), fun i hi => ?_⟩
      obtain ⟨z, s, e1, e2, e3, e4⟩ := key i hi
      simp only [e1, e2, Option.getD_some, intOf]
      exact ⟨trivial, trivial, e3, e4⟩
    have hlen : ((List.range n).map F).length = n := by simp
    have htg : ∀ i, i < n → tg ((List.range n).map F) i = (F i).1 := fun i hi => by rw [tg_at (by rw [hlen]; exact hi)]; simp
    have hdt : ∀ i, i < n → dt ((List.range n).map F) i = (F i).2 := fun i hi => by rw [dt_at (by rw [hlen]; exact hi)]; simp
    refine ⟨_, n, cap, (List.range n).map F, rfl, hl, hlen.symm, Nat.le_trans hl hm, fun f hf => ?_, fun hn => ?_⟩
    · obtain ⟨i, hi, rfl⟩ := List.mem_map.1 hf
      have := hF i (List.mem_range.1 hi)
      exact ⟨this.2.2.1, this.2.2.2⟩
    · have z0 := (hF 0 hn).1
      have hs : x.spot = none := World.cell?_spot (a := x) (by simpa [Addr.add] using z0)
      refine ⟨x.block, x.off, by cases x; simp_all, lt_of_cell (a := ⟨x.block, _, none⟩) (cell_form z0 hs), fun i hi => ?_⟩
      rw [hlen] at hi
      obtain ⟨e1, e2, _⟩ := hF i hi
      rw [htg i hi, hdt i hi]
      have e2' := cell_form e2 hs
      rw [← Nat.add_assoc] at e2'
      exact ⟨cell_form e1 hs, e2'⟩
end
end Go.Proofs.Ytpnkkiokkhmjpaa
