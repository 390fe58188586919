import Derived.Test.YtndkmepdnekigaaStr
import Derived.Deep.Slices
import Derived.Deep.Fields
import Derived.ChangeSame
import Derived.SliceStrings
import Derived.OpenShut
/-
  What came in, opened to cells: slices of rows of k integers, of texts, of structs with two fields. Of no program.
-/
namespace Go.Proofs.Ytndkmepdnekigaa
open Go.RowKit Go.ChangeShapes Go.WideShapes

theorem cell_form {w : World} {x : Addr} {i : Nat} {v : Value} (h : w.cell? (x.add i) = some v) (hs : x.spot = none) : w.cell? ⟨x.block, x.off + i, none⟩ = some v := by
  obtain ⟨b, off, spot⟩ := x
  simp only at hs
  subst hs
  by_cases h0 : i = 0
  · subst h0; simpa [Addr.add] using h
  · simpa [Addr.add, h0] using h

/-- A slice of rows of kk integers: the j-th of the i-th row is f i j. -/
def IsRaw (w : World) (A : Option Addr) (n kk : Nat) (f : Nat → Nat → Int) : Prop :=
  n ≤ 9223372036854775807 ∧ (0 < n → ∃ b off, A = some ⟨b, off, none⟩ ∧ b < w.heap.size ∧ ∀ i j, i < n → j < kk → w.cell? ⟨b, off + i * kk + j, none⟩ = some (.int .i64 (f i j)) ∧ (Lit.int .i64 (f i j)).wf = true)
theorem IsRaw.below {w w' : World} {A : Option Addr} {n kk : Nat} {f : Nat → Nat → Int} (h : IsRaw w A n kk f) (hb : Below w.heap.size w w') : IsRaw w' A n kk f := by
  refine ⟨h.1, fun hn => ?_⟩
  obtain ⟨b, off, rfl, hlt, hc⟩ := h.2 hn
  exact ⟨b, off, rfl, Nat.lt_of_lt_of_le hlt hb.size, fun i j hi hj => ⟨(hb.cell (p := ⟨b, off + i * kk + j, none⟩) hlt).trans (hc i j hi hj).1, (hc i j hi hj).2⟩⟩
/-- A slice of texts. -/
def IsStrs (w : World) (A : Option Addr) (n : Nat) (g : Nat → ByteArray) : Prop :=
  n ≤ 9223372036854775807 ∧ (0 < n → ∃ b off, A = some ⟨b, off, none⟩ ∧ b < w.heap.size ∧ ∀ i, i < n → w.cell? ⟨b, off + i, none⟩ = some (.string (g i)) ∧ (g i).size ≤ 9223372036854775807)
theorem IsStrs.below {w w' : World} {A : Option Addr} {n : Nat} {g : Nat → ByteArray} (h : IsStrs w A n g) (hb : Below w.heap.size w w') : IsStrs w' A n g := by
  refine ⟨h.1, fun hn => ?_⟩
  obtain ⟨b, off, rfl, hlt, hc⟩ := h.2 hn
  exact ⟨b, off, rfl, Nat.lt_of_lt_of_le hlt hb.size, fun i hi => ⟨(hb.cell (p := ⟨b, off + i, none⟩) hlt).trans (hc i hi).1, (hc i hi).2⟩⟩

section
variable {H : Type} {enc : TypeId × Value → H} {P : Program} {w : World}
theorem open_raw {t e i64 : TypeId} {kk : Nat} {v : Value} {d : DataW H} {ps : List MemPlace} {r : Reach} {b0 : Nat} (ht : P.underlying t = some (.slice e)) (he : P.underlying e = some (.array kk i64)) (hi : P.underlying i64 = some (.int .i64)) (hC : P.cellsOf e = kk) (h1 : P.cellsOf i64 = 1) (hk : 0 < kk)
    (hv : Value.okWide P w r b0 t v) (h : DataW.Trod enc P w 0 (fun _ => true) true t v d ps) : ∃ A n cap f, v = .slice A n cap ∧ n ≤ cap ∧ IsRaw w A n kk f := by
  obtain ⟨A, n, cap, rfl⟩ := okWide_slice ht hv
  obtain ⟨fuel, hf⟩ := h
  rcases Go.Deep.open_slice ht hf with ⟨hcs, _⟩ | ⟨x, l, c, m, q, D, Pl, hcs, _, hl, hm, hmm, _, hrow⟩
  · simp [Value.cells] at hcs
    obtain ⟨rfl, rfl, rfl⟩ := hcs
    exact ⟨none, 0, 0, fun _ _ => 0, rfl, Nat.le_refl _, by omega, fun h => by omega⟩
  · simp [Value.cells] at hcs
    obtain ⟨rfl, rfl, rfl⟩ := hcs
    simp at hmm
    unfold maxLen at hm
    have key : ∀ i j, i < n → j < kk → ∃ z, w.cell? (x.add (i * kk + j)) = some (.int .i64 z) ∧ (Lit.int .i64 z).wf = true := by
      intro i j hi' hj
      obtain ⟨cs', hc, ht'⟩ := hrow i (by omega)
      rw [hC] at hc
      obtain ⟨_, hcl, hat⟩ := World.cells?_some hc
      obtain ⟨xs, m', _, _, hlen, hxl, hel⟩ := DataW.trod_array he ht'
      have h2 := hel j hj
      rw [h1, Nat.mul_one] at h2
      have hlt : j < cs'.length := by omega
      have e1 : (cs'.drop j).take 1 = [cs'[j]] := by rw [List.drop_eq_getElem_cons hlt]; rfl
      rw [e1, List.getElem?_eq_getElem (by omega)] at h2
      obtain ⟨z, hz, _, hwf⟩ := DataW.trod_int hi h2
      refine ⟨z, ?_, hwf⟩
      have h3 := hat j hj
      rw [Go.Deep.add_add] at h3
      rw [h3, List.getElem?_eq_getElem hlt]
      simpa using hz
    refine ⟨_, n, cap, fun i j => intOf ((w.cell? (x.add (i * kk + j))).getD undef), rfl, hl, by omega, fun hn => ?_⟩
    obtain ⟨z0, hz0, _⟩ := key 0 0 hn hk
    have hs : x.spot = none := World.cell?_spot (a := x) (by simpa [Addr.add] using hz0)
    refine ⟨x.block, x.off, by cases x; simp_all, lt_of_cell (a := ⟨x.block, _, none⟩) (cell_form hz0 hs), fun i j hi' hj => ?_⟩
    obtain ⟨z, hz, hwf⟩ := key i j hi' hj
    have hzf := cell_form hz hs
    rw [← Nat.add_assoc] at hzf
    simp only [hz]
    exact ⟨hzf, hwf⟩
theorem open_strs {t e : TypeId} {v : Value} {d : DataW H} {ps : List MemPlace} {r : Reach} {b0 : Nat} (ht : P.underlying t = some (.slice e)) (he : P.underlying e = some .string) (hC : P.cellsOf e = 1)
    (hv : Value.okWide P w r b0 t v) (h : DataW.Trod enc P w 0 (fun _ => true) true t v d ps) : ∃ A n cap g, v = .slice A n cap ∧ n ≤ cap ∧ IsStrs w A n g := by
  obtain ⟨A, n, cap, rfl⟩ := okWide_slice ht hv
  obtain ⟨fuel, hf⟩ := h
  rcases open_strings ht he hC hf with ⟨hcs, _⟩ | ⟨x, l, c, ss, hcs, _, hl, hm, hz, _, hcell, hwz⟩
  · simp [Value.cells] at hcs
    obtain ⟨rfl, rfl, rfl⟩ := hcs
    exact ⟨none, 0, 0, fun _ => ByteArray.empty, rfl, Nat.le_refl _, by omega, fun h => by omega⟩
  · simp [Value.cells] at hcs
    obtain ⟨rfl, rfl, rfl⟩ := hcs
    simp at hz
    unfold maxLen at hm hwz
    refine ⟨_, n, cap, fun i => ss.getD i ByteArray.empty, rfl, hl, by omega, fun hn => ?_⟩
    have hz0 := hcell 0 (by omega)
    have hs : x.spot = none := World.cell?_spot (a := x) (by simpa [Addr.add] using hz0)
    refine ⟨x.block, x.off, by cases x; simp_all, lt_of_cell (a := ⟨x.block, _, none⟩) (cell_form hz0 hs), fun i hi' => ⟨cell_form (hcell i (by omega)) hs, ?_⟩⟩
    show (ss.getD i ByteArray.empty).size ≤ _
    rw [List.getD_eq_getElem?_getD, List.getElem?_eq_getElem (by omega)]
    exact hwz _ (List.getElem_mem _)
end
end Go.Proofs.Ytndkmepdnekigaa
