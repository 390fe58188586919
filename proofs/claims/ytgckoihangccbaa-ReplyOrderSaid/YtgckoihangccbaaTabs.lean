import Derived.Test.YtgckoihangccbaaGTab
import Derived.Test.YtgckoihangccbaaRecSame
import Derived.Test.YtgckoihangccbaaRecRight
import Derived.Test.YtgckoihangccbaaOpen
import Derived.Test.YtgckoihangccbaaInts
import Derived.Deep.RegionHeld3
import Derived.Deep.RegionLaw
import Derived.Deep.DeepCutAuto
import Derived.BigRegion
import Derived.BigQuiet
/-
  Tables in memory (stage 12): a slice that reads as a table; what is asked of the program's functions.
-/
namespace Go.Proofs.Ytgckoihangccbaa
open Go.RowKit
set_option linter.unusedVariables false

/-- What a record's cells may hold. -/
def RcW (r : Rcd) : Prop := RcWf r ∧ (Lit.int .i64 r.rev).wf = true ∧ (Lit.int .i64 r.life).wf = true ∧ r.extra.length * 24 ≤ 140737488351232
/-- Six cells that read as a record. -/
def RcAt (w : World) (b o : Nat) (r : Rcd) (x : Value) : Prop := w.cell? ⟨b, o, none⟩ = some (.string r.key) ∧ w.cell? ⟨b, o + 1, none⟩ = some (.string r.value) ∧ w.cell? ⟨b, o + 2, none⟩ = some (.int .i64 r.rev) ∧ w.cell? ⟨b, o + 3, none⟩ = some (.int .i64 r.life) ∧ w.cell? ⟨b, o + 4, none⟩ = some (.string r.note) ∧ w.cell? ⟨b, o + 5, none⟩ = some x
theorem RcAt.below {w w' : World} {b o : Nat} {r : Rcd} {x : Value} (h : RcAt w b o r x) (hb : Below w.heap.size w w') : RcAt w' b o r x := by
  obtain ⟨h0, h1, h2, h3, h4, h5⟩ := h
  have hlt := lt_of_cell (a := ⟨b, o, none⟩) h0
  exact ⟨(hb.cell (p := ⟨b, o, none⟩) hlt).trans h0, (hb.cell (p := ⟨b, o + 1, none⟩) hlt).trans h1, (hb.cell (p := ⟨b, o + 2, none⟩) hlt).trans h2, (hb.cell (p := ⟨b, o + 3, none⟩) hlt).trans h3, (hb.cell (p := ⟨b, o + 4, none⟩) hlt).trans h4, (hb.cell (p := ⟨b, o + 5, none⟩) hlt).trans h5⟩
/-- A slice that reads as a table. -/
def IsTs (w : World) (A : Option Addr) (n : Nat) (t : List Rcd) : Prop :=
  n = t.length ∧ n ≤ maxLen ∧ (∀ r ∈ t, RcW r) ∧ (0 < n → ∃ b off, A = some ⟨b, off, none⟩ ∧ b < w.heap.size ∧ ∀ i, i < t.length → ∃ E m c, RcAt w b (off + i * 6) (atR t i) (.slice E m c) ∧ m ≤ c ∧ IsFs w E m (atR t i).extra)
theorem IsTs.below {w w' : World} {A : Option Addr} {n : Nat} {t : List Rcd} (h : IsTs w A n t) (hb : Below w.heap.size w w') : IsTs w' A n t := by
  obtain ⟨h1, h2, h3, h4⟩ := h
  refine ⟨h1, h2, h3, fun hn => ?_⟩
  obtain ⟨b, off, e, hlt, hc⟩ := h4 hn
  refine ⟨b, off, e, Nat.lt_of_lt_of_le hlt hb.size, fun i hi => ?_⟩
  obtain ⟨E, m, c, k1, k2, k3⟩ := hc i hi
  exact ⟨E, m, c, k1.below hb, k2, k3.below hb⟩
theorem isTs_nil (w : World) (A : Option Addr) : IsTs w A 0 [] := ⟨rfl, by unfold maxLen; omega, (fun r h => nomatch h), fun h => by omega⟩
/-- The i-th record, where the slice's block is known. -/
theorem IsTs.at {w W : World} {b off n i : Nat} {t : List Rcd} (h : IsTs w (some ⟨b, off, none⟩) n t) (hi : i < t.length) (hb : Below w.heap.size w W) :
    ∃ E m c, RcAt W b (off + i * 6) (atR t i) (.slice E m c) ∧ m ≤ c ∧ IsFs W E m (atR t i).extra := by
  have h2 := h.below hb
  obtain ⟨b2, o2, hA, hlt, hc⟩ := h2.2.2.2 (by have := h.1; omega)
  simp only [Option.some.injEq, Addr.mk.injEq, and_true] at hA
  obtain ⟨rfl, rfl⟩ := hA
  exact hc i hi
theorem IsTs.block {w : World} {A : Option Addr} {n : Nat} {t : List Rcd} (h : IsTs w A n t) (hn : 0 < n) : ∃ b off, A = some ⟨b, off, none⟩ ∧ b < w.heap.size := by
  obtain ⟨b, off, e, hlt, _⟩ := h.2.2.2 hn
  exact ⟨b, off, e, hlt⟩
/-- Texts in a row: a reply's keys. -/
def IsSs (w : World) (A : Option Addr) (n : Nat) (l : List ByteArray) : Prop :=
  n = l.length ∧ n ≤ maxLen ∧ (∀ s ∈ l, s.size ≤ maxLen) ∧ (0 < n → ∃ b off, A = some ⟨b, off, none⟩ ∧ b < w.heap.size ∧ ∀ i, i < l.length → w.cell? ⟨b, off + i, none⟩ = some (.string (l.getD i ByteArray.empty)))
theorem IsSs.below {w w' : World} {A : Option Addr} {n : Nat} {l : List ByteArray} (h : IsSs w A n l) (hb : Below w.heap.size w w') : IsSs w' A n l := by
  obtain ⟨h1, h2, h3, h4⟩ := h
  refine ⟨h1, h2, h3, fun hn => ?_⟩
  obtain ⟨b, off, e, hlt, hc⟩ := h4 hn
  exact ⟨b, off, e, Nat.lt_of_lt_of_le hlt hb.size, fun i hi => (hb.cell (p := ⟨b, off + i, none⟩) hlt).trans (hc i hi)⟩
theorem isSs_nil (w : World) (A : Option Addr) : IsSs w A 0 [] := ⟨rfl, by unfold maxLen; omega, (fun r h => nomatch h), fun h => by omega⟩
/-- An op, a reply as values. -/
def opV (o : OpR) : Value := .agg #[.int .i64 o.kind, .string o.key, .string o.value, .int .i64 o.rev, .string o.upto, .int .i64 o.life, .string o.note]
def rpV (r : RepR) (x : Value) : Value := .agg #[.int .i64 r.errno, .int .i64 r.rev, .string r.value, x]
def OpWf (o : OpR) : Prop := (Lit.int .i64 o.kind).wf = true ∧ o.key.size ≤ 140737488365000 ∧ o.value.size ≤ 140737488365000 ∧ (Lit.int .i64 o.rev).wf = true ∧ o.upto.size ≤ 140737488365000 ∧ (Lit.int .i64 o.life).wf = true ∧ o.note.size ≤ 140737488365000
/-- What Do leaves. (The table that it was, where it is as it was, may be the very slice that was handed in; nothing is asked of where it lies.) -/
def DoPost (w : World) (u : List Rcd) (r : RepR) (e : Ending) (w' : World) : Prop :=
  ∃ A n cap K k kc, e = .returned (.tuple #[.slice A n cap, rpV r (.slice K k kc)]) ∧ n ≤ cap ∧ IsTs w' A n u ∧ k ≤ kc ∧ IsSs w' K k r.keys ∧ Below w.heap.size w w'
/-- Are two tables the same? -/
def sameT (t u : List Rcd) : Bool := decide (t.length = u.length) && decide (∀ i, i < t.length → sameR (atR t i) (atR u i) = true)
theorem sameT_iff {t u : List Rcd} : sameT t u = true ↔ t = u := by
  unfold sameT
  simp only [Bool.and_eq_true, decide_eq_true_eq, sameR_iff]
  constructor
  · rintro ⟨h1, h2⟩
    refine List.ext_getElem h1 fun i hi hj => ?_
    have := h2 i hi
    rw [atR_get hi, atR_get hj] at this
    exact this
  · rintro rfl; exact ⟨rfl, fun _ _ => rfl⟩
theorem sameT_self (t : List Rcd) : sameT t t = true := sameT_iff.2 rfl
end Go.Proofs.Ytgckoihangccbaa
