import Derived.Test.YtndkmepdnekigaaStr
import Derived.Test.YtndkmepdnekigaaGMath
import Derived.Deep.QuietTactic
import Derived.BigQuiet
/-
  Fields in memory: a slice of fields read as a list of tags and texts.
-/
namespace Go.Proofs.Ytndkmepdnekigaa
open Go.RowKit

/-- From address ⟨b, off⟩ on lie the fields 'fs'. -/
def FsAt (w : World) (b off : Nat) (fs : List Fld) : Prop :=
  ∀ i, i < fs.length → w.cell? ⟨b, off + i * 2, none⟩ = some (.int .i64 (tg fs i)) ∧ w.cell? ⟨b, off + i * 2 + 1, none⟩ = some (.string (dt fs i))
/-- What a field's tag and text are: a number of 64 bits, a text that is not too long. -/
def FsWf (fs : List Fld) : Prop := ∀ f ∈ fs, (Lit.int .i64 f.1).wf = true ∧ f.2.size ≤ 9223372036854775807
/-- A slice that reads as 'fs'. -/
def IsFs (w : World) (A : Option Addr) (n : Nat) (fs : List Fld) : Prop :=
  n = fs.length ∧ n ≤ maxLen ∧ FsWf fs ∧ (0 < n → ∃ b off, A = some ⟨b, off, none⟩ ∧ b < w.heap.size ∧ FsAt w b off fs)

theorem cell_blk {w : World} {b : Nat} {cs : Array Value} {T : TypeId} {fr : Nat × Nat} (hb : w.heap[b]? = some (.cells cs T fr)) (j : Nat) : w.cell? ⟨b, j, none⟩ = cs[j]? := by simp [World.cell?, hb]
theorem frozen_blk {w : World} {b : Nat} {cs : Array Value} {T : TypeId} (hb : w.heap[b]? = some (.cells cs T (0, 0))) (j : Nat) : w.frozen? ⟨b, j, none⟩ = false := by simp [World.frozen?, hb]
theorem lt_of_blk {w : World} {k : Nat} {o : Obj} (h : w.heap[k]? = some o) : k < w.heap.size := (Array.getElem?_eq_some_iff.1 h).1
theorem bdn {B : Nat} {a w : World} (h : Below B a w) (n : Nat) : Below B a (w.drewN n) := ⟨h.os, h.tape, h.output, h.size, h.block⟩
theorem IsFs.below {w w' : World} {A : Option Addr} {n : Nat} {fs : List Fld} (h : IsFs w A n fs) (hb : Below w.heap.size w w') : IsFs w' A n fs := by
  obtain ⟨h1, h2, h3, h4⟩ := h
  refine ⟨h1, h2, h3, fun hn => ?_⟩
  obtain ⟨b, off, rfl, hlt, hc⟩ := h4 hn
  refine ⟨b, off, rfl, Nat.lt_of_lt_of_le hlt hb.size, fun i hi => ?_⟩
  obtain ⟨c1, c2⟩ := hc i hi
  exact ⟨(hb.cell (p := ⟨b, off + i * 2, none⟩) hlt).trans c1, (hb.cell (p := ⟨b, off + i * 2 + 1, none⟩) hlt).trans c2⟩
theorem tg_wf {fs : List Fld} (h : FsWf fs) {i : Nat} (hi : i < fs.length) : (Lit.int .i64 (tg fs i)).wf = true := by
  unfold tg
  rw [List.getD_eq_getElem?_getD, List.getElem?_eq_getElem hi]
  exact (h _ (List.getElem_mem _)).1
theorem dt_sz {fs : List Fld} (h : FsWf fs) {i : Nat} (hi : i < fs.length) : (dt fs i).size ≤ 9223372036854775807 := by
  unfold dt
  rw [List.getD_eq_getElem?_getD, List.getElem?_eq_getElem hi]
  exact (h _ (List.getElem_mem _)).2
end Go.Proofs.Ytndkmepdnekigaa
