import Derived.Test.YtjciojgldibfmaaFs
import Derived.Test.YtjciojgldibfmaaSumFour
/-
  A block whose first cells are bytes: '[]byte(s)', a byte of it changed, 'string(b)'.
-/
namespace Go.Proofs.Ytjciojgldibfmaa
open Go.RowKit

/-- A block whose first cells are these bytes. -/
def RowB (W : World) (B : Nat) (l : List UInt8) : Prop :=
  ∃ (cs : Array Value) (t : TypeId) (fr : Nat × Nat), W.heap[B]? = some (.cells cs t fr) ∧ l.length ≤ fr.1 ∧ ∀ p (h : p < l.length), cs[p]? = some (.int .u8 (l[p].toNat : Int))
theorem RowB.cell {W : World} {B : Nat} {l : List UInt8} (h : RowB W B l) (p : Nat) (hp : p < l.length) : W.cell? ⟨B, p, none⟩ = some (.int .u8 (l[p].toNat : Int)) := by
  obtain ⟨cs, t, fr, hb, _, hc⟩ := h
  rw [cell_blk hb]; exact hc p hp
theorem RowB.frozen {W : World} {B : Nat} {l : List UInt8} (h : RowB W B l) (p : Nat) (hp : p < l.length) : W.frozen? ⟨B, p, none⟩ = false := by
  obtain ⟨cs, t, ⟨f1, f2⟩, hb, hf, hc⟩ := h
  have hf' : l.length ≤ f1 := hf
  simp [World.frozen?, hb]
  omega
theorem RowB.put {W : World} {B : Nat} {l : List UInt8} (h : RowB W B l) (p : Nat) (hp : p < l.length) (b : UInt8) : RowB (W.setCell ⟨B, p, none⟩ (.int .u8 (b.toNat : Int))) B (l.set p b) := by
  obtain ⟨cs, t, fr, hb, hf, hc⟩ := h
  refine ⟨cs.setIfInBounds p (.int .u8 (b.toNat : Int)), t, fr, by simp [World.setCell, Array.getElem?_modify, hb], by simpa using hf, fun q hq => ?_⟩
  have hq' : q < l.length := by simpa using hq
  have hps : p < cs.size := by
    have h1 := hc p hp
    exact (Array.getElem?_eq_some_iff.1 h1).1
  by_cases e : p = q
  · subst e
    simp [Array.getElem?_setIfInBounds_self_of_lt hps]
  · rw [Array.getElem?_setIfInBounds_ne e, hc q hq', List.getElem_set_ne e]
theorem RowB.drew {W : World} {B : Nat} {l : List UInt8} (h : RowB W B l) : RowB W.drew B l := h
theorem rowB_new (w : World) (T : ByteArray) (cap : Nat) (e : TypeId) : RowB (w.drew.alloc (.cells (bytesRow T cap) e ((bytesRow T cap).size, (bytesRow T cap).size + 1))) w.heap.size T.data.toList := by
  refine ⟨bytesRow T cap, e, ((bytesRow T cap).size, (bytesRow T cap).size + 1), ?_, ?_, fun p hp => ?_⟩
  · show (w.heap.push _)[w.heap.size]? = _
    simp
  · show T.data.toList.length ≤ (bytesRow T cap).size
    simp [bytesRow]
  · have hp' : p < T.data.size := by simpa using hp
    have hs : p < T.size := hp'
    simp [bytesRow, Array.getElem?_append, hs]
theorem rowB_text {W : World} {B cap n : Nat} {l : List UInt8} (h : RowB W B l) (hn : n = l.length) :
    (convert 43 9 (.slice (some ⟨B, 0, none⟩) n cap)).run Try.prog W = .ok (.string (bs l)) W := by
  subst hn
  exact run_convert_bytes_back W _ _ 5 ⟨B, 0, none⟩ cap l Try.underlying43 Try.underlying5 Try.underlying9 (fun j hj => by
    rw [show (⟨B, 0, none⟩ : Addr).add j = ⟨B, j, none⟩ from by by_cases hz : j = 0 <;> simp [Addr.add, hz]]; exact h.cell j hj)
theorem text_bytes (T : ByteArray) (w : World) : (convert 9 43 (.string T)).run Try.prog w = .ok (.slice (some ⟨w.heap.size, 0, none⟩) T.size (grownCap w T.size 0 5))
      (w.drew.alloc (.cells (bytesRow T (grownCap w T.size 0 5)) 5 ((bytesRow T (grownCap w T.size 0 5)).size, (bytesRow T (grownCap w T.size 0 5)).size + 1))) :=
  run_bytes_of_string w _ _ _ T Try.underlying9 Try.underlying43 Try.underlying5

theorem RowB.cell2 {W : World} {B : Nat} {l : List UInt8} (h : RowB W B l) {p : Nat} {c : UInt8} (hp : l[p]? = some c) : W.cell? ⟨B, p, none⟩ = some (.int .u8 (c.toNat : Int)) := by
  obtain ⟨h1, h2⟩ := List.getElem?_eq_some_iff.1 hp
  rw [h.cell p h1, h2]
theorem RowB.below {W W' : World} {B : Nat} {l : List UInt8} (h : RowB W B l) (hb : Below W.heap.size W W') : RowB W' B l := by
  obtain ⟨cs, t, fr, hk, h1, h2⟩ := h
  exact ⟨cs, t, fr, (hb.block B (lt_of_blk hk)).trans hk, h1, h2⟩
end Go.Proofs.Ytjciojgldibfmaa
