import Derived.Test.YtjdpihppniibjaaWireMade
import Derived.Test.YtjdpihppniibjaaWireAwake
/-
  Rows of two and of three messages in a block (stage 8).
-/
namespace Go.Proofs.Ytjdpihppniibjaa
open Go.RowKit
set_option linter.unusedVariables false

def Ms2 (W : World) (b : Nat) (x y : Mg) : Prop := W.heap[b]? = some (.cells #[.int .i64 x.kind, .int .i64 x.frm, .int .i64 x.to, .int .i64 x.seq, .string x.body, .int .i64 x.trace, .int .i64 y.kind, .int .i64 y.frm, .int .i64 y.to, .int .i64 y.seq, .string y.body, .int .i64 y.trace] 23 (0, 0))
def Ms3 (W : World) (b : Nat) (x y z : Mg) : Prop := W.heap[b]? = some (.cells #[.int .i64 x.kind, .int .i64 x.frm, .int .i64 x.to, .int .i64 x.seq, .string x.body, .int .i64 x.trace, .int .i64 y.kind, .int .i64 y.frm, .int .i64 y.to, .int .i64 y.seq, .string y.body, .int .i64 y.trace, .int .i64 z.kind, .int .i64 z.frm, .int .i64 z.to, .int .i64 z.seq, .string z.body, .int .i64 z.trace] 23 (0, 0))
theorem Ms2.below {w w' : World} {b : Nat} {x y : Mg} (h : Ms2 w b x y) (hb : Below w.heap.size w w') : Ms2 w' b x y := Eq.trans (hb.block b (lt_of_blk h)) h
theorem Ms3.below {w w' : World} {b : Nat} {x y z : Mg} (h : Ms3 w b x y z) (hb : Below w.heap.size w w') : Ms3 w' b x y z := Eq.trans (hb.block b (lt_of_blk h)) h
theorem Ms2.new (W : World) (x y : Mg) : Ms2 (W.alloc (.cells #[.int .i64 x.kind, .int .i64 x.frm, .int .i64 x.to, .int .i64 x.seq, .string x.body, .int .i64 x.trace, .int .i64 y.kind, .int .i64 y.frm, .int .i64 y.to, .int .i64 y.seq, .string y.body, .int .i64 y.trace] 23)) W.heap.size x y := World.alloc_heap_new W _
theorem Ms3.new (W : World) (x y z : Mg) : Ms3 (W.alloc (.cells #[.int .i64 x.kind, .int .i64 x.frm, .int .i64 x.to, .int .i64 x.seq, .string x.body, .int .i64 x.trace, .int .i64 y.kind, .int .i64 y.frm, .int .i64 y.to, .int .i64 y.seq, .string y.body, .int .i64 y.trace, .int .i64 z.kind, .int .i64 z.frm, .int .i64 z.to, .int .i64 z.seq, .string z.body, .int .i64 z.trace] 23)) W.heap.size x y z := World.alloc_heap_new W _
/-- The six cells of a message from a place on. -/
def At6 (W : World) (b o : Nat) (m : Mg) : Prop := W.cell? ⟨b, o, none⟩ = some (.int .i64 m.kind) ∧ W.cell? ⟨b, o + 1, none⟩ = some (.int .i64 m.frm) ∧ W.cell? ⟨b, o + 2, none⟩ = some (.int .i64 m.to) ∧ W.cell? ⟨b, o + 3, none⟩ = some (.int .i64 m.seq) ∧ W.cell? ⟨b, o + 4, none⟩ = some (.string m.body) ∧ W.cell? ⟨b, o + 5, none⟩ = some (.int .i64 m.trace)
theorem Ms2.at {W : World} {b : Nat} {x y : Mg} (h : Ms2 W b x y) {i : Nat} (hi : i < 2) : ∃ m, (m = x ∨ m = y) ∧ At6 W b (i * 6) m := by
  rcases (by omega : i = 0 ∨ i = 1) with rfl | rfl
  · exact ⟨x, .inl rfl, cell_blk h 0, cell_blk h 1, cell_blk h 2, cell_blk h 3, cell_blk h 4, cell_blk h 5⟩
  · exact ⟨y, .inr rfl, cell_blk h 6, cell_blk h 7, cell_blk h 8, cell_blk h 9, cell_blk h 10, cell_blk h 11⟩
theorem Ms3.at {W : World} {b : Nat} {x y z : Mg} (h : Ms3 W b x y z) {i : Nat} (hi : i < 3) : ∃ m, (m = x ∨ m = y ∨ m = z) ∧ At6 W b (i * 6) m := by
  rcases (by omega : i = 0 ∨ i = 1 ∨ i = 2) with rfl | rfl | rfl
  · exact ⟨x, .inl rfl, cell_blk h 0, cell_blk h 1, cell_blk h 2, cell_blk h 3, cell_blk h 4, cell_blk h 5⟩
  · exact ⟨y, .inr (.inl rfl), cell_blk h 6, cell_blk h 7, cell_blk h 8, cell_blk h 9, cell_blk h 10, cell_blk h 11⟩
  · exact ⟨z, .inr (.inr rfl), cell_blk h 12, cell_blk h 13, cell_blk h 14, cell_blk h 15, cell_blk h 16, cell_blk h 17⟩
/-- Three texts in a block. -/
def Tx3 (W : World) (b : Nat) (x y z : ByteArray) : Prop := W.heap[b]? = some (.cells #[.string x, .string y, .string z] 9 (0, 0))
theorem Tx3.below {w w' : World} {b : Nat} {x y z : ByteArray} (h : Tx3 w b x y z) (hb : Below w.heap.size w w') : Tx3 w' b x y z := Eq.trans (hb.block b (lt_of_blk h)) h
theorem Tx3.new (W : World) (x y z : ByteArray) : Tx3 (W.alloc (.cells #[.string x, .string y, .string z] 9)) W.heap.size x y z := World.alloc_heap_new W _
theorem Tx3.at {W : World} {b : Nat} {x y z : ByteArray} (h : Tx3 W b x y z) {i : Nat} (hi : i < 3) : ∃ m, (m = x ∨ m = y ∨ m = z) ∧ W.cell? ⟨b, i, none⟩ = some (.string m) := by
  rcases (by omega : i = 0 ∨ i = 1 ∨ i = 2) with rfl | rfl | rfl
  · exact ⟨x, .inl rfl, cell_blk h 0⟩
  · exact ⟨y, .inr (.inl rfl), cell_blk h 1⟩
  · exact ⟨z, .inr (.inr rfl), cell_blk h 2⟩
/-- What Encode answers of one that may not be. -/
def noE (v : Int) (m : Mg) : Nat := if v = 1 ∧ rightM 2 m = true then 22 else 1
theorem wE_no {v : Int} {m : Mg} (h : rightM v m = false) : wE v m = ([], noE v m) := by
  unfold wE noE
  rw [if_neg (by simp [h])]
  split <;> rfl
end Go.Proofs.Ytjdpihppniibjaa
