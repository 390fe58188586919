import Derived.Test.YtbncaolflhmgpaaDk
import Derived.Test.YtbncaolflhmgpaaStr
import Derived.RegionTactic
/-
  The contracts of the methods of a drive (the program's own, stage 7).
-/
namespace Go.Proofs.Ytbncaolflhmgpaa
open Go.RowKit
set_option linter.unusedVariables false

/-- A drive's block. -/
def DvBlk (W : World) (g : Nat) (a b c : ByteArray) : Prop := W.heap[g]? = some (.cells #[.string a, .string b, .string c] 46 (0, 0))
theorem DvBlk.below {w w' : World} {g : Nat} {a b c : ByteArray} (h : DvBlk w g a b c) (hb : Below w.heap.size w w') : DvBlk w' g a b c := Eq.trans (hb.block g (lt_of_blk h)) h
theorem DvBlk.cells {W : World} {g : Nat} {a b c : ByteArray} (h : DvBlk W g a b c) : W.cell? ⟨g, 0, none⟩ = some (.string a) ∧ W.cell? ⟨g, 1, none⟩ = some (.string b) ∧ W.cell? ⟨g, 2, none⟩ = some (.string c) := ⟨cell_blk h 0, cell_blk h 1, cell_blk h 2⟩
theorem DvBlk.frozen {W : World} {g : Nat} {a b c : ByteArray} (h : DvBlk W g a b c) (j : Nat) : W.frozen? ⟨g, j, none⟩ = false := frozen_blk h j
theorem DvBlk.put {W : World} {g : Nat} {a b c : ByteArray} (h : DvBlk W g a b c) (x y z : ByteArray) : DvBlk (((W.setCell ⟨g, 0, none⟩ (.string x)).setCell ⟨g, 1, none⟩ (.string y)).setCell ⟨g, 2, none⟩ (.string z)) g x y z :=
  heap_setCell_same _ g 2 _ _ _ (heap_setCell_same _ g 1 _ _ _ (heap_setCell_same _ g 0 _ _ _ h))
theorem DvBlk.put1 {W : World} {g : Nat} {a b c : ByteArray} (h : DvBlk W g a b c) (y : ByteArray) : DvBlk (W.setCell ⟨g, 1, none⟩ (.string y)) g a y c := heap_setCell_same _ g 1 _ _ _ h
theorem DvBlk.put2 {W : World} {g : Nat} {a b c : ByteArray} (h : DvBlk W g a b c) (z : ByteArray) : DvBlk (W.setCell ⟨g, 2, none⟩ (.string z)) g a b z := heap_setCell_same _ g 2 _ _ _ h
theorem DvBlk.drew {W : World} {g : Nat} {a b c : ByteArray} (h : DvBlk W g a b c) : DvBlk W.drew g a b c := h
theorem DvBlk.new (W : World) (a b c : ByteArray) : DvBlk (W.alloc (.cells #[.string a, .string b, .string c] 46)) W.heap.size a b c := World.alloc_heap_new W _

/-- What a method leaves of its drive. -/
def DvPost (g : Nat) (a b c : ByteArray) (n : Int) (w : World) (e : Ending) (w' : World) : Prop := e = .returned (.int .i64 n) ∧ DvBlk w' g a b c ∧ Below g w w'

set_option maxRecDepth 100000 in
set_option maxHeartbeats 1000000 in
theorem renew_ok (g : Nat) (a b c s : ByteArray) (hl : s.size ≤ 100000) (w : World) (h : DvBlk w g a b c) :
    Calls Try.prog 25 #[.pointer (some ⟨g, 0, none⟩), .string s] w (DvPost g s ⟨#[]⟩ ⟨#[]⟩ 0 w) := by
  obtain ⟨c0, c1, c2⟩ := h.cells
  have f0 := h.frozen 0
  have f1 := h.frozen 1
  have f2 := h.frozen 2
  have H := Lib.hid h; clear h
  go_enter Try.func25, Try.ntmps25
  go_wp2_with fail
  go_ret
  exact ⟨rfl, H.out.put s ⟨#[]⟩ ⟨#[]⟩, (((Below.refl g _).setCell (p := ⟨g, 0, none⟩) (Nat.le_refl _) _).setCell (p := ⟨g, 1, none⟩) (Nat.le_refl _) _).setCell (p := ⟨g, 2, none⟩) (Nat.le_refl _) _⟩
set_option maxRecDepth 100000 in
set_option maxHeartbeats 1000000 in
theorem renew_no (g : Nat) (a b c s : ByteArray) (hs : s.size ≤ 400000) (hl : ¬ s.size ≤ 100000) (w : World) (h : DvBlk w g a b c) :
    Calls Try.prog 25 #[.pointer (some ⟨g, 0, none⟩), .string s] w (DvPost g a b c 50 w) := by
  have h1 : (100000 : Int) < (s.size : Int) := by omega
  clear hl
  have H := Lib.hid h; clear h
  go_enter Try.func25, Try.ntmps25
  go_wp2_with fail
  go_ret
  exact ⟨rfl, H.out, Below.refl g _⟩

set_option maxRecDepth 100000 in
set_option maxHeartbeats 1000000 in
theorem extend_ok (g : Nat) (a b c s x : ByteArray) (hcs : c ++ s = x) (hl : b.size + c.size + s.size ≤ 100000) (w : World) (h : DvBlk w g a b c) :
    Calls Try.prog 24 #[.pointer (some ⟨g, 0, none⟩), .string s] w (DvPost g a b x 0 w) := by
  obtain ⟨c0, c1, c2⟩ := h.cells
  have f2 := h.frozen 2
  have hadd : ∀ W : World, (Op.stringOp .add c s).run Try.prog W = .ok (.string x) W := fun W => by rw [← hcs]; exact str_add (by omega) W
  have h1 : (b.size : Int) + (c.size : Int) + (s.size : Int) ≤ 100000 := by omega
  have n1 : ((b.size : Int) + (c.size : Int)) ≤ 100000 := by omega
  have H := Lib.hid h; clear h hcs
  go_enter Try.func24, Try.ntmps24
  go_wp2_with fail
  go_region
  go_wp2_with fail
  go_ret
  exact ⟨rfl, H.out.drew.put2 x, (Below.refl g w).drew.setCell (p := ⟨g, 2, none⟩) (Nat.le_refl _) _⟩

set_option maxRecDepth 100000 in
set_option maxHeartbeats 1000000 in
theorem extend_no (g : Nat) (a b c s : ByteArray) (hb : b.size ≤ 400000) (hc : c.size ≤ 400000) (hs : s.size ≤ 400000) (hl : ¬ b.size + c.size + s.size ≤ 100000) (w : World) (h : DvBlk w g a b c) :
    Calls Try.prog 24 #[.pointer (some ⟨g, 0, none⟩), .string s] w (DvPost g a b c 50 w) := by
  obtain ⟨c0, c1, c2⟩ := h.cells
  have h1 : (100000 : Int) < (b.size : Int) + (c.size : Int) + (s.size : Int) := by omega
  have n1 : ((b.size : Int) + (c.size : Int)) ≤ 800000 := by omega
  have H := Lib.hid h; clear h hl
  go_enter Try.func24, Try.ntmps24
  go_wp2_with fail
  go_region
  go_wp2_with fail
  go_ret
  exact ⟨rfl, H.out.drew, (Below.refl g w).drew⟩
end Go.Proofs.Ytbncaolflhmgpaa
