import Derived.Test.YtfnkgldfgciplaaDoorNegoAwake
/-
  Blocks of six raw numbers (stage 9); what Agree answers of two that may be, as the walk wants it.
-/
namespace Go.Proofs.YtfnkgldfgciplaaDoor
open Go.RowKit
set_option linter.unusedVariables false

/-- Six raw numbers in a block. -/
def A6Blk (W : World) (b : Nat) (a0 a1 a2 a3 a4 a5 : Int) : Prop := W.heap[b]? = some (.cells #[.int .i64 a0, .int .i64 a1, .int .i64 a2, .int .i64 a3, .int .i64 a4, .int .i64 a5] 24 (0, 0))
theorem A6Blk.below {w w' : World} {b : Nat} {a0 a1 a2 a3 a4 a5 : Int} (h : A6Blk w b a0 a1 a2 a3 a4 a5) (hb : Below w.heap.size w w') : A6Blk w' b a0 a1 a2 a3 a4 a5 := Eq.trans (hb.block b (lt_of_blk h)) h
theorem A6Blk.cells {w : World} {b : Nat} {a0 a1 a2 a3 a4 a5 : Int} (h : A6Blk w b a0 a1 a2 a3 a4 a5) : w.cell? ⟨b, 0, none⟩ = some (.int .i64 a0) ∧ w.cell? ⟨b, 1, none⟩ = some (.int .i64 a1) ∧ w.cell? ⟨b, 2, none⟩ = some (.int .i64 a2) ∧ w.cell? ⟨b, 3, none⟩ = some (.int .i64 a3) ∧ w.cell? ⟨b, 4, none⟩ = some (.int .i64 a4) ∧ w.cell? ⟨b, 5, none⟩ = some (.int .i64 a5) :=
  ⟨cell_blk h 0, cell_blk h 1, cell_blk h 2, cell_blk h 3, cell_blk h 4, cell_blk h 5⟩
theorem A6Blk.new (W : World) (a0 a1 a2 a3 a4 a5 : Int) : A6Blk (W.alloc (.cells #[.int .i64 a0, .int .i64 a1, .int .i64 a2, .int .i64 a3, .int .i64 a4, .int .i64 a5] 24)) W.heap.size a0 a1 a2 a3 a4 a5 := World.alloc_heap_new W _
/-- A deal's numbers. -/
theorem AgreeN.as (k : AgreeN) (a b : Hl) (ha : RightH a) (hb : RightH b) (w : World) :
    Calls Tryd.prog 10 #[.agg #[.int .i64 a.low, .int .i64 a.high, .int .i64 a.feat], .agg #[.int .i64 b.low, .int .i64 b.high, .int .i64 b.feat]] w fun e w' => e = .returned (.tuple #[.agg #[.int .i64 (agH a b).1, .int .i64 (agH a b).2.1], .int .i64 (agH a b).2.2]) ∧ Below w.heap.size w w' :=
  k a b ha.wf hb.wf w
end Go.Proofs.YtfnkgldfgciplaaDoor
