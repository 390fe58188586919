import Derived.Test.YtbncaolflhmgpaaFs
import Derived.Deep.RegionHeld3
import Derived.IntWalk
import Derived.WalkMore
import Derived.Laws.StructEq
import Derived.BigRegion
import Derived.BigQuiet
/-
  Disks as values: what is asked of the program's functions (LogC, AppC, SyncC, CrashC, SwapC), and that the document's own do the same. (For texts of at most 400000 bytes each.)
-/
namespace Go.Proofs.Ytbncaolflhmgpaa
open Go.RowKit
set_option linter.unusedVariables false

/-- A disk as a value. -/
def dkV (a b c : ByteArray) : Value := .agg #[.string a, .string b, .string c]
/-- How many of so many bytes a crash keeps. -/
def tearN (k : Int) (n : Nat) : Nat := (max 0 (min k (n : Int))).toNat
theorem tearN_le (k : Int) (n : Nat) : tearN k n ≤ n := by unfold tearN; omega
theorem ext_size (c : ByteArray) {m : Nat} (h : m ≤ c.size) : (c.extract 0 m).size = m := by rw [ByteArray.size_extract]; omega

/-- What is asked of the program. -/
def LogC : Prop := ∀ (a b c : ByteArray), b.size ≤ 400000 → c.size ≤ 400000 → ∀ w : World,
  Calls Try.prog 19 #[.agg #[.string a, .string b, .string c]] w fun e w' => e = .returned (.string (b ++ c)) ∧ Below w.heap.size w w'
def SyncC : Prop := ∀ (a b c : ByteArray), b.size ≤ 400000 → c.size ≤ 400000 → ∀ w : World,
  Calls Try.prog 17 #[.agg #[.string a, .string b, .string c]] w fun e w' => e = .returned (.agg #[.string a, .string (b ++ c), .string ⟨#[]⟩]) ∧ Below w.heap.size w w'
def CrashC : Prop := ∀ (a b c : ByteArray) (k : Int), b.size ≤ 400000 → c.size ≤ 400000 → (Lit.int .i64 k).wf = true → ∀ w : World,
  Calls Try.prog 11 #[.agg #[.string a, .string b, .string c], .int .i64 k] w fun e w' => e = .returned (.agg #[.string a, .string (b ++ c.extract 0 (tearN k c.size)), .string ⟨#[]⟩]) ∧ Below w.heap.size w w'
def AppC : Prop := ∀ (a b c s : ByteArray), b.size ≤ 400000 → c.size ≤ 400000 → s.size ≤ 400000 → ∀ w : World,
  Calls Try.prog 13 #[.agg #[.string a, .string b, .string c], .string s] w fun e w' => e = .returned (if b.size + c.size + s.size ≤ 100000 then .tuple #[.agg #[.string a, .string b, .string (c ++ s)], .int .i64 0] else .tuple #[.agg #[.string a, .string b, .string c], .int .i64 50]) ∧ Below w.heap.size w w'
def SwapC : Prop := ∀ (a b c s : ByteArray), s.size ≤ 400000 → ∀ w : World,
  Calls Try.prog 15 #[.agg #[.string a, .string b, .string c], .string s] w fun e w' => e = .returned (if s.size ≤ 100000 then .tuple #[.agg #[.string s, .string ⟨#[]⟩, .string ⟨#[]⟩], .int .i64 0] else .tuple #[.agg #[.string a, .string b, .string c], .int .i64 50]) ∧ Below w.heap.size w w'
theorem AppC.ok (h : AppC) {a b c s x : ByteArray} (hx : c ++ s = x) (hl : b.size + c.size + s.size ≤ 100000) (w : World) :
    Calls Try.prog 13 #[.agg #[.string a, .string b, .string c], .string s] w fun e w' => e = .returned (.tuple #[.agg #[.string a, .string b, .string x], .int .i64 0]) ∧ Below w.heap.size w w' := by
  have := h a b c s (by omega) (by omega) (by omega) w
  rw [if_pos hl] at this
  subst hx
  exact this
theorem AppC.no (h : AppC) {a b c s : ByteArray} (hb : b.size ≤ 400000) (hc : c.size ≤ 400000) (hs : s.size ≤ 400000) (hl : ¬ b.size + c.size + s.size ≤ 100000) (w : World) :
    Calls Try.prog 13 #[.agg #[.string a, .string b, .string c], .string s] w fun e w' => e = .returned (.tuple #[.agg #[.string a, .string b, .string c], .int .i64 50]) ∧ Below w.heap.size w w' := by
  have := h a b c s hb hc hs w
  rw [if_neg hl] at this
  exact this
theorem SwapC.ok (h : SwapC) {a b c s : ByteArray} (hl : s.size ≤ 100000) (w : World) :
    Calls Try.prog 15 #[.agg #[.string a, .string b, .string c], .string s] w fun e w' => e = .returned (.tuple #[.agg #[.string s, .string ⟨#[]⟩, .string ⟨#[]⟩], .int .i64 0]) ∧ Below w.heap.size w w' := by
  have := h a b c s (by omega) w
  rw [if_pos hl] at this
  exact this
theorem SwapC.no (h : SwapC) {a b c s : ByteArray} (hs : s.size ≤ 400000) (hl : ¬ s.size ≤ 100000) (w : World) :
    Calls Try.prog 15 #[.agg #[.string a, .string b, .string c], .string s] w fun e w' => e = .returned (.tuple #[.agg #[.string a, .string b, .string c], .int .i64 50]) ∧ Below w.heap.size w w' := by
  have := h a b c s hs w
  rw [if_neg hl] at this
  exact this
theorem LogC.at (h : LogC) {a b c x : ByteArray} (hx : b ++ c = x) (hb : b.size ≤ 400000) (hc : c.size ≤ 400000) (w : World) :
    Calls Try.prog 19 #[.agg #[.string a, .string b, .string c]] w fun e w' => e = .returned (.string x) ∧ Below w.heap.size w w' := by subst hx; exact h a b c hb hc w
theorem SyncC.at (h : SyncC) {a b c x : ByteArray} (hx : b ++ c = x) (hb : b.size ≤ 400000) (hc : c.size ≤ 400000) (w : World) :
    Calls Try.prog 17 #[.agg #[.string a, .string b, .string c]] w fun e w' => e = .returned (.agg #[.string a, .string x, .string ⟨#[]⟩]) ∧ Below w.heap.size w w' := by subst hx; exact h a b c hb hc w
theorem CrashC.at (h : CrashC) {a b c x : ByteArray} {k : Int} (hx : b ++ c.extract 0 (tearN k c.size) = x) (hb : b.size ≤ 400000) (hc : c.size ≤ 400000) (hk : (Lit.int .i64 k).wf = true) (w : World) :
    Calls Try.prog 11 #[.agg #[.string a, .string b, .string c], .int .i64 k] w fun e w' => e = .returned (.agg #[.string a, .string x, .string ⟨#[]⟩]) ∧ Below w.heap.size w w' := by subst hx; exact h a b c k hb hc hk w

/-- A disk's block. -/
def DkBlk (W : World) (g : Nat) (a b c : ByteArray) : Prop := W.heap[g]? = some (.cells #[.string a, .string b, .string c] 23 (0, 0))
theorem DkBlk.below {w w' : World} {g : Nat} {a b c : ByteArray} (h : DkBlk w g a b c) (hb : Below w.heap.size w w') : DkBlk w' g a b c := Eq.trans (hb.block g (lt_of_blk h)) h
theorem DkBlk.cells {W : World} {g : Nat} {a b c : ByteArray} (h : DkBlk W g a b c) : W.cell? ⟨g, 0, none⟩ = some (.string a) ∧ W.cell? ⟨g, 1, none⟩ = some (.string b) ∧ W.cell? ⟨g, 2, none⟩ = some (.string c) := ⟨cell_blk h 0, cell_blk h 1, cell_blk h 2⟩
theorem DkBlk.frozen {W : World} {g : Nat} {a b c : ByteArray} (h : DkBlk W g a b c) (j : Nat) : W.frozen? ⟨g, j, none⟩ = false := frozen_blk h j
theorem DkBlk.new (W : World) (a b c : ByteArray) : DkBlk (W.alloc (.cells #[.string a, .string b, .string c] 23)) W.heap.size a b c := World.alloc_heap_new W _
theorem DkBlk.put {W : World} {g : Nat} {a b c : ByteArray} (h : DkBlk W g a b c) (x y z : ByteArray) : DkBlk (((W.setCell ⟨g, 0, none⟩ (.string x)).setCell ⟨g, 1, none⟩ (.string y)).setCell ⟨g, 2, none⟩ (.string z)) g x y z :=
  heap_setCell_same _ g 2 _ _ _ (heap_setCell_same _ g 1 _ _ _ (heap_setCell_same _ g 0 _ _ _ h))
theorem DkBlk.drew {W : World} {g : Nat} {a b c : ByteArray} (h : DkBlk W g a b c) : DkBlk W.drew g a b c := h
theorem eqDk (a b c x y z : ByteArray) (w : World) : (Op.equalIn 10000 23 (.agg #[.string a, .string b, .string c]) (.agg #[.string x, .string y, .string z])).run Try.prog w = .ok (a.toList == x.toList && b.toList == y.toList && c.toList == z.toList) w := by
  have u9 := Try.underlying9
  have a9 := Try.isAgg9
  have z9 := Try.sizeOf9
  have hS : Try.prog.underlying 23 = some (.struct (Try.prog.fieldsOf 23)) := by kernel_rfl
  have hp : Try.prog.stoodInHeld 23 = false := by kernel_rfl
  rw [show (10000 : Nat) = 9999 + 1 from rfl, run_equalIn_agg w 9999 23 _ _ hS hp]
  simp only [Program.fieldsOf, Try.underlying23]
  go_simp
  by_cases h1 : a.toList = x.toList <;> by_cases h2 : b.toList = y.toList <;> by_cases h3 : c.toList = z.toList <;> simp [h1, h2, h3]
theorem eqDk_same (a b c : ByteArray) (w : World) : (Op.equalIn 10000 23 (.agg #[.string a, .string b, .string c]) (.agg #[.string a, .string b, .string c])).run Try.prog w = .ok true w := by rw [eqDk]; simp
theorem guardDk : Try.prog.eqGuardType Try.prog.depth 23 = false := by kernel_rfl
end Go.Proofs.Ytbncaolflhmgpaa
