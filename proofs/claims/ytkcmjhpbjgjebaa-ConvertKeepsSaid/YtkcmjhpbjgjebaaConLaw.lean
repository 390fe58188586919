import Derived.Test.YtkcmjhpbjgjebaaGRef
import Derived.Test.YtkcmjhpbjgjebaaRecLaw
import Derived.Test.YtkcmjhpbjgjebaaGPick
import Derived.Deep.RegionHeld3
import Derived.Deep.DeepCutAuto
/-
  What the walks of stage 4's laws share: records in a row.
-/
namespace Go.Proofs.Ytkcmjhpbjgjebaa
open Go.RowKit
set_option linter.unusedVariables false

theorem rcwf_right {v : Int} {r : Rcd} (h : RightP v r) : RcWf r := by
  have h2 := life_bd h
  have h3 := h.2.1
  have h4 := h.2.2.1
  exact ⟨by omega, by omega, by omega⟩
/-- A record in a row of records. -/
def RcAt (w : World) (b o : Nat) (r : Rcd) (x : Value) : Prop := w.cell? ⟨b, o, none⟩ = some (.string r.key) ∧ w.cell? ⟨b, o + 1, none⟩ = some (.string r.value) ∧ w.cell? ⟨b, o + 2, none⟩ = some (.int .i64 r.rev) ∧ w.cell? ⟨b, o + 3, none⟩ = some (.int .i64 r.life) ∧ w.cell? ⟨b, o + 4, none⟩ = some (.string r.note) ∧ w.cell? ⟨b, o + 5, none⟩ = some (x)
theorem RcAt.below {w w' : World} {b o : Nat} {r : Rcd} {x : Value} (h : RcAt w b o r x) (hb : Below w.heap.size w w') : RcAt w' b o r x := by
  obtain ⟨h0, h1, h2, h3, h4, h5⟩ := h
  have hlt := lt_of_cell (a := ⟨b, o, none⟩) h0
  exact ⟨(hb.cell (p := ⟨b, o, none⟩) hlt).trans h0, (hb.cell (p := ⟨b, o + 1, none⟩) hlt).trans h1, (hb.cell (p := ⟨b, o + 2, none⟩) hlt).trans h2, (hb.cell (p := ⟨b, o + 3, none⟩) hlt).trans h3, (hb.cell (p := ⟨b, o + 4, none⟩) hlt).trans h4, (hb.cell (p := ⟨b, o + 5, none⟩) hlt).trans h5⟩
/-- k records, side by side. -/
def RowC (w0 w : World) (b k : Nat) : Prop := ∀ q, q < k → ∃ r A n cap, RcAt w b (q * 6) r (.slice A n cap) ∧ RcWf r ∧ n ≤ cap ∧ IsFs w0 A n r.extra
theorem RowC.below {w0 w w' : World} {b k : Nat} (h : RowC w0 w b k) (hb : Below w.heap.size w w') : RowC w0 w' b k := fun q hq => by
  obtain ⟨r, A, n, cap, h1, h2, h3, h4⟩ := h q hq
  exact ⟨r, A, n, cap, h1.below hb, h2, h3, h4⟩
theorem RowC.alloc {w0 w : World} {b k : Nat} (h : RowC w0 w b k) (o : Obj) : RowC w0 (w.alloc o) b k := h.below ((Below.refl _ _).alloc (Nat.le_refl _) o)
theorem rowC2_mk (W : World) (r0 : Rcd) (A0 : Option Addr) (n0 c0 : Nat) (r1 : Rcd) (A1 : Option Addr) (n1 c1 : Nat) (h0 : RcWf r0) (l0 : n0 ≤ c0) (f0 : IsFs W A0 n0 r0.extra) (h1 : RcWf r1) (l1 : n1 ≤ c1) (f1 : IsFs W A1 n1 r1.extra) :
    RowC W (W.alloc (.cells #[.string r0.key, .string r0.value, .int .i64 r0.rev, .int .i64 r0.life, .string r0.note, .slice A0 n0 c0, .string r1.key, .string r1.value, .int .i64 r1.rev, .int .i64 r1.life, .string r1.note, .slice A1 n1 c1] 24)) W.heap.size 2 := by
  intro q hq
  have hx := World.alloc_heap_new W (.cells #[.string r0.key, .string r0.value, .int .i64 r0.rev, .int .i64 r0.life, .string r0.note, .slice A0 n0 c0, .string r1.key, .string r1.value, .int .i64 r1.rev, .int .i64 r1.life, .string r1.note, .slice A1 n1 c1] 24)
  rcases (by omega : q = 0 ∨ q = 1) with rfl | rfl
  · exact ⟨r0, A0, n0, c0, ⟨cell_blk hx 0, cell_blk hx 1, cell_blk hx 2, cell_blk hx 3, cell_blk hx 4, cell_blk hx 5⟩, h0, l0, f0⟩
  · exact ⟨r1, A1, n1, c1, ⟨cell_blk hx 6, cell_blk hx 7, cell_blk hx 8, cell_blk hx 9, cell_blk hx 10, cell_blk hx 11⟩, h1, l1, f1⟩
theorem rowC3_mk (W : World) (r0 : Rcd) (A0 : Option Addr) (n0 c0 : Nat) (r1 : Rcd) (A1 : Option Addr) (n1 c1 : Nat) (r2 : Rcd) (A2 : Option Addr) (n2 c2 : Nat) (h0 : RcWf r0) (l0 : n0 ≤ c0) (f0 : IsFs W A0 n0 r0.extra) (h1 : RcWf r1) (l1 : n1 ≤ c1) (f1 : IsFs W A1 n1 r1.extra) (h2 : RcWf r2) (l2 : n2 ≤ c2) (f2 : IsFs W A2 n2 r2.extra) :
    RowC W (W.alloc (.cells #[.string r0.key, .string r0.value, .int .i64 r0.rev, .int .i64 r0.life, .string r0.note, .slice A0 n0 c0, .string r1.key, .string r1.value, .int .i64 r1.rev, .int .i64 r1.life, .string r1.note, .slice A1 n1 c1, .string r2.key, .string r2.value, .int .i64 r2.rev, .int .i64 r2.life, .string r2.note, .slice A2 n2 c2] 24)) W.heap.size 3 := by
  intro q hq
  have hx := World.alloc_heap_new W (.cells #[.string r0.key, .string r0.value, .int .i64 r0.rev, .int .i64 r0.life, .string r0.note, .slice A0 n0 c0, .string r1.key, .string r1.value, .int .i64 r1.rev, .int .i64 r1.life, .string r1.note, .slice A1 n1 c1, .string r2.key, .string r2.value, .int .i64 r2.rev, .int .i64 r2.life, .string r2.note, .slice A2 n2 c2] 24)
  rcases (by omega : q = 0 ∨ q = 1 ∨ q = 2) with rfl | rfl | rfl
  · exact ⟨r0, A0, n0, c0, ⟨cell_blk hx 0, cell_blk hx 1, cell_blk hx 2, cell_blk hx 3, cell_blk hx 4, cell_blk hx 5⟩, h0, l0, f0⟩
  · exact ⟨r1, A1, n1, c1, ⟨cell_blk hx 6, cell_blk hx 7, cell_blk hx 8, cell_blk hx 9, cell_blk hx 10, cell_blk hx 11⟩, h1, l1, f1⟩
  · exact ⟨r2, A2, n2, c2, ⟨cell_blk hx 12, cell_blk hx 13, cell_blk hx 14, cell_blk hx 15, cell_blk hx 16, cell_blk hx 17⟩, h2, l2, f2⟩
/-- For the region that draws: the numbers' and the record's cells stay behind a call that turns nothing that was there. -/
theorem ac_keep {b c : Nat} {x0 x1 x2 x3 x4 : Int} {rc : Rcd} {sc : Value} {w0 W W' : World} (h : W.cell? ⟨b, 0, none⟩ = some (.int .i64 x0) ∧ W.cell? ⟨b, 1, none⟩ = some (.int .i64 x1) ∧ W.cell? ⟨b, 2, none⟩ = some (.int .i64 x2) ∧ W.cell? ⟨b, 3, none⟩ = some (.int .i64 x3) ∧ W.cell? ⟨b, 4, none⟩ = some (.int .i64 x4) ∧ W.cell? ⟨c, 0, none⟩ = some (.string rc.key) ∧ W.cell? ⟨c, 1, none⟩ = some (.string rc.value) ∧ W.cell? ⟨c, 2, none⟩ = some (.int .i64 rc.rev) ∧ W.cell? ⟨c, 3, none⟩ = some (.int .i64 rc.life) ∧ W.cell? ⟨c, 4, none⟩ = some (.string rc.note) ∧ W.cell? ⟨c, 5, none⟩ = some (sc) ∧ Below w0.heap.size w0 W) (hb : Below W.heap.size W W') :
    W'.cell? ⟨b, 0, none⟩ = some (.int .i64 x0) ∧ W'.cell? ⟨b, 1, none⟩ = some (.int .i64 x1) ∧ W'.cell? ⟨b, 2, none⟩ = some (.int .i64 x2) ∧ W'.cell? ⟨b, 3, none⟩ = some (.int .i64 x3) ∧ W'.cell? ⟨b, 4, none⟩ = some (.int .i64 x4) ∧ W'.cell? ⟨c, 0, none⟩ = some (.string rc.key) ∧ W'.cell? ⟨c, 1, none⟩ = some (.string rc.value) ∧ W'.cell? ⟨c, 2, none⟩ = some (.int .i64 rc.rev) ∧ W'.cell? ⟨c, 3, none⟩ = some (.int .i64 rc.life) ∧ W'.cell? ⟨c, 4, none⟩ = some (.string rc.note) ∧ W'.cell? ⟨c, 5, none⟩ = some (sc) ∧ Below w0.heap.size w0 W' := by
  obtain ⟨a0, a1, a2, a3, a4, r0, r1, r2, r3, r4, r5, hw⟩ := h
  have ea := lt_of_cell (a := ⟨b, 0, none⟩) a0
  have er := lt_of_cell (a := ⟨c, 0, none⟩) r0
  exact ⟨(hb.cell (p := ⟨b, 0, none⟩) ea).trans a0, (hb.cell (p := ⟨b, 1, none⟩) ea).trans a1, (hb.cell (p := ⟨b, 2, none⟩) ea).trans a2, (hb.cell (p := ⟨b, 3, none⟩) ea).trans a3, (hb.cell (p := ⟨b, 4, none⟩) ea).trans a4, (hb.cell (p := ⟨c, 0, none⟩) er).trans r0, (hb.cell (p := ⟨c, 1, none⟩) er).trans r1, (hb.cell (p := ⟨c, 2, none⟩) er).trans r2, (hb.cell (p := ⟨c, 3, none⟩) er).trans r3, (hb.cell (p := ⟨c, 4, none⟩) er).trans r4, (hb.cell (p := ⟨c, 5, none⟩) er).trans r5, bch hw hb⟩
end Go.Proofs.Ytkcmjhpbjgjebaa
