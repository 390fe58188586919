/-
  What the walk of the law RecordTells stands on.
-/
import Derived.Test.YtkhpkjnnkmoeoaaRecordUnlikeW
import Derived.Deep.RegionHeld3
namespace Go.Proofs.Ytkhpkjnnkmoeoaa
open Go.RowKit
set_option linter.unusedVariables false
set_option linter.unusedSimpArgs false

/-- A record that was made and put down. -/
def MadeAt (v : Int) (w wx : World) (s : Value) : Prop :=
  ∃ b r A n cap, s = .pointer (some ⟨b, 0, none⟩) ∧ RcBlk wx b r (.slice A n cap) ∧ n ≤ cap ∧ IsFs wx A n r.extra ∧ RecNice v r ∧ Below w.heap.size w wx ∧ w.heap.size ≤ b
/-- A row of numbers. -/
def RowI (w : World) (b k : Nat) : Prop := ∀ q, q < k → ∃ z : Int, w.cell? ⟨b, q, none⟩ = some (.int .i64 z) ∧ (Lit.int .i64 z).wf = true
theorem RowI.below {w w' : World} {x k : Nat} (h : RowI w x k) (hb : Below w.heap.size w w') : RowI w' x k := by
  intro j hj
  obtain ⟨T, hc, hw⟩ := h j hj
  exact ⟨T, (hb.cell (p := ⟨x, j, none⟩) (lt_of_cell (a := ⟨x, j, none⟩) hc)).trans hc, hw⟩
theorem nice_tag {v : Int} {r : Rcd} (h : RecNice v r) (hn : 0 < r.extra.length) : 1 ≤ tg r.extra 0 := by
  obtain ⟨⟨hv, h1, h2, h3, h4, h5⟩, h6, h7⟩ := h
  obtain ⟨e1, e2, e3⟩ := extraB_iff.1 h5
  have hc := chain_up e1 e3
  have ht : 0 ≤ topT v := by unfold topT; split <;> omega
  generalize r.extra = E at *
  cases E with
  | nil => simp at hn
  | cons f E =>
    simp only [chain] at hc
    rw [tg_at (by simp)]
    simp only [List.getElem_cons_zero]
    omega
theorem nice_ne {v : Int} {r : Rcd} {W : World} {A : Option Addr} {n b : Nat} (hN : RecNice v r) (h : IsFs W A n r.extra) (hz : RcBlk W b zeroR (.slice none 0 0)) : ∀ b' off, A = some ⟨b', off, none⟩ → 0 < n → b' ≠ b := by
  rintro b' off rfl hn rfl
  obtain ⟨h1, _, _, h4⟩ := h
  obtain ⟨b2, o2, hA, hlt, hc⟩ := h4 hn
  cases hA
  obtain ⟨c1, c2⟩ := hc 0 (by omega)
  have ht := nice_tag hN (by omega)
  rw [Nat.zero_mul, Nat.add_zero] at c1 c2
  rw [cell_blk hz] at c1 c2
  match off, c1, c2 with
  | 0, c1, c2 => simp at c1
  | 1, c1, c2 => simp at c1
  | 2, c1, c2 => simp at c2
  | 3, c1, c2 => simp [zeroR] at c1; omega
  | 4, c1, c2 => simp at c1
  | 5, c1, c2 => simp at c1
  | k + 6, c1, c2 => simp at c1
theorem nice_fs6 {v : Int} {r : Rcd} {W : World} {A : Option Addr} {n b : Nat} (hN : RecNice v r) (h : IsFs W A n r.extra) (hz : RcBlk W b zeroR (.slice none 0 0)) (x : Value) : IsFs (set6 W b r x) A n r.extra :=
  have hn := nice_ne hN h hz
  isFs_set (isFs_set (isFs_set (isFs_set (isFs_set (isFs_set h hn 0 _) hn 1 _) hn 2 _) hn 3 _) hn 4 _) hn 5 _
/-- A record in a row of records. -/
def RecAt (w : World) (b o : Nat) (r : Rcd) (x : Value) : Prop := w.cell? ⟨b, o, none⟩ = some (.string r.key) ∧ w.cell? ⟨b, o + 1, none⟩ = some (.string r.value) ∧ w.cell? ⟨b, o + 2, none⟩ = some (.int .i64 r.rev) ∧ w.cell? ⟨b, o + 3, none⟩ = some (.int .i64 r.life) ∧ w.cell? ⟨b, o + 4, none⟩ = some (.string r.note) ∧ w.cell? ⟨b, o + 5, none⟩ = some (x)
theorem RecAt.below {w w' : World} {b o : Nat} {r : Rcd} {x : Value} (h : RecAt w b o r x) (hb : Below w.heap.size w w') : RecAt w' b o r x := by
  obtain ⟨h0, h1, h2, h3, h4, h5⟩ := h
  have hlt := lt_of_cell (a := ⟨b, o, none⟩) h0
  exact ⟨(hb.cell (p := ⟨b, o, none⟩) hlt).trans h0, (hb.cell (p := ⟨b, o + 1, none⟩) hlt).trans h1, (hb.cell (p := ⟨b, o + 2, none⟩) hlt).trans h2, (hb.cell (p := ⟨b, o + 3, none⟩) hlt).trans h3, (hb.cell (p := ⟨b, o + 4, none⟩) hlt).trans h4, (hb.cell (p := ⟨b, o + 5, none⟩) hlt).trans h5⟩
/-- Two records, side by side. -/
def RowRec (w0 w : World) (b : Nat) : Prop := ∀ q, q < 2 → ∃ r A n cap, RecAt w b (q * 6) r (.slice A n cap) ∧ RcWf r ∧ IsFs w0 A n r.extra
theorem RowRec.below {w0 w w' : World} {b : Nat} (h : RowRec w0 w b) (hb : Below w.heap.size w w') : RowRec w0 w' b := fun q hq => by
  obtain ⟨r, A, n, cap, h1, h2, h3⟩ := h q hq
  exact ⟨r, A, n, cap, h1.below hb, h2, h3⟩
theorem rowRec_mk (W : World) (r t : Rcd) (A A2 : Option Addr) (n n2 c c2 : Nat) (hr : RcWf r) (ht : RcWf t) (h : IsFs W A n r.extra) (h2 : IsFs W A2 n2 t.extra) :
    RowRec W (W.alloc (.cells #[.string r.key, .string r.value, .int .i64 r.rev, .int .i64 r.life, .string r.note, .slice A n c, .string t.key, .string t.value, .int .i64 t.rev, .int .i64 t.life, .string t.note, .slice A2 n2 c2] 24)) W.heap.size := by
  intro q hq
  have hx := World.alloc_heap_new W (.cells #[.string r.key, .string r.value, .int .i64 r.rev, .int .i64 r.life, .string r.note, .slice A n c, .string t.key, .string t.value, .int .i64 t.rev, .int .i64 t.life, .string t.note, .slice A2 n2 c2] 24)
  rcases (by omega : q = 0 ∨ q = 1) with rfl | rfl
  · exact ⟨r, A, n, c, ⟨cell_blk hx 0, cell_blk hx 1, cell_blk hx 2, cell_blk hx 3, cell_blk hx 4, cell_blk hx 5⟩, hr, h⟩
  · exact ⟨t, A2, n2, c2, ⟨cell_blk hx 6, cell_blk hx 7, cell_blk hx 8, cell_blk hx 9, cell_blk hx 10, cell_blk hx 11⟩, ht, h2⟩
theorem two_keep {b c : Nat} {r t : Rcd} {x y : Value} {w0 W W' : World}
    (h : W.cell? ⟨b, 0, none⟩ = some (.string r.key) ∧ W.cell? ⟨b, 1, none⟩ = some (.string r.value) ∧ W.cell? ⟨b, 2, none⟩ = some (.int .i64 r.rev) ∧ W.cell? ⟨b, 3, none⟩ = some (.int .i64 r.life) ∧ W.cell? ⟨b, 4, none⟩ = some (.string r.note) ∧ W.cell? ⟨b, 5, none⟩ = some (x) ∧ W.cell? ⟨c, 0, none⟩ = some (.string t.key) ∧ W.cell? ⟨c, 1, none⟩ = some (.string t.value) ∧ W.cell? ⟨c, 2, none⟩ = some (.int .i64 t.rev) ∧ W.cell? ⟨c, 3, none⟩ = some (.int .i64 t.life) ∧ W.cell? ⟨c, 4, none⟩ = some (.string t.note) ∧ W.cell? ⟨c, 5, none⟩ = some (y) ∧ Below w0.heap.size w0 W) (hb : Below W.heap.size W W') :
    W'.cell? ⟨b, 0, none⟩ = some (.string r.key) ∧ W'.cell? ⟨b, 1, none⟩ = some (.string r.value) ∧ W'.cell? ⟨b, 2, none⟩ = some (.int .i64 r.rev) ∧ W'.cell? ⟨b, 3, none⟩ = some (.int .i64 r.life) ∧ W'.cell? ⟨b, 4, none⟩ = some (.string r.note) ∧ W'.cell? ⟨b, 5, none⟩ = some (x) ∧ W'.cell? ⟨c, 0, none⟩ = some (.string t.key) ∧ W'.cell? ⟨c, 1, none⟩ = some (.string t.value) ∧ W'.cell? ⟨c, 2, none⟩ = some (.int .i64 t.rev) ∧ W'.cell? ⟨c, 3, none⟩ = some (.int .i64 t.life) ∧ W'.cell? ⟨c, 4, none⟩ = some (.string t.note) ∧ W'.cell? ⟨c, 5, none⟩ = some (y) ∧ Below w0.heap.size w0 W' := by
  obtain ⟨h0, h1, h2, h3, h4, h5, g0, g1, g2, g3, g4, g5, hw⟩ := h
  have e := lt_of_cell (a := ⟨b, 0, none⟩) h0
  have d := lt_of_cell (a := ⟨c, 0, none⟩) g0
  exact ⟨(hb.cell (p := ⟨b, 0, none⟩) e).trans h0, (hb.cell (p := ⟨b, 1, none⟩) e).trans h1, (hb.cell (p := ⟨b, 2, none⟩) e).trans h2, (hb.cell (p := ⟨b, 3, none⟩) e).trans h3, (hb.cell (p := ⟨b, 4, none⟩) e).trans h4, (hb.cell (p := ⟨b, 5, none⟩) e).trans h5, (hb.cell (p := ⟨c, 0, none⟩) d).trans g0, (hb.cell (p := ⟨c, 1, none⟩) d).trans g1, (hb.cell (p := ⟨c, 2, none⟩) d).trans g2, (hb.cell (p := ⟨c, 3, none⟩) d).trans g3, (hb.cell (p := ⟨c, 4, none⟩) d).trans g4, (hb.cell (p := ⟨c, 5, none⟩) d).trans g5, bch hw hb⟩
end Go.Proofs.Ytkhpkjnnkmoeoaa
