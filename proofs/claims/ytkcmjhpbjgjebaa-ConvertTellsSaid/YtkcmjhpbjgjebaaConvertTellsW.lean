import Derived.Test.YtkcmjhpbjgjebaaConLaw
/-
  The walk of the law ConvertTells.
-/
namespace Go.Proofs.Ytkcmjhpbjgjebaa
open Go.RowKit
set_option linter.unusedVariables false
set_option linter.unusedSimpArgs false

theorem RcBlk.set6 {w : World} {b : Nat} {r0 : Rcd} {x0 : Value} (h : RcBlk w b r0 x0) (R : Rcd) (s : Value) : RcBlk ((((((w.setCell ⟨b, 0, none⟩ (.string R.key)).setCell ⟨b, 1, none⟩ (.string R.value)).setCell ⟨b, 2, none⟩ (.int .i64 R.rev)).setCell ⟨b, 3, none⟩ (.int .i64 R.life)).setCell ⟨b, 4, none⟩ (.string R.note)).setCell ⟨b, 5, none⟩ (s)) b R s :=
  heap_setCell_same _ b 5 _ _ _ (heap_setCell_same _ b 4 _ _ _ (heap_setCell_same _ b 3 _ _ _ (heap_setCell_same _ b 2 _ _ _ (heap_setCell_same _ b 1 _ _ _ (heap_setCell_same w b 0 _ _ _ h)))))
theorem RcBlk.other6 {w : World} {b b2 : Nat} {r : Rcd} {x : Value} (h : RcBlk w b r x) (hne : b ≠ b2) (u0 u1 u2 u3 u4 u5 : Value) : RcBlk ((((((w.setCell ⟨b2, 0, none⟩ u0).setCell ⟨b2, 1, none⟩ u1).setCell ⟨b2, 2, none⟩ u2).setCell ⟨b2, 3, none⟩ u3).setCell ⟨b2, 4, none⟩ u4).setCell ⟨b2, 5, none⟩ u5) b r x :=
  (((((h.setOther hne).setOther hne).setOther hne).setOther hne).setOther hne).setOther hne
theorem cell_other6 {w : World} {b b2 j : Nat} {v : Value} (h : w.cell? ⟨b, j, none⟩ = some v) (hne : b ≠ b2) (u0 u1 u2 u3 u4 u5 : Value) : ((((((w.setCell ⟨b2, 0, none⟩ u0).setCell ⟨b2, 1, none⟩ u1).setCell ⟨b2, 2, none⟩ u2).setCell ⟨b2, 3, none⟩ u3).setCell ⟨b2, 4, none⟩ u4).setCell ⟨b2, 5, none⟩ u5).cell? ⟨b, j, none⟩ = some v :=
  cell_set_other (cell_set_other (cell_set_other (cell_set_other (cell_set_other (cell_set_other h hne) hne) hne) hne) hne) hne
theorem RowC.set6 {w0 w : World} {b k b2 : Nat} (h : RowC w0 w b k) (hne : b ≠ b2) (u0 u1 u2 u3 u4 u5 : Value) : RowC w0 ((((((w.setCell ⟨b2, 0, none⟩ u0).setCell ⟨b2, 1, none⟩ u1).setCell ⟨b2, 2, none⟩ u2).setCell ⟨b2, 3, none⟩ u3).setCell ⟨b2, 4, none⟩ u4).setCell ⟨b2, 5, none⟩ u5) b k := fun q hq => by
  obtain ⟨r, A, n, cap, ⟨c0, c1, c2, c3, c4, c5⟩, h2, h3, h4⟩ := h q hq
  exact ⟨r, A, n, cap, ⟨cell_other6 c0 hne _ _ _ _ _ _, cell_other6 c1 hne _ _ _ _ _ _, cell_other6 c2 hne _ _ _ _ _ _, cell_other6 c3 hne _ _ _ _ _ _, cell_other6 c4 hne _ _ _ _ _ _, cell_other6 c5 hne _ _ _ _ _ _⟩, h2, h3, h4⟩
theorem RowC.lt {w0 w : World} {b k : Nat} (h : RowC w0 w b k) (hk : 0 < k) : b < w.heap.size := by
  obtain ⟨r, A, n, cap, ⟨c0, _⟩, _⟩ := h 0 hk
  exact lt_of_cell (a := ⟨b, 0 * 6, none⟩) c0
/-- Two numbers in a block of their own. -/
def PairAt (w : World) (b : Nat) (x y : Int) : Prop := w.cell? ⟨b, 0, none⟩ = some (.int .i64 x) ∧ w.cell? ⟨b, 1, none⟩ = some (.int .i64 y)
theorem PairAt.below {w w' : World} {b : Nat} {x y : Int} (h : PairAt w b x y) (hb : Below w.heap.size w w') : PairAt w' b x y :=
  ⟨(hb.cell (p := ⟨b, 0, none⟩) (lt_of_cell (a := ⟨b, 0, none⟩) h.1)).trans h.1, (hb.cell (p := ⟨b, 1, none⟩) (lt_of_cell (a := ⟨b, 1, none⟩) h.2)).trans h.2⟩
theorem PairAt.alloc {w : World} {b : Nat} {x y : Int} (h : PairAt w b x y) (o : Obj) : PairAt (w.alloc o) b x y := h.below ((Below.refl _ _).alloc (Nat.le_refl _) o)
theorem PairAt.set6 {w : World} {b b2 : Nat} {x y : Int} (h : PairAt w b x y) (hne : b ≠ b2) (u0 u1 u2 u3 u4 u5 : Value) : PairAt ((((((w.setCell ⟨b2, 0, none⟩ u0).setCell ⟨b2, 1, none⟩ u1).setCell ⟨b2, 2, none⟩ u2).setCell ⟨b2, 3, none⟩ u3).setCell ⟨b2, 4, none⟩ u4).setCell ⟨b2, 5, none⟩ u5) b x y :=
  ⟨cell_other6 h.1 hne _ _ _ _ _ _, cell_other6 h.2 hne _ _ _ _ _ _⟩
theorem pairAt_mk (w : World) (x y : Int) : PairAt (w.alloc (.cells #[.int .i64 x, .int .i64 y] 35)) w.heap.size x y := by
  have hx := World.alloc_heap_new w (.cells #[.int .i64 x, .int .i64 y] 35)
  exact ⟨cell_blk hx 0, cell_blk hx 1⟩
/-- Pairs, side by side. -/
def PairC (w : World) (b k : Nat) : Prop := ∀ q, q < k → ∃ x y : Int, w.cell? ⟨b, q * 2, none⟩ = some (.int .i64 x) ∧ w.cell? ⟨b, q * 2 + 1, none⟩ = some (.int .i64 y)
theorem PairC.below {w w' : World} {b k : Nat} (h : PairC w b k) (hb : Below w.heap.size w w') : PairC w' b k := fun q hq => by
  obtain ⟨x, y, c0, c1⟩ := h q hq
  exact ⟨x, y, (hb.cell (p := ⟨b, q * 2, none⟩) (lt_of_cell (a := ⟨b, q * 2, none⟩) c0)).trans c0, (hb.cell (p := ⟨b, q * 2 + 1, none⟩) (lt_of_cell (a := ⟨b, q * 2 + 1, none⟩) c1)).trans c1⟩
theorem PairC.alloc {w : World} {b k : Nat} (h : PairC w b k) (o : Obj) : PairC (w.alloc o) b k := h.below ((Below.refl _ _).alloc (Nat.le_refl _) o)
theorem PairC.set6 {w : World} {b k b2 : Nat} (h : PairC w b k) (hne : b ≠ b2) (u0 u1 u2 u3 u4 u5 : Value) : PairC ((((((w.setCell ⟨b2, 0, none⟩ u0).setCell ⟨b2, 1, none⟩ u1).setCell ⟨b2, 2, none⟩ u2).setCell ⟨b2, 3, none⟩ u3).setCell ⟨b2, 4, none⟩ u4).setCell ⟨b2, 5, none⟩ u5) b k := fun q hq => by
  obtain ⟨x, y, c0, c1⟩ := h q hq
  exact ⟨x, y, cell_other6 c0 hne _ _ _ _ _ _, cell_other6 c1 hne _ _ _ _ _ _⟩
theorem PairC.lt {w : World} {b k : Nat} (h : PairC w b k) (hk : 0 < k) : b < w.heap.size := by
  obtain ⟨x, y, c0, _⟩ := h 0 hk
  exact lt_of_cell (a := ⟨b, 0 * 2, none⟩) c0
theorem pairC_mk (w : World) (x0 y0 x1 y1 x2 y2 : Int) : PairC (w.alloc (.cells #[.int .i64 x0, .int .i64 y0, .int .i64 x1, .int .i64 y1, .int .i64 x2, .int .i64 y2] 35)) w.heap.size 3 := by
  intro q hq
  have hx := World.alloc_heap_new w (.cells #[.int .i64 x0, .int .i64 y0, .int .i64 x1, .int .i64 y1, .int .i64 x2, .int .i64 y2] 35)
  rcases (by omega : q = 0 ∨ q = 1 ∨ q = 2) with rfl | rfl | rfl
  · exact ⟨x0, y0, cell_blk hx 0, cell_blk hx 1⟩
  · exact ⟨x1, y1, cell_blk hx 2, cell_blk hx 3⟩
  · exact ⟨x2, y2, cell_blk hx 4, cell_blk hx 5⟩

set_option maxRecDepth 100000 in
set_option maxHeartbeats 16000000 in
theorem convertTells_walk (rc : Rcd) (Aa : Option Addr) (na capa : Nat) (x0 x1 x2 x3 x4 : Int) (A : Option Addr) (n cap : Nat) (f : Nat → Nat → Int) (B : Option Addr) (m cap2 : Nat) (g : Nat → ByteArray) (from_ to_ : Int) (w : World) (hfa : IsFs w Aa na rc.extra) (hla : na ≤ capa) (hwa : RcWf rc) (h0 : (Lit.int .i64 x0).wf = true) (h1 : (Lit.int .i64 x1).wf = true) (h2 : (Lit.int .i64 x2).wf = true) (h3 : (Lit.int .i64 x3).wf = true) (h4 : (Lit.int .i64 x4).wf = true) (hra : IsRaw w A n 2 f) (hst : IsStrs w B m g) (hfr : (Lit.int .i64 from_).wf = true) (hto : (Lit.int .i64 to_).wf = true) :
    Calls Try.prog 3 #[rcV rc (.slice Aa na capa), .agg #[.int .i64 x0, .int .i64 x1, .int .i64 x2, .int .i64 x3, .int .i64 x4], .slice A n cap, .slice B m cap2, .int .i64 from_, .int .i64 to_] w fun e w' => e = .returned (.bool true) ∧ Below w.heap.size w w' := by
  have hb : Below w.heap.size w ((w.alloc (.cells #[.string rc.key, .string rc.value, .int .i64 rc.rev, .int .i64 rc.life, .string rc.note, .slice Aa na capa] 24)).alloc (.cells #[.int .i64 x0, .int .i64 x1, .int .i64 x2, .int .i64 x3, .int .i64 x4] 25)) := ((Below.refl _ _).alloc (Nat.le_refl _) _).alloc (by simp) _
  have hra0 : RcBlk ((w.alloc (.cells #[.string rc.key, .string rc.value, .int .i64 rc.rev, .int .i64 rc.life, .string rc.note, .slice Aa na capa] 24)).alloc (.cells #[.int .i64 x0, .int .i64 x1, .int .i64 x2, .int .i64 x3, .int .i64 x4] 25)) w.heap.size rc (.slice Aa na capa) := RcBlk.alloc (show RcBlk (w.alloc (.cells #[.string rc.key, .string rc.value, .int .i64 rc.rev, .int .i64 rc.life, .string rc.note, .slice Aa na capa] 24)) w.heap.size rc (.slice Aa na capa) from World.alloc_heap_new w _) _
  have harr : Arr5 ((w.alloc (.cells #[.string rc.key, .string rc.value, .int .i64 rc.rev, .int .i64 rc.life, .string rc.note, .slice Aa na capa] 24)).alloc (.cells #[.int .i64 x0, .int .i64 x1, .int .i64 x2, .int .i64 x3, .int .i64 x4] 25)) (w.heap.size + 1) x0 x1 x2 x3 x4 := by
    have hx := World.alloc_heap_new (w.alloc (.cells #[.string rc.key, .string rc.value, .int .i64 rc.rev, .int .i64 rc.life, .string rc.note, .slice Aa na capa] 24)) (.cells #[.int .i64 x0, .int .i64 x1, .int .i64 x2, .int .i64 x3, .int .i64 x4] 25)
    rw [show (w.alloc (.cells #[.string rc.key, .string rc.value, .int .i64 rc.rev, .int .i64 rc.life, .string rc.note, .slice Aa na capa] 24)).heap.size = w.heap.size + 1 from by simp] at hx
    exact hx
  go_enter Try.func3, Try.ntmps3
  go_wp2_with fail
  ((with_reducible refine (awake4_any _).mono ?_); rintro e w1 ⟨rfl, b1⟩)
  replace harr := harr.below b1
  replace hra0 := hra0.below b1
  replace hb := bch hb b1
  clear b1
  go_upto_region 2 with fail
  have HS : Hid (∀ W, W = w1.drew → (W.cell? ⟨(w.heap.size + 1), 0, none⟩ = some (.int .i64 x0) ∧ W.cell? ⟨(w.heap.size + 1), 1, none⟩ = some (.int .i64 x1) ∧ W.cell? ⟨(w.heap.size + 1), 2, none⟩ = some (.int .i64 x2) ∧ W.cell? ⟨(w.heap.size + 1), 3, none⟩ = some (.int .i64 x3) ∧ W.cell? ⟨(w.heap.size + 1), 4, none⟩ = some (.int .i64 x4) ∧ W.cell? ⟨w.heap.size, 0, none⟩ = some (.string rc.key) ∧ W.cell? ⟨w.heap.size, 1, none⟩ = some (.string rc.value) ∧ W.cell? ⟨w.heap.size, 2, none⟩ = some (.int .i64 rc.rev) ∧ W.cell? ⟨w.heap.size, 3, none⟩ = some (.int .i64 rc.life) ∧ W.cell? ⟨w.heap.size, 4, none⟩ = some (.string rc.note) ∧ W.cell? ⟨w.heap.size, 5, none⟩ = some ((.slice Aa na capa)) ∧ Below w.heap.size w W)) := by
    rintro W rfl
    obtain ⟨a0, a1, a2, a3, a4⟩ := harr.cells
    obtain ⟨c0, c1, c2, c3, c4, c5⟩ := hra0.cells
    exact ⟨a0, a1, a2, a3, a4, c0, c1, c2, c3, c4, c5, hb.drew⟩
  have PR1 : Hid (∀ W, (W.cell? ⟨(w.heap.size + 1), 0, none⟩ = some (.int .i64 x0) ∧ W.cell? ⟨(w.heap.size + 1), 1, none⟩ = some (.int .i64 x1) ∧ W.cell? ⟨(w.heap.size + 1), 2, none⟩ = some (.int .i64 x2) ∧ W.cell? ⟨(w.heap.size + 1), 3, none⟩ = some (.int .i64 x3) ∧ W.cell? ⟨(w.heap.size + 1), 4, none⟩ = some (.int .i64 x4) ∧ W.cell? ⟨w.heap.size, 0, none⟩ = some (.string rc.key) ∧ W.cell? ⟨w.heap.size, 1, none⟩ = some (.string rc.value) ∧ W.cell? ⟨w.heap.size, 2, none⟩ = some (.int .i64 rc.rev) ∧ W.cell? ⟨w.heap.size, 3, none⟩ = some (.int .i64 rc.life) ∧ W.cell? ⟨w.heap.size, 4, none⟩ = some (.string rc.note) ∧ W.cell? ⟨w.heap.size, 5, none⟩ = some ((.slice Aa na capa)) ∧ Below w.heap.size w W) → Calls Try.prog 9 #[.int .i64 1, .agg #[.int .i64 x0, .int .i64 x1, .int .i64 x2, .int .i64 x3, .int .i64 x4], .slice A n cap, .slice B m cap2] W (RecMade 1 W)) := fun W h => record_any 1 (by decide) x0 x1 x2 x3 x4 h0 h1 h2 h3 h4 A n cap f B m cap2 g W (hra.below h.2.2.2.2.2.2.2.2.2.2.2) (hst.below h.2.2.2.2.2.2.2.2.2.2.2)
  have PR2 : Hid (∀ W, (W.cell? ⟨(w.heap.size + 1), 0, none⟩ = some (.int .i64 x0) ∧ W.cell? ⟨(w.heap.size + 1), 1, none⟩ = some (.int .i64 x1) ∧ W.cell? ⟨(w.heap.size + 1), 2, none⟩ = some (.int .i64 x2) ∧ W.cell? ⟨(w.heap.size + 1), 3, none⟩ = some (.int .i64 x3) ∧ W.cell? ⟨(w.heap.size + 1), 4, none⟩ = some (.int .i64 x4) ∧ W.cell? ⟨w.heap.size, 0, none⟩ = some (.string rc.key) ∧ W.cell? ⟨w.heap.size, 1, none⟩ = some (.string rc.value) ∧ W.cell? ⟨w.heap.size, 2, none⟩ = some (.int .i64 rc.rev) ∧ W.cell? ⟨w.heap.size, 3, none⟩ = some (.int .i64 rc.life) ∧ W.cell? ⟨w.heap.size, 4, none⟩ = some (.string rc.note) ∧ W.cell? ⟨w.heap.size, 5, none⟩ = some ((.slice Aa na capa)) ∧ Below w.heap.size w W) → Calls Try.prog 9 #[.int .i64 2, .agg #[.int .i64 x0, .int .i64 x1, .int .i64 x2, .int .i64 x3, .int .i64 x4], .slice A n cap, .slice B m cap2] W (RecMade 2 W)) := fun W h => record_any 2 (by decide) x0 x1 x2 x3 x4 h0 h1 h2 h3 h4 A n cap f B m cap2 g W (hra.below h.2.2.2.2.2.2.2.2.2.2.2) (hst.below h.2.2.2.2.2.2.2.2.2.2.2)
  clear harr hra0 hb
  go_region_held3 (fun W => W.cell? ⟨(w.heap.size + 1), 0, none⟩ = some (.int .i64 x0) ∧ W.cell? ⟨(w.heap.size + 1), 1, none⟩ = some (.int .i64 x1) ∧ W.cell? ⟨(w.heap.size + 1), 2, none⟩ = some (.int .i64 x2) ∧ W.cell? ⟨(w.heap.size + 1), 3, none⟩ = some (.int .i64 x3) ∧ W.cell? ⟨(w.heap.size + 1), 4, none⟩ = some (.int .i64 x4) ∧ W.cell? ⟨w.heap.size, 0, none⟩ = some (.string rc.key) ∧ W.cell? ⟨w.heap.size, 1, none⟩ = some (.string rc.value) ∧ W.cell? ⟨w.heap.size, 2, none⟩ = some (.int .i64 rc.rev) ∧ W.cell? ⟨w.heap.size, 3, none⟩ = some (.int .i64 rc.life) ∧ W.cell? ⟨w.heap.size, 4, none⟩ = some (.string rc.note) ∧ W.cell? ⟨w.heap.size, 5, none⟩ = some ((.slice Aa na capa)) ∧ Below w.heap.size w W) (first | exact HS.out _ rfl | exact ac_keep (by assumption) (by assumption) | exact ac_keep (by assumption) ((Below.refl _ _).alloc (Nat.le_refl _) _)) (first | ((with_reducible refine (PR1.out _ (by assumption)).mono ?_); rintro e w2 ⟨A1, n1, cap1, r1, rfl, hc1, hf1, hN1, bq1⟩) | ((with_reducible refine (PR2.out _ (by assumption)).mono ?_); rintro e w3 ⟨A2, n2, cp2, r2, rfl, hc2, hf2, hN2, bq2⟩))
  have hbw2 : Below w.heap.size w w3 := bch (bch (HS.out _ rfl).2.2.2.2.2.2.2.2.2.2.2 bq1) bq2
  have hrow := rowC3_mk w3 rc Aa na capa r1 A1 n1 cap1 r2 A2 n2 cp2 hwa hla (hfa.below hbw2) hN1.wf hc1 (hf1.below bq2) hN2.wf hc2 hf2
  have bb2 := (Below.refl w3.heap.size w3).alloc (Nat.le_refl _) (.cells #[.string rc.key, .string rc.value, .int .i64 rc.rev, .int .i64 rc.life, .string rc.note, .slice Aa na capa, .string r1.key, .string r1.value, .int .i64 r1.rev, .int .i64 r1.life, .string r1.note, .slice A1 n1 cap1, .string r2.key, .string r2.value, .int .i64 r2.rev, .int .i64 r2.life, .string r2.note, .slice A2 n2 cp2] 24)
  obtain ⟨Wr, hWr⟩ : ∃ W, w3.alloc (.cells #[.string rc.key, .string rc.value, .int .i64 rc.rev, .int .i64 rc.life, .string rc.note, .slice Aa na capa, .string r1.key, .string r1.value, .int .i64 r1.rev, .int .i64 r1.life, .string r1.note, .slice A1 n1 cap1, .string r2.key, .string r2.value, .int .i64 r2.rev, .int .i64 r2.life, .string r2.note, .slice A2 n2 cp2] 24) = W := ⟨_, rfl⟩
  rw [hWr] at hrow bb2
  rw [hWr]
  have hlr : w3.heap.size < Wr.heap.size := by rw [← hWr]; simp
  clear hWr hN1 hN2 hf1 hf2 HS PR1 PR2 bq1 bq2
  go_wp2_with fail
  go_loopw [34] (fun i wy => ∃ (q : Nat) (wq : World), wq = wy ∧ q ≤ 3 ∧ i = .int .i64 q ∧ Below w3.heap.size w3 wq ∧ RowC w3 wq w3.heap.size 3) (fun i _ => 3 - (intOf i).toNat)
  case atStart => exact ⟨0, _, rfl, by omega, rfl, bb2, hrow⟩
  case round =>
    clear bb2 hrow
    obtain ⟨q, wq, rfl, hq, rfl, hb2, hrow⟩ := hrel
    have hb := hb2
    clear hb2
    by_cases hlt2 : q < 3
    · obtain ⟨rq, Aq, nq, cq, ⟨y0, y1, y2, y3, y4, y5⟩, hwq, hcq, hfq⟩ := hrow q hlt2
      go_upto_region 5 with fail
      clear y0 y1 y2 y3 y4 y5
      have hyq := hrow.lt (by omega)
      have hbs := hb.size
      obtain ⟨W5, hW⟩ : ∃ W, wq.alloc (.cells #[.string rq.key, .string rq.value, .int .i64 rq.rev, .int .i64 rq.life, .string rq.note, .slice Aq nq cq] 24) = W := ⟨_, rfl⟩
      replace hrow := hrow.alloc (.cells #[.string rq.key, .string rq.value, .int .i64 rq.rev, .int .i64 rq.life, .string rq.note, .slice Aq nq cq] 24)
      replace hb := hb.alloc hb.size (.cells #[.string rq.key, .string rq.value, .int .i64 rq.rev, .int .i64 rq.life, .string rq.note, .slice Aq nq cq] 24)
      have hq15 : RcBlk W5 wq.heap.size rq (.slice Aq nq cq) := by rw [← hW]; exact World.alloc_heap_new wq _
      rw [hW] at hrow hb
      rw [hW]
      clear hW
      generalize wq.heap.size = b15 at *
      obtain ⟨c0, c1, c2, c3, c4, c5⟩ := hq15.cells
      obtain ⟨⟨U, xu⟩, hU⟩ : ∃ U, upR rq = U := ⟨_, rfl⟩
      have p2 := cUp_any rq Aq nq cq W5 hwq (hfq.below hb)
      have p3 := fun W hW => refUp_any rq Aq nq cq W hwq hW hcq
      rw [hU] at p2 p3
      have P3 := Lib.hid p3
      clear p3 hU
      go_wp2_with fail
      ((with_reducible refine p2.mono ?_); rintro e w6 ⟨A6, n6, c6, rfl, _, hf6, _, b6⟩)
      replace hf6 : IsFs w6 A6 n6 U.extra := hf6
      clear c0 c1 c2 c3 c4 c5
      clear p2
      have hl15 := lt_of_blk hq15
      have hs6 := b6.size
      replace hq15 := hq15.below b6
      replace hrow := hrow.below b6
      replace hb := bch hb b6
      clear b6
      go_upto_region 6 with fail
      have hl15' : b15 < w6.heap.size := by omega
      clear hl15 hs6
      obtain ⟨W6, hW⟩ : ∃ W, w6.alloc (.cells #[.string U.key, .string U.value, .int .i64 U.rev, .int .i64 U.life, .string U.note, .slice A6 n6 c6] 24) = W := ⟨_, rfl⟩
      replace hq15 := hq15.alloc (.cells #[.string U.key, .string U.value, .int .i64 U.rev, .int .i64 U.life, .string U.note, .slice A6 n6 c6] 24)
      replace hrow := hrow.alloc (.cells #[.string U.key, .string U.value, .int .i64 U.rev, .int .i64 U.life, .string U.note, .slice A6 n6 c6] 24)
      replace hf6 := hf6.below ((Below.refl _ _).alloc (Nat.le_refl _) (.cells #[.string U.key, .string U.value, .int .i64 U.rev, .int .i64 U.life, .string U.note, .slice A6 n6 c6] 24))
      replace hb := hb.alloc hb.size (.cells #[.string U.key, .string U.value, .int .i64 U.rev, .int .i64 U.life, .string U.note, .slice A6 n6 c6] 24)
      have hq16 : RcBlk W6 w6.heap.size U (.slice A6 n6 c6) := by rw [← hW]; exact World.alloc_heap_new w6 _
      rw [hW] at hq15 hrow hf6 hb
      rw [hW]
      clear hW
      generalize w6.heap.size = b16 at *
      obtain ⟨c0, c1, c2, c3, c4, c5⟩ := hq15.cells
      have p3 := P3.out W6 (hfq.below hb)
      go_wp2_with fail
      ((with_reducible refine p3.mono ?_); rintro e w7 ⟨A7, n7, c7, rfl, _, hf7, _, b7⟩)
      replace hf7 : IsFs w7 A7 n7 U.extra := hf7
      clear c0 c1 c2 c3 c4 c5
      clear p3 P3
      have hl16 := lt_of_blk hq16
      have hs7 := b7.size
      replace hq15 := hq15.below b7
      replace hq16 := hq16.below b7
      replace hf6 := hf6.below b7
      replace hrow := hrow.below b7
      replace hb := bch hb b7
      clear b7
      go_upto_region 7 with fail
      have hl16' : b16 < w7.heap.size := by omega
      clear hl16 hs7
      obtain ⟨W7, hW⟩ : ∃ W, w7.alloc (.cells #[.string U.key, .string U.value, .int .i64 U.rev, .int .i64 U.life, .string U.note, .slice A7 n7 c7] 24) = W := ⟨_, rfl⟩
      replace hq15 := hq15.alloc (.cells #[.string U.key, .string U.value, .int .i64 U.rev, .int .i64 U.life, .string U.note, .slice A7 n7 c7] 24)
      replace hq16 := hq16.alloc (.cells #[.string U.key, .string U.value, .int .i64 U.rev, .int .i64 U.life, .string U.note, .slice A7 n7 c7] 24)
      replace hrow := hrow.alloc (.cells #[.string U.key, .string U.value, .int .i64 U.rev, .int .i64 U.life, .string U.note, .slice A7 n7 c7] 24)
      replace hf6 := hf6.below ((Below.refl _ _).alloc (Nat.le_refl _) (.cells #[.string U.key, .string U.value, .int .i64 U.rev, .int .i64 U.life, .string U.note, .slice A7 n7 c7] 24))
      replace hf7 := hf7.below ((Below.refl _ _).alloc (Nat.le_refl _) (.cells #[.string U.key, .string U.value, .int .i64 U.rev, .int .i64 U.life, .string U.note, .slice A7 n7 c7] 24))
      replace hb := hb.alloc hb.size (.cells #[.string U.key, .string U.value, .int .i64 U.rev, .int .i64 U.life, .string U.note, .slice A7 n7 c7] 24)
      have hq18 : RcBlk W7 w7.heap.size U (.slice A7 n7 c7) := by rw [← hW]; exact World.alloc_heap_new w7 _
      rw [hW] at hq15 hq16 hrow hf6 hf7 hb
      rw [hW]
      clear hW
      generalize w7.heap.size = b18 at *
      obtain ⟨c0, c1, c2, c3, c4, c5⟩ := hq16.cells
      obtain ⟨d0, d1, d2, d3, d4, d5⟩ := hq18.cells
      have q1 := refSame_any U U A6 A7 n6 n7 c6 c7 W7 hf6 hf7
      rw [sameR_self] at q1
      go_wp2_with fail
      ((with_reducible refine q1.mono ?_); rintro e w8 ⟨rfl, b8⟩)
      clear c0 c1 c2 c3 c4 c5
      clear d0 d1 d2 d3 d4 d5
      clear q1 hf6 hf7
      have hl18 := lt_of_blk hq18
      have hs8 := b8.size
      replace hq15 := hq15.below b8
      replace hq16 := hq16.below b8
      replace hq18 := hq18.below b8
      replace hrow := hrow.below b8
      replace hb := bch hb b8
      clear b8
      have hl18' : b18 < w8.heap.size := by omega
      clear hl18 hs8
      obtain ⟨c0, c1, c2, c3, c4, c5⟩ := hq15.cells
      obtain ⟨⟨V, xv⟩, hR⟩ : ∃ U, downR rq = U := ⟨_, rfl⟩
      have p2 := fun W hW => cDown_any rq Aq nq cq W hwq hW
      have p3 := fun W hW => refDown_any rq Aq nq cq W hwq hW
      rw [hR] at p2 p3
      have P3 := Lib.hid p3
      have p4 := p2 _ (hfq.below hb)
      clear p3 p2 hR
      go_wp2_with fail
      ((with_reducible refine p4.mono ?_); rintro e w9 ⟨A9, n9, c9, rfl, _, hf9, hnew9, b9⟩)
      replace hf9 : IsFs w9 A9 n9 V.extra := hf9
      clear c0 c1 c2 c3 c4 c5
      clear p4
      have hs9 := b9.size
      replace hnew9 : NewAt (b18 + 1) A9 := hnew9.mono (by omega)
      replace hq15 := hq15.below b9
      replace hq16 := hq16.below b9
      replace hq18 := hq18.below b9
      replace hrow := hrow.below b9
      replace hb := bch hb b9
      clear b9
      obtain ⟨z0, z1, z2, z3, z4, z5⟩ := hq16.cells
      have f0 := hq16.frozen 0
      have f1 := hq16.frozen 1
      have f2 := hq16.frozen 2
      have f3 := hq16.frozen 3
      have f4 := hq16.frozen 4
      have f5 := hq16.frozen 5
      have hxz := lt_of_blk hq16
      go_upto_region 10 with fail
      clear z0 z1 z2 z3 z4 z5 f0 f1 f2 f3 f4 f5 hxz
      obtain ⟨W9, hW⟩ : ∃ W, ((((((w9.setCell ⟨b16, 0, none⟩ (.string V.key)).setCell ⟨b16, 1, none⟩ (.string V.value)).setCell ⟨b16, 2, none⟩ (.int .i64 V.rev)).setCell ⟨b16, 3, none⟩ (.int .i64 V.life)).setCell ⟨b16, 4, none⟩ (.string V.note)).setCell ⟨b16, 5, none⟩ (.slice A9 n9 c9)) = W := ⟨_, rfl⟩
      replace hq15 := RcBlk.other6 hq15 (b2 := b16) (by omega) (.string V.key) (.string V.value) (.int .i64 V.rev) (.int .i64 V.life) (.string V.note) (.slice A9 n9 c9)
      replace hq16 := RcBlk.set6 hq16 V (.slice A9 n9 c9)
      replace hq18 := RcBlk.other6 hq18 (b2 := b16) (by omega) (.string V.key) (.string V.value) (.int .i64 V.rev) (.int .i64 V.life) (.string V.note) (.slice A9 n9 c9)
      replace hrow := hrow.set6 (b2 := b16) (by omega) (.string V.key) (.string V.value) (.int .i64 V.rev) (.int .i64 V.life) (.string V.note) (.slice A9 n9 c9)
      replace hf9 := isFs_set6 hf9 hnew9 (by omega : b16 < _) (.string V.key) (.string V.value) (.int .i64 V.rev) (.int .i64 V.life) (.string V.note) (.slice A9 n9 c9)
      replace hb := below_set6b hb (by omega : _ ≤ b16) (.string V.key) (.string V.value) (.int .i64 V.rev) (.int .i64 V.life) (.string V.note) (.slice A9 n9 c9)
      rw [hW] at hq15 hq16 hq18 hrow hf9 hb
      rw [hW]
      clear hW
      have hz9 := lt_of_blk hq18
      obtain ⟨c0, c1, c2, c3, c4, c5⟩ := hq15.cells
      have p3 := P3.out W9 (hfq.below hb)
      go_wp2_with fail
      ((with_reducible refine p3.mono ?_); rintro e w10 ⟨A10, n10, c10, rfl, _, hf10, hnew10, b10⟩)
      replace hf10 : IsFs w10 A10 n10 V.extra := hf10
      clear c0 c1 c2 c3 c4 c5
      clear p3 P3
      have hs10 := b10.size
      replace hnew10 : NewAt (b18 + 1) A10 := hnew10.mono (by omega)
      replace hq15 := hq15.below b10
      replace hq16 := hq16.below b10
      replace hq18 := hq18.below b10
      replace hf9 := hf9.below b10
      replace hrow := hrow.below b10
      replace hb := bch hb b10
      clear b10
      obtain ⟨z0, z1, z2, z3, z4, z5⟩ := hq18.cells
      have f0 := hq18.frozen 0
      have f1 := hq18.frozen 1
      have f2 := hq18.frozen 2
      have f3 := hq18.frozen 3
      have f4 := hq18.frozen 4
      have f5 := hq18.frozen 5
      have hxz := lt_of_blk hq18
      go_upto_region 11 with fail
      clear z0 z1 z2 z3 z4 z5 f0 f1 f2 f3 f4 f5 hxz
      obtain ⟨W10, hW⟩ : ∃ W, ((((((w10.setCell ⟨b18, 0, none⟩ (.string V.key)).setCell ⟨b18, 1, none⟩ (.string V.value)).setCell ⟨b18, 2, none⟩ (.int .i64 V.rev)).setCell ⟨b18, 3, none⟩ (.int .i64 V.life)).setCell ⟨b18, 4, none⟩ (.string V.note)).setCell ⟨b18, 5, none⟩ (.slice A10 n10 c10)) = W := ⟨_, rfl⟩
      replace hq15 := RcBlk.other6 hq15 (b2 := b18) (by omega) (.string V.key) (.string V.value) (.int .i64 V.rev) (.int .i64 V.life) (.string V.note) (.slice A10 n10 c10)
      replace hq16 := RcBlk.other6 hq16 (b2 := b18) (by omega) (.string V.key) (.string V.value) (.int .i64 V.rev) (.int .i64 V.life) (.string V.note) (.slice A10 n10 c10)
      replace hq18 := RcBlk.set6 hq18 V (.slice A10 n10 c10)
      replace hrow := hrow.set6 (b2 := b18) (by omega) (.string V.key) (.string V.value) (.int .i64 V.rev) (.int .i64 V.life) (.string V.note) (.slice A10 n10 c10)
      replace hf9 := isFs_set6 hf9 hnew9 (by omega : b18 < _) (.string V.key) (.string V.value) (.int .i64 V.rev) (.int .i64 V.life) (.string V.note) (.slice A10 n10 c10)
      replace hf10 := isFs_set6 hf10 hnew10 (by omega : b18 < _) (.string V.key) (.string V.value) (.int .i64 V.rev) (.int .i64 V.life) (.string V.note) (.slice A10 n10 c10)
      replace hb := below_set6b hb (by omega : _ ≤ b18) (.string V.key) (.string V.value) (.int .i64 V.rev) (.int .i64 V.life) (.string V.note) (.slice A10 n10 c10)
      rw [hW] at hq15 hq16 hq18 hrow hf9 hf10 hb
      rw [hW]
      clear hW
      obtain ⟨c0, c1, c2, c3, c4, c5⟩ := hq16.cells
      obtain ⟨d0, d1, d2, d3, d4, d5⟩ := hq18.cells
      have q1 := refSame_any V V A9 A10 n9 n10 c9 c10 W10 hf9 hf10
      rw [sameR_self] at q1
      have hz10 := lt_of_blk hq18
      go_wp2_with fail
      ((with_reducible refine q1.mono ?_); rintro e w11 ⟨rfl, b11⟩)
      clear c0 c1 c2 c3 c4 c5
      clear d0 d1 d2 d3 d4 d5
      clear q1 hf9 hf10 hnew9 hnew10
      have hs11 := b11.size
      replace hq15 := hq15.below b11
      replace hq16 := hq16.below b11
      replace hq18 := hq18.below b11
      replace hrow := hrow.below b11
      replace hb := bch hb b11
      clear b11
      have hl11 : b18 < w11.heap.size := by omega
      clear hs9 hs10 hs11 hz9 hz10
      have k1 := pickM_nat from_ 2 (by omega) (by omega) hfr
      have k2 := pickM_nat to_ 2 (by omega) (by omega) hto
      have l1 := pickN_lt from_ 2 (by omega)
      have l2 := pickN_lt to_ 2 (by omega)
      generalize pickN from_ 2 = z1 at *
      generalize pickN to_ 2 = z2 at *
      have hw1 : IntKind.i64.wrap (1 + (z1 : Int)) = 1 + (z1 : Int) := IntWalk.i64_in _ (by omega)
      have hw2 : IntKind.i64.wrap (1 + (z2 : Int)) = 1 + (z2 : Int) := IntWalk.i64_in _ (by omega)
      go_wp2_with fail
      ((with_reducible refine (k1 _).mono ?_); rintro e w12 ⟨rfl, rfl⟩)
      go_wp2_with fail
      ((with_reducible refine (k2 _).mono ?_); rintro e w12 ⟨rfl, rfl⟩)
      go_wp2_with fail
      ((with_reducible refine (k1 _).mono ?_); rintro e w12 ⟨rfl, rfl⟩)
      go_upto_region 14 with fail
      clear k1 k2 hw1 hw2
      obtain ⟨W12, hW⟩ : ∃ W, w11.alloc (.cells #[.int .i64 from_, .int .i64 to_, .int .i64 (1 + (z1 : Int)), .int .i64 (1 + (z2 : Int)), .int .i64 (1 + (z1 : Int)), .int .i64 to_] 35) = W := ⟨_, rfl⟩
      replace hq15 := hq15.alloc (.cells #[.int .i64 from_, .int .i64 to_, .int .i64 (1 + (z1 : Int)), .int .i64 (1 + (z2 : Int)), .int .i64 (1 + (z1 : Int)), .int .i64 to_] 35)
      replace hq16 := hq16.alloc (.cells #[.int .i64 from_, .int .i64 to_, .int .i64 (1 + (z1 : Int)), .int .i64 (1 + (z2 : Int)), .int .i64 (1 + (z1 : Int)), .int .i64 to_] 35)
      replace hq18 := hq18.alloc (.cells #[.int .i64 from_, .int .i64 to_, .int .i64 (1 + (z1 : Int)), .int .i64 (1 + (z2 : Int)), .int .i64 (1 + (z1 : Int)), .int .i64 to_] 35)
      replace hrow := hrow.alloc (.cells #[.int .i64 from_, .int .i64 to_, .int .i64 (1 + (z1 : Int)), .int .i64 (1 + (z2 : Int)), .int .i64 (1 + (z1 : Int)), .int .i64 to_] 35)
      replace hb := hb.alloc hb.size (.cells #[.int .i64 from_, .int .i64 to_, .int .i64 (1 + (z1 : Int)), .int .i64 (1 + (z2 : Int)), .int .i64 (1 + (z1 : Int)), .int .i64 to_] 35)
      have hpr : PairC W12 w11.heap.size 3 := by rw [← hW]; exact pairC_mk w11 _ _ _ _ _ _
      have hsw : W12.heap.size = w11.heap.size + 1 := by rw [← hW]; simp
      rw [hW] at hq15 hq16 hq18 hrow hb
      rw [hW]
      clear hW
      generalize w11.heap.size = b91 at *
      have hcs : b15 < b16 ∧ b16 < b18 ∧ b18 < b91 ∧ w3.heap.size < b15 ∧ w3.heap.size ≤ b15 := by omega
      go_loopw [93] (fun i wy => ∃ (p : Nat) (wp : World) (R S : Rcd) (sR sS : Value), wp = wy ∧ p ≤ 3 ∧ i = .int .i64 p ∧ RcBlk wp b15 rq (.slice Aq nq cq) ∧ RcBlk wp b16 R sR ∧ RcBlk wp b18 S sS ∧ RowC w3 wp w3.heap.size 3 ∧ PairC wp b91 3 ∧ Below w3.heap.size w3 wp) (fun i _ => 3 - (intOf i).toNat)
      case atStart => exact ⟨0, _, V, V, _, _, rfl, by omega, rfl, hq15, hq16, hq18, hrow, hpr, hb⟩
      case round =>
        clear hq15 hq16 hq18 hrow hpr hb
        obtain ⟨p, wp, R, S, sR, sS, rfl, hp, rfl, hq15, hq16, hq18, hrow, hpr, hb⟩ := hrel
        by_cases hlt3 : p < 3
        · obtain ⟨va, vb, e0, e1⟩ := hpr p hlt3
          have hpl := hpr.lt (by omega)
          go_upto_region 16 with fail
          clear e0 e1
          obtain ⟨W15, hW⟩ : ∃ W, wp.alloc (.cells #[.int .i64 va, .int .i64 vb] 35) = W := ⟨_, rfl⟩
          replace hq15 := hq15.alloc (.cells #[.int .i64 va, .int .i64 vb] 35)
          replace hq16 := hq16.alloc (.cells #[.int .i64 va, .int .i64 vb] 35)
          replace hq18 := hq18.alloc (.cells #[.int .i64 va, .int .i64 vb] 35)
          replace hrow := hrow.alloc (.cells #[.int .i64 va, .int .i64 vb] 35)
          replace hpr := hpr.alloc (.cells #[.int .i64 va, .int .i64 vb] 35)
          replace hb := hb.alloc hb.size (.cells #[.int .i64 va, .int .i64 vb] 35)
          have hpa : PairAt W15 wp.heap.size va vb := by rw [← hW]; exact pairAt_mk wp _ _
          have hsw2 : W15.heap.size = wp.heap.size + 1 := by rw [← hW]; simp
          rw [hW] at hq15 hq16 hq18 hrow hpr hb
          rw [hW]
          clear hW
          generalize wp.heap.size = b21 at *
          have hl21 : b91 < b21 := hpl
          have hl18b : b18 < W15.heap.size := by omega
          obtain ⟨c0, c1, c2, c3, c4, c5⟩ := hq15.cells
          have ep := hpa
          obtain ⟨e0, e1⟩ := ep
          obtain ⟨⟨T, xt⟩, hR⟩ : ∃ U, toR va vb rq = U := ⟨_, rfl⟩
          have p2 := fun W hW => cTo_any va vb rq Aq nq cq W hwq hW
          have p3 := fun W hW => refTo_any va vb rq Aq nq cq W hwq hW hcq
          rw [hR] at p2 p3
          have P3 := Lib.hid p3
          have p4 := p2 _ (hfq.below hb)
          clear p3 p2 hR
          go_wp2_with fail
          ((with_reducible refine p4.mono ?_); rintro e w16 ⟨A16, n16, c16, rfl, _, hf16, hnew16, b16⟩)
          replace hf16 : IsFs w16 A16 n16 T.extra := hf16
          clear c0 c1 c2 c3 c4 c5
          clear p4
          have hs16 := b16.size
          replace hnew16 : NewAt (b18 + 1) A16 := hnew16.mono (by omega)
          replace hq15 := hq15.below b16
          replace hq16 := hq16.below b16
          replace hq18 := hq18.below b16
          replace hrow := hrow.below b16
          replace hpr := hpr.below b16
          replace hpa := hpa.below b16
          replace hb := bch hb b16
          clear b16
          obtain ⟨z0, z1, z2, z3, z4, z5⟩ := hq16.cells
          have f0 := hq16.frozen 0
          have f1 := hq16.frozen 1
          have f2 := hq16.frozen 2
          have f3 := hq16.frozen 3
          have f4 := hq16.frozen 4
          have f5 := hq16.frozen 5
          have hxz := lt_of_blk hq16
          go_upto_region 17 with fail
          clear z0 z1 z2 z3 z4 z5 f0 f1 f2 f3 f4 f5 hxz
          obtain ⟨W16, hW⟩ : ∃ W, ((((((w16.setCell ⟨b16, 0, none⟩ (.string T.key)).setCell ⟨b16, 1, none⟩ (.string T.value)).setCell ⟨b16, 2, none⟩ (.int .i64 T.rev)).setCell ⟨b16, 3, none⟩ (.int .i64 T.life)).setCell ⟨b16, 4, none⟩ (.string T.note)).setCell ⟨b16, 5, none⟩ (.slice A16 n16 c16)) = W := ⟨_, rfl⟩
          replace hq15 := RcBlk.other6 hq15 (b2 := b16) (by omega) (.string T.key) (.string T.value) (.int .i64 T.rev) (.int .i64 T.life) (.string T.note) (.slice A16 n16 c16)
          replace hq16 := RcBlk.set6 hq16 T (.slice A16 n16 c16)
          replace hq18 := RcBlk.other6 hq18 (b2 := b16) (by omega) (.string T.key) (.string T.value) (.int .i64 T.rev) (.int .i64 T.life) (.string T.note) (.slice A16 n16 c16)
          replace hrow := hrow.set6 (b2 := b16) (by omega) (.string T.key) (.string T.value) (.int .i64 T.rev) (.int .i64 T.life) (.string T.note) (.slice A16 n16 c16)
          replace hpr := hpr.set6 (b2 := b16) (by omega) (.string T.key) (.string T.value) (.int .i64 T.rev) (.int .i64 T.life) (.string T.note) (.slice A16 n16 c16)
          replace hpa := hpa.set6 (b2 := b16) (by omega) (.string T.key) (.string T.value) (.int .i64 T.rev) (.int .i64 T.life) (.string T.note) (.slice A16 n16 c16)
          replace hf16 := isFs_set6 hf16 hnew16 (by omega : b16 < _) (.string T.key) (.string T.value) (.int .i64 T.rev) (.int .i64 T.life) (.string T.note) (.slice A16 n16 c16)
          replace hb := below_set6b hb (by omega : _ ≤ b16) (.string T.key) (.string T.value) (.int .i64 T.rev) (.int .i64 T.life) (.string T.note) (.slice A16 n16 c16)
          rw [hW] at hq15 hq16 hq18 hrow hpr hpa hf16 hb
          rw [hW]
          clear hW
          have hz16 := lt_of_blk hq18
          obtain ⟨c0, c1, c2, c3, c4, c5⟩ := hq15.cells
          have ep := hpa
          obtain ⟨e0, e1⟩ := ep
          have p3 := P3.out W16 (hfq.below hb)
          go_wp2_with fail
          ((with_reducible refine p3.mono ?_); rintro e w17 ⟨A17, n17, c17, rfl, _, hf17, hnew17, b17⟩)
          replace hf17 : IsFs w17 A17 n17 T.extra := hf17
          clear c0 c1 c2 c3 c4 c5
          clear p3 P3
          have hs17 := b17.size
          replace hnew17 : NewAt (b18 + 1) A17 := hnew17.mono (by omega)
          replace hq15 := hq15.below b17
          replace hq16 := hq16.below b17
          replace hq18 := hq18.below b17
          replace hf16 := hf16.below b17
          replace hrow := hrow.below b17
          replace hpr := hpr.below b17
          replace hpa := hpa.below b17
          replace hb := bch hb b17
          clear b17
          obtain ⟨z0, z1, z2, z3, z4, z5⟩ := hq18.cells
          have f0 := hq18.frozen 0
          have f1 := hq18.frozen 1
          have f2 := hq18.frozen 2
          have f3 := hq18.frozen 3
          have f4 := hq18.frozen 4
          have f5 := hq18.frozen 5
          have hxz := lt_of_blk hq18
          go_upto_region 18 with fail
          clear z0 z1 z2 z3 z4 z5 f0 f1 f2 f3 f4 f5 hxz
          obtain ⟨W17, hW⟩ : ∃ W, ((((((w17.setCell ⟨b18, 0, none⟩ (.string T.key)).setCell ⟨b18, 1, none⟩ (.string T.value)).setCell ⟨b18, 2, none⟩ (.int .i64 T.rev)).setCell ⟨b18, 3, none⟩ (.int .i64 T.life)).setCell ⟨b18, 4, none⟩ (.string T.note)).setCell ⟨b18, 5, none⟩ (.slice A17 n17 c17)) = W := ⟨_, rfl⟩
          replace hq15 := RcBlk.other6 hq15 (b2 := b18) (by omega) (.string T.key) (.string T.value) (.int .i64 T.rev) (.int .i64 T.life) (.string T.note) (.slice A17 n17 c17)
          replace hq16 := RcBlk.other6 hq16 (b2 := b18) (by omega) (.string T.key) (.string T.value) (.int .i64 T.rev) (.int .i64 T.life) (.string T.note) (.slice A17 n17 c17)
          replace hq18 := RcBlk.set6 hq18 T (.slice A17 n17 c17)
          replace hrow := hrow.set6 (b2 := b18) (by omega) (.string T.key) (.string T.value) (.int .i64 T.rev) (.int .i64 T.life) (.string T.note) (.slice A17 n17 c17)
          replace hpr := hpr.set6 (b2 := b18) (by omega) (.string T.key) (.string T.value) (.int .i64 T.rev) (.int .i64 T.life) (.string T.note) (.slice A17 n17 c17)
          replace hpa := hpa.set6 (b2 := b18) (by omega) (.string T.key) (.string T.value) (.int .i64 T.rev) (.int .i64 T.life) (.string T.note) (.slice A17 n17 c17)
          replace hf16 := isFs_set6 hf16 hnew16 (by omega : b18 < _) (.string T.key) (.string T.value) (.int .i64 T.rev) (.int .i64 T.life) (.string T.note) (.slice A17 n17 c17)
          replace hf17 := isFs_set6 hf17 hnew17 (by omega : b18 < _) (.string T.key) (.string T.value) (.int .i64 T.rev) (.int .i64 T.life) (.string T.note) (.slice A17 n17 c17)
          replace hb := below_set6b hb (by omega : _ ≤ b18) (.string T.key) (.string T.value) (.int .i64 T.rev) (.int .i64 T.life) (.string T.note) (.slice A17 n17 c17)
          rw [hW] at hq15 hq16 hq18 hrow hpr hpa hf16 hf17 hb
          rw [hW]
          clear hW
          obtain ⟨c0, c1, c2, c3, c4, c5⟩ := hq16.cells
          obtain ⟨d0, d1, d2, d3, d4, d5⟩ := hq18.cells
          have q1 := refSame_any T T A16 A17 n16 n17 c16 c17 W17 hf16 hf17
          rw [sameR_self] at q1
          have hz17 := lt_of_blk hq18
          go_wp2_with fail
          ((with_reducible refine q1.mono ?_); rintro e w18 ⟨rfl, b18⟩)
          clear c0 c1 c2 c3 c4 c5
          clear d0 d1 d2 d3 d4 d5
          clear q1 hf16 hf17 hnew16 hnew17
          have hs18 := b18.size
          replace hq15 := hq15.below b18
          replace hq16 := hq16.below b18
          replace hq18 := hq18.below b18
          replace hrow := hrow.below b18
          replace hpr := hpr.below b18
          replace hpa := hpa.below b18
          replace hb := bch hb b18
          clear b18
          have hl18 : b18 < w18.heap.size := by omega
          clear hs16 hs17 hs18 hz16 hz17
          go_wp2_with fail
          go_roundw
          case rel => exact ⟨p + 1, _, T, T, _, _, rfl, by omega, by go_num, hq15, hq16, hq18, hrow, hpr, hb⟩
          case measure => simp [intOf]; omega
        · have hp3 : p = 3 := by omega
          subst hp3
          go_wp2_with fail
          go_roundw
          case rel => exact ⟨q + 1, _, rfl, by omega, by go_num, hb, hrow⟩
          case measure => simp [intOf]; omega
    · have hq3 : q = 3 := by omega
      subst hq3
      go_wp2_with fail
      go_ret
      exact ⟨rfl, bch hbw2 hb⟩

end Go.Proofs.Ytkcmjhpbjgjebaa
