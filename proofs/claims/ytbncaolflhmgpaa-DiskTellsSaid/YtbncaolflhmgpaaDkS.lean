import Derived.Test.YtbncaolflhmgpaaDkR
import Derived.Test.YtbncaolflhmgpaaShelf
import Derived.Deep.DeepCutAuto
/-
  The contracts of the program's own Log, Append, Sync, Crash and Swap (stage 7).
-/
namespace Go.Proofs.Ytbncaolflhmgpaa
open Go.RowKit
set_option linter.unusedVariables false

set_option maxRecDepth 100000 in
set_option maxHeartbeats 1000000 in
theorem scloneK (s : ByteArray) (hs : s.size ≤ 140737488355328) (w : World) : Calls Try.prog 26 #[.string s] w fun e w' => e = .returned (.string s) ∧ Below w.heap.size w w' := by
  have q := fun W => Try.stringslite_Clone s W (by omega)
  go_enter Try.func26, Try.ntmps26
  go_wp2_with fail
  ((with_reducible refine (q _).mono ?_); rintro e W1 ⟨rfl, b1⟩)
  go_wp2_with fail
  go_ret
  exact ⟨rfl, b1⟩

set_option maxRecDepth 100000 in
set_option maxHeartbeats 1000000 in
theorem logC : LogC := by
  intro a b c hb hc w
  have hadd : ∀ W : World, (Op.stringOp .add b c).run Try.prog W = .ok (.string (b ++ c)) W := fun W => str_add (by omega) W
  obtain ⟨c0, c1, c2⟩ := (DkBlk.new w a b c).cells
  go_enter Try.func19, Try.ntmps19
  go_wp2_with fail
  go_ret
  exact ⟨rfl, (Below.refl _ _).alloc (Nat.le_refl _) _⟩

set_option maxRecDepth 100000 in
set_option maxHeartbeats 2000000 in
theorem append_ok {a b c s x : ByteArray} (hcs : c ++ s = x) (hl : b.size + c.size + s.size ≤ 100000) (w : World) :
    Calls Try.prog 13 #[.agg #[.string a, .string b, .string c], .string s] w fun e w' => e = .returned (.tuple #[.agg #[.string a, .string b, .string x], .int .i64 0]) ∧ Below w.heap.size w w' := by
  have hb0 : Below w.heap.size w ((w.alloc (.cells #[.string a, .string b, .string c] 23)).alloc (.cells #[.string ⟨#[]⟩, .string ⟨#[]⟩, .string ⟨#[]⟩] 23)) := ((Below.refl _ _).alloc (Nat.le_refl _) _).alloc (by simp) _
  have hg : DkBlk ((w.alloc (.cells #[.string a, .string b, .string c] 23)).alloc (.cells #[.string ⟨#[]⟩, .string ⟨#[]⟩, .string ⟨#[]⟩] 23)) w.heap.size a b c := (DkBlk.new w a b c).below ((Below.refl _ _).alloc (Nat.le_refl _) _)
  have hx : DkBlk ((w.alloc (.cells #[.string a, .string b, .string c] 23)).alloc (.cells #[.string ⟨#[]⟩, .string ⟨#[]⟩, .string ⟨#[]⟩] 23)) (w.heap.size + 1) ⟨#[]⟩ ⟨#[]⟩ ⟨#[]⟩ := by
    have h := DkBlk.new (w.alloc (.cells #[.string a, .string b, .string c] 23)) ⟨#[]⟩ ⟨#[]⟩ ⟨#[]⟩
    rw [World.size_alloc] at h
    exact h
  obtain ⟨W0, hW0⟩ : ∃ W, (w.alloc (.cells #[.string a, .string b, .string c] 23)).alloc (.cells #[.string ⟨#[]⟩, .string ⟨#[]⟩, .string ⟨#[]⟩] 23) = W := ⟨_, rfl⟩
  rw [hW0] at hb0 hg hx
  have HB0 := Lib.hid hb0; clear hb0
  have HG := Lib.hid hg; clear hg
  have HX := Lib.hid hx; clear hx
  obtain ⟨c0, c1, c2⟩ := HG.out.cells
  have q := fun W => doS_ok _ cfExt a b c a b x s (fun g W h => extend_ok g a b c s x hcs hl W h) W
  go_enter Try.func13, Try.ntmps13
  go_wp2_with fail
  ((with_reducible refine (q _).mono ?_); rintro e W1 ⟨rfl, bt⟩)
  have hx1 := HX.out.below bt
  have hb1 := bch HB0.out bt
  clear c0 c1 c2 bt
  obtain ⟨x0, x1, x2⟩ := hx1.cells
  have f0 := hx1.frozen 0
  have f1 := hx1.frozen 1
  have f2 := hx1.frozen 2
  have HX1 := Lib.hid hx1; clear hx1
  have HB1 := Lib.hid hb1; clear hb1 q
  go_wp2_with fail
  have hfin := HX1.out.put a b x
  have hbf := ((HB1.out.setCell (p := ⟨w.heap.size + 1, 0, none⟩) (Nat.le_succ _) (.string a)).setCell (p := ⟨w.heap.size + 1, 1, none⟩) (Nat.le_succ _) (.string b)).setCell (p := ⟨w.heap.size + 1, 2, none⟩) (Nat.le_succ _) (.string x)
  obtain ⟨e0, e1, e2⟩ := hfin.cells
  refine bodyPost_ret (v := .tuple #[.agg #[.string a, .string b, .string x], .int .i64 0]) (by simp [results, Try.results13, go_sem, e0, e1, e2]) rfl ⟨rfl, hbf⟩

set_option maxRecDepth 100000 in
set_option maxHeartbeats 2000000 in
theorem append_no {a b c s : ByteArray} (hb : b.size ≤ 400000) (hc : c.size ≤ 400000) (hs : s.size ≤ 400000) (hl : ¬ b.size + c.size + s.size ≤ 100000) (w : World) :
    Calls Try.prog 13 #[.agg #[.string a, .string b, .string c], .string s] w fun e w' => e = .returned (.tuple #[.agg #[.string a, .string b, .string c], .int .i64 50]) ∧ Below w.heap.size w w' := by
  have hb0 : Below w.heap.size w ((w.alloc (.cells #[.string a, .string b, .string c] 23)).alloc (.cells #[.string ⟨#[]⟩, .string ⟨#[]⟩, .string ⟨#[]⟩] 23)) := ((Below.refl _ _).alloc (Nat.le_refl _) _).alloc (by simp) _
  have hg : DkBlk ((w.alloc (.cells #[.string a, .string b, .string c] 23)).alloc (.cells #[.string ⟨#[]⟩, .string ⟨#[]⟩, .string ⟨#[]⟩] 23)) w.heap.size a b c := (DkBlk.new w a b c).below ((Below.refl _ _).alloc (Nat.le_refl _) _)
  have hx : DkBlk ((w.alloc (.cells #[.string a, .string b, .string c] 23)).alloc (.cells #[.string ⟨#[]⟩, .string ⟨#[]⟩, .string ⟨#[]⟩] 23)) (w.heap.size + 1) ⟨#[]⟩ ⟨#[]⟩ ⟨#[]⟩ := by
    have h := DkBlk.new (w.alloc (.cells #[.string a, .string b, .string c] 23)) ⟨#[]⟩ ⟨#[]⟩ ⟨#[]⟩
    rw [World.size_alloc] at h
    exact h
  obtain ⟨W0, hW0⟩ : ∃ W, (w.alloc (.cells #[.string a, .string b, .string c] 23)).alloc (.cells #[.string ⟨#[]⟩, .string ⟨#[]⟩, .string ⟨#[]⟩] 23) = W := ⟨_, rfl⟩
  rw [hW0] at hb0 hg hx
  have HB0 := Lib.hid hb0; clear hb0
  have HG := Lib.hid hg; clear hg
  have HX := Lib.hid hx; clear hx
  obtain ⟨c0, c1, c2⟩ := HG.out.cells
  have q := fun W => doS_no _ cfExt a b c a b c s (fun g W h => extend_no g a b c s hb hc hs hl W h) W
  go_enter Try.func13, Try.ntmps13
  go_wp2_with fail
  ((with_reducible refine (q _).mono ?_); rintro e W1 ⟨rfl, bt⟩)
  have hx1 := HX.out.below bt
  have hb1 := bch HB0.out bt
  clear c0 c1 c2 bt
  obtain ⟨x0, x1, x2⟩ := hx1.cells
  have f0 := hx1.frozen 0
  have f1 := hx1.frozen 1
  have f2 := hx1.frozen 2
  have HX1 := Lib.hid hx1; clear hx1
  have HB1 := Lib.hid hb1; clear hb1 q
  go_wp2_with fail
  have hfin := HX1.out.put a b c
  have hbf := ((HB1.out.setCell (p := ⟨w.heap.size + 1, 0, none⟩) (Nat.le_succ _) (.string a)).setCell (p := ⟨w.heap.size + 1, 1, none⟩) (Nat.le_succ _) (.string b)).setCell (p := ⟨w.heap.size + 1, 2, none⟩) (Nat.le_succ _) (.string c)
  obtain ⟨e0, e1, e2⟩ := hfin.cells
  refine bodyPost_ret (v := .tuple #[.agg #[.string a, .string b, .string c], .int .i64 50]) (by simp [results, Try.results13, go_sem, e0, e1, e2]) rfl ⟨rfl, hbf⟩

set_option maxRecDepth 100000 in
set_option maxHeartbeats 2000000 in
theorem swap_ok {a b c s : ByteArray} (hl : s.size ≤ 100000) (w : World) :
    Calls Try.prog 15 #[.agg #[.string a, .string b, .string c], .string s] w fun e w' => e = .returned (.tuple #[.agg #[.string s, .string ⟨#[]⟩, .string ⟨#[]⟩], .int .i64 0]) ∧ Below w.heap.size w w' := by
  have hb0 : Below w.heap.size w ((w.alloc (.cells #[.string a, .string b, .string c] 23)).alloc (.cells #[.string ⟨#[]⟩, .string ⟨#[]⟩, .string ⟨#[]⟩] 23)) := ((Below.refl _ _).alloc (Nat.le_refl _) _).alloc (by simp) _
  have hg : DkBlk ((w.alloc (.cells #[.string a, .string b, .string c] 23)).alloc (.cells #[.string ⟨#[]⟩, .string ⟨#[]⟩, .string ⟨#[]⟩] 23)) w.heap.size a b c := (DkBlk.new w a b c).below ((Below.refl _ _).alloc (Nat.le_refl _) _)
  have hx : DkBlk ((w.alloc (.cells #[.string a, .string b, .string c] 23)).alloc (.cells #[.string ⟨#[]⟩, .string ⟨#[]⟩, .string ⟨#[]⟩] 23)) (w.heap.size + 1) ⟨#[]⟩ ⟨#[]⟩ ⟨#[]⟩ := by
    have h := DkBlk.new (w.alloc (.cells #[.string a, .string b, .string c] 23)) ⟨#[]⟩ ⟨#[]⟩ ⟨#[]⟩
    rw [World.size_alloc] at h
    exact h
  obtain ⟨W0, hW0⟩ : ∃ W, (w.alloc (.cells #[.string a, .string b, .string c] 23)).alloc (.cells #[.string ⟨#[]⟩, .string ⟨#[]⟩, .string ⟨#[]⟩] 23) = W := ⟨_, rfl⟩
  rw [hW0] at hb0 hg hx
  have HB0 := Lib.hid hb0; clear hb0
  have HG := Lib.hid hg; clear hg
  have HX := Lib.hid hx; clear hx
  obtain ⟨c0, c1, c2⟩ := HG.out.cells
  have q := fun W => doS_ok _ cfRen a b c s ⟨#[]⟩ ⟨#[]⟩ s (fun g W h => renew_ok g a b c s hl W h) W
  go_enter Try.func15, Try.ntmps15
  go_wp2_with fail
  ((with_reducible refine (q _).mono ?_); rintro e W1 ⟨rfl, bt⟩)
  have hx1 := HX.out.below bt
  have hb1 := bch HB0.out bt
  clear c0 c1 c2 bt
  obtain ⟨x0, x1, x2⟩ := hx1.cells
  have f0 := hx1.frozen 0
  have f1 := hx1.frozen 1
  have f2 := hx1.frozen 2
  have HX1 := Lib.hid hx1; clear hx1
  have HB1 := Lib.hid hb1; clear hb1 q
  go_wp2_with fail
  have hfin := HX1.out.put s ⟨#[]⟩ ⟨#[]⟩
  have hbf := ((HB1.out.setCell (p := ⟨w.heap.size + 1, 0, none⟩) (Nat.le_succ _) (.string s)).setCell (p := ⟨w.heap.size + 1, 1, none⟩) (Nat.le_succ _) (.string ⟨#[]⟩)).setCell (p := ⟨w.heap.size + 1, 2, none⟩) (Nat.le_succ _) (.string ⟨#[]⟩)
  obtain ⟨e0, e1, e2⟩ := hfin.cells
  refine bodyPost_ret (v := .tuple #[.agg #[.string s, .string ⟨#[]⟩, .string ⟨#[]⟩], .int .i64 0]) (by simp [results, Try.results15, go_sem, e0, e1, e2]) rfl ⟨rfl, hbf⟩

set_option maxRecDepth 100000 in
set_option maxHeartbeats 2000000 in
theorem swap_no {a b c s : ByteArray} (hs : s.size ≤ 400000) (hl : ¬ s.size ≤ 100000) (w : World) :
    Calls Try.prog 15 #[.agg #[.string a, .string b, .string c], .string s] w fun e w' => e = .returned (.tuple #[.agg #[.string a, .string b, .string c], .int .i64 50]) ∧ Below w.heap.size w w' := by
  have hb0 : Below w.heap.size w ((w.alloc (.cells #[.string a, .string b, .string c] 23)).alloc (.cells #[.string ⟨#[]⟩, .string ⟨#[]⟩, .string ⟨#[]⟩] 23)) := ((Below.refl _ _).alloc (Nat.le_refl _) _).alloc (by simp) _
  have hg : DkBlk ((w.alloc (.cells #[.string a, .string b, .string c] 23)).alloc (.cells #[.string ⟨#[]⟩, .string ⟨#[]⟩, .string ⟨#[]⟩] 23)) w.heap.size a b c := (DkBlk.new w a b c).below ((Below.refl _ _).alloc (Nat.le_refl _) _)
  have hx : DkBlk ((w.alloc (.cells #[.string a, .string b, .string c] 23)).alloc (.cells #[.string ⟨#[]⟩, .string ⟨#[]⟩, .string ⟨#[]⟩] 23)) (w.heap.size + 1) ⟨#[]⟩ ⟨#[]⟩ ⟨#[]⟩ := by
    have h := DkBlk.new (w.alloc (.cells #[.string a, .string b, .string c] 23)) ⟨#[]⟩ ⟨#[]⟩ ⟨#[]⟩
    rw [World.size_alloc] at h
    exact h
  obtain ⟨W0, hW0⟩ : ∃ W, (w.alloc (.cells #[.string a, .string b, .string c] 23)).alloc (.cells #[.string ⟨#[]⟩, .string ⟨#[]⟩, .string ⟨#[]⟩] 23) = W := ⟨_, rfl⟩
  rw [hW0] at hb0 hg hx
  have HB0 := Lib.hid hb0; clear hb0
  have HG := Lib.hid hg; clear hg
  have HX := Lib.hid hx; clear hx
  obtain ⟨c0, c1, c2⟩ := HG.out.cells
  have q := fun W => doS_no _ cfRen a b c a b c s (fun g W h => renew_no g a b c s hs hl W h) W
  go_enter Try.func15, Try.ntmps15
  go_wp2_with fail
  ((with_reducible refine (q _).mono ?_); rintro e W1 ⟨rfl, bt⟩)
  have hx1 := HX.out.below bt
  have hb1 := bch HB0.out bt
  clear c0 c1 c2 bt
  obtain ⟨x0, x1, x2⟩ := hx1.cells
  have f0 := hx1.frozen 0
  have f1 := hx1.frozen 1
  have f2 := hx1.frozen 2
  have HX1 := Lib.hid hx1; clear hx1
  have HB1 := Lib.hid hb1; clear hb1 q
  go_wp2_with fail
  have hfin := HX1.out.put a b c
  have hbf := ((HB1.out.setCell (p := ⟨w.heap.size + 1, 0, none⟩) (Nat.le_succ _) (.string a)).setCell (p := ⟨w.heap.size + 1, 1, none⟩) (Nat.le_succ _) (.string b)).setCell (p := ⟨w.heap.size + 1, 2, none⟩) (Nat.le_succ _) (.string c)
  obtain ⟨e0, e1, e2⟩ := hfin.cells
  refine bodyPost_ret (v := .tuple #[.agg #[.string a, .string b, .string c], .int .i64 50]) (by simp [results, Try.results15, go_sem, e0, e1, e2]) rfl ⟨rfl, hbf⟩

theorem DkBlk.farK {W : World} {b g : Nat} {x y z : ByteArray} (h : DkBlk W b x y z) (hne : b ≠ g) (j : Nat) (u : Value) : DkBlk (W.setCell ⟨g, j, none⟩ u) b x y z := Eq.trans (heap_setCell_other W ⟨g, j, none⟩ b u hne) h

set_option maxRecDepth 100000 in
set_option maxHeartbeats 2000000 in
theorem crash_at {a b c x : ByteArray} {k : Int} (hx : b ++ c.extract 0 (tearN k c.size) = x) (hb : b.size ≤ 400000) (hc : c.size ≤ 400000) (hk : (Lit.int .i64 k).wf = true) (w : World) :
    Calls Try.prog 11 #[.agg #[.string a, .string b, .string c], .int .i64 k] w fun e w' => e = .returned (.agg #[.string a, .string x, .string ⟨#[]⟩]) ∧ Below w.heap.size w w' := by
  have hxx := hx; clear hx
  have hb0 : Below w.heap.size w ((w.alloc (.cells #[.string a, .string b, .string c] 23)).alloc (.cells #[.string ⟨#[]⟩, .string ⟨#[]⟩, .string ⟨#[]⟩] 23)) := ((Below.refl _ _).alloc (Nat.le_refl _) _).alloc (by simp) _
  have hg : DkBlk ((w.alloc (.cells #[.string a, .string b, .string c] 23)).alloc (.cells #[.string ⟨#[]⟩, .string ⟨#[]⟩, .string ⟨#[]⟩] 23)) w.heap.size a b c := (DkBlk.new w a b c).below ((Below.refl _ _).alloc (Nat.le_refl _) _)
  have hx : DkBlk ((w.alloc (.cells #[.string a, .string b, .string c] 23)).alloc (.cells #[.string ⟨#[]⟩, .string ⟨#[]⟩, .string ⟨#[]⟩] 23)) (w.heap.size + 1) ⟨#[]⟩ ⟨#[]⟩ ⟨#[]⟩ := by
    have h := DkBlk.new (w.alloc (.cells #[.string a, .string b, .string c] 23)) ⟨#[]⟩ ⟨#[]⟩ ⟨#[]⟩
    rw [World.size_alloc] at h
    exact h
  obtain ⟨W0, hW0⟩ : ∃ W, (w.alloc (.cells #[.string a, .string b, .string c] 23)).alloc (.cells #[.string ⟨#[]⟩, .string ⟨#[]⟩, .string ⟨#[]⟩] 23) = W := ⟨_, rfl⟩
  rw [hW0] at hb0 hg hx
  have HB0 := Lib.hid hb0; clear hb0
  have HG := Lib.hid hg; clear hg
  have HX := Lib.hid hx; clear hx
  obtain ⟨c0, c1, c2⟩ := HG.out.cells
  have g0 := HG.out.frozen 0
  have g1 := HG.out.frozen 1
  have g2 := HG.out.frozen 2
  have q := fun W => doI_ok _ cfSet a b c a x ⟨#[]⟩ k (fun g W h => settle_at scloneK g a b c x k hxx hb hc hk W h) W
  go_enter Try.func11, Try.ntmps11
  go_wp2_with fail
  ((with_reducible refine (q _).mono ?_); rintro e W1 ⟨rfl, bt⟩)
  have hx1 := HX.out.below bt
  have hg1 := HG.out.below bt
  have hb1 := bch HB0.out bt
  clear c0 c1 c2 bt g0 g1 g2
  obtain ⟨c0, c1, c2⟩ := hg1.cells
  have g0 := hg1.frozen 0
  have g1 := hg1.frozen 1
  have g2 := hg1.frozen 2
  have hg2 := hg1.put a x ⟨#[]⟩
  have hx2 := ((hx1.farK (g := w.heap.size) (by omega) 0 (.string a)).farK (g := w.heap.size) (by omega) 1 (.string x)).farK (g := w.heap.size) (by omega) 2 (.string ⟨#[]⟩)
  have hb2 := ((hb1.setCell (p := ⟨w.heap.size, 0, none⟩) (Nat.le_refl _) (.string a)).setCell (p := ⟨w.heap.size, 1, none⟩) (Nat.le_refl _) (.string x)).setCell (p := ⟨w.heap.size, 2, none⟩) (Nat.le_refl _) (.string ⟨#[]⟩)
  clear hx1 hg1 hb1
  have HG2 := Lib.hid hg2; clear hg2
  have HX2 := Lib.hid hx2; clear hx2
  have HB2 := Lib.hid hb2; clear hb2 q
  go_upto_region 2 with fail
  have hx1 := HX2.out
  have hb1 := HB2.out
  have hg1 := HG2.out
  clear c0 c1 c2 g0 g1 g2 HX2 HB2 HG2
  obtain ⟨V, hV⟩ : ∃ W, ((W1.setCell ⟨w.heap.size, 0, none⟩ (.string a)).setCell ⟨w.heap.size, 1, none⟩ (.string x)).setCell ⟨w.heap.size, 2, none⟩ (.string ⟨#[]⟩) = W := ⟨_, rfl⟩
  rw [hV] at hx1 hb1 hg1 ⊢
  clear hV
  obtain ⟨c0, c1, c2⟩ := hg1.cells
  obtain ⟨x0, x1, x2⟩ := hx1.cells
  have f0 := hx1.frozen 0
  have f1 := hx1.frozen 1
  have f2 := hx1.frozen 2
  have HX1 := Lib.hid hx1; clear hx1
  have HB1 := Lib.hid hb1; clear hb1 hg1
  go_wp2_with fail
  have hfin := HX1.out.put a x ⟨#[]⟩
  have hbf := ((HB1.out.setCell (p := ⟨w.heap.size + 1, 0, none⟩) (Nat.le_succ _) (.string a)).setCell (p := ⟨w.heap.size + 1, 1, none⟩) (Nat.le_succ _) (.string x)).setCell (p := ⟨w.heap.size + 1, 2, none⟩) (Nat.le_succ _) (.string ⟨#[]⟩)
  obtain ⟨e0, e1, e2⟩ := hfin.cells
  refine bodyPost_ret (v := .agg #[.string a, .string x, .string ⟨#[]⟩]) (by simp [results, Try.results11, go_sem, e0, e1, e2]) rfl ⟨rfl, hbf⟩

set_option maxRecDepth 100000 in
set_option maxHeartbeats 2000000 in
theorem sync_at {a b c x : ByteArray} (hx : b ++ c = x) (hb : b.size ≤ 400000) (hc : c.size ≤ 400000) (w : World) :
    Calls Try.prog 17 #[.agg #[.string a, .string b, .string c]] w fun e w' => e = .returned (.agg #[.string a, .string x, .string ⟨#[]⟩]) ∧ Below w.heap.size w w' := by
  have hxx : b ++ c.extract 0 (tearN (c.size : Int) c.size) = x := by
    have ht : tearN (c.size : Int) c.size = c.size := by unfold tearN; omega
    rw [ht, ByteArray.extract_zero_size]
    exact hx
  have hk : (Lit.int .i64 (c.size : Int)).wf = true := by
    rw [show (Lit.int .i64 (c.size : Int)).wf = (decide (-9223372036854775808 ≤ (c.size : Int)) && decide ((c.size : Int) ≤ 9223372036854775807)) from rfl]
    simp; omega
  clear hx
  have hb0 : Below w.heap.size w ((w.alloc (.cells #[.string a, .string b, .string c] 23)).alloc (.cells #[.string ⟨#[]⟩, .string ⟨#[]⟩, .string ⟨#[]⟩] 23)) := ((Below.refl _ _).alloc (Nat.le_refl _) _).alloc (by simp) _
  have hg : DkBlk ((w.alloc (.cells #[.string a, .string b, .string c] 23)).alloc (.cells #[.string ⟨#[]⟩, .string ⟨#[]⟩, .string ⟨#[]⟩] 23)) w.heap.size a b c := (DkBlk.new w a b c).below ((Below.refl _ _).alloc (Nat.le_refl _) _)
  have hx : DkBlk ((w.alloc (.cells #[.string a, .string b, .string c] 23)).alloc (.cells #[.string ⟨#[]⟩, .string ⟨#[]⟩, .string ⟨#[]⟩] 23)) (w.heap.size + 1) ⟨#[]⟩ ⟨#[]⟩ ⟨#[]⟩ := by
    have h := DkBlk.new (w.alloc (.cells #[.string a, .string b, .string c] 23)) ⟨#[]⟩ ⟨#[]⟩ ⟨#[]⟩
    rw [World.size_alloc] at h
    exact h
  obtain ⟨W0, hW0⟩ : ∃ W, (w.alloc (.cells #[.string a, .string b, .string c] 23)).alloc (.cells #[.string ⟨#[]⟩, .string ⟨#[]⟩, .string ⟨#[]⟩] 23) = W := ⟨_, rfl⟩
  rw [hW0] at hb0 hg hx
  have HB0 := Lib.hid hb0; clear hb0
  have HG := Lib.hid hg; clear hg
  have HX := Lib.hid hx; clear hx
  obtain ⟨c0, c1, c2⟩ := HG.out.cells
  have g0 := HG.out.frozen 0
  have g1 := HG.out.frozen 1
  have g2 := HG.out.frozen 2
  have q := fun W => doI_ok _ cfSet a b c a x ⟨#[]⟩ (c.size : Int) (fun g W h => settle_at scloneK g a b c x (c.size : Int) hxx hb hc hk W h) W
  go_enter Try.func17, Try.ntmps17
  go_wp2_with fail
  ((with_reducible refine (q _).mono ?_); rintro e W1 ⟨rfl, bt⟩)
  have hx1 := HX.out.below bt
  have hg1 := HG.out.below bt
  have hb1 := bch HB0.out bt
  clear c0 c1 c2 bt g0 g1 g2
  obtain ⟨c0, c1, c2⟩ := hg1.cells
  have g0 := hg1.frozen 0
  have g1 := hg1.frozen 1
  have g2 := hg1.frozen 2
  have hg2 := hg1.put a x ⟨#[]⟩
  have hx2 := ((hx1.farK (g := w.heap.size) (by omega) 0 (.string a)).farK (g := w.heap.size) (by omega) 1 (.string x)).farK (g := w.heap.size) (by omega) 2 (.string ⟨#[]⟩)
  have hb2 := ((hb1.setCell (p := ⟨w.heap.size, 0, none⟩) (Nat.le_refl _) (.string a)).setCell (p := ⟨w.heap.size, 1, none⟩) (Nat.le_refl _) (.string x)).setCell (p := ⟨w.heap.size, 2, none⟩) (Nat.le_refl _) (.string ⟨#[]⟩)
  clear hx1 hg1 hb1
  have HG2 := Lib.hid hg2; clear hg2
  have HX2 := Lib.hid hx2; clear hx2
  have HB2 := Lib.hid hb2; clear hb2 q
  go_upto_region 2 with fail
  have hx1 := HX2.out
  have hb1 := HB2.out
  have hg1 := HG2.out
  clear c0 c1 c2 g0 g1 g2 HX2 HB2 HG2
  obtain ⟨V, hV⟩ : ∃ W, ((W1.setCell ⟨w.heap.size, 0, none⟩ (.string a)).setCell ⟨w.heap.size, 1, none⟩ (.string x)).setCell ⟨w.heap.size, 2, none⟩ (.string ⟨#[]⟩) = W := ⟨_, rfl⟩
  rw [hV] at hx1 hb1 hg1 ⊢
  clear hV
  obtain ⟨c0, c1, c2⟩ := hg1.cells
  obtain ⟨x0, x1, x2⟩ := hx1.cells
  have f0 := hx1.frozen 0
  have f1 := hx1.frozen 1
  have f2 := hx1.frozen 2
  have HX1 := Lib.hid hx1; clear hx1
  have HB1 := Lib.hid hb1; clear hb1 hg1
  go_wp2_with fail
  have hfin := HX1.out.put a x ⟨#[]⟩
  have hbf := ((HB1.out.setCell (p := ⟨w.heap.size + 1, 0, none⟩) (Nat.le_succ _) (.string a)).setCell (p := ⟨w.heap.size + 1, 1, none⟩) (Nat.le_succ _) (.string x)).setCell (p := ⟨w.heap.size + 1, 2, none⟩) (Nat.le_succ _) (.string ⟨#[]⟩)
  obtain ⟨e0, e1, e2⟩ := hfin.cells
  refine bodyPost_ret (v := .agg #[.string a, .string x, .string ⟨#[]⟩]) (by simp [results, Try.results17, go_sem, e0, e1, e2]) rfl ⟨rfl, hbf⟩

theorem crashC : CrashC := fun a b c k hb hc hk w => crash_at rfl hb hc hk w
theorem syncC : SyncC := fun a b c hb hc w => sync_at rfl hb hc w
theorem appC : AppC := fun a b c s hb hc hs w => by
  by_cases hl : b.size + c.size + s.size ≤ 100000
  · rw [if_pos hl]; exact append_ok rfl hl w
  · rw [if_neg hl]; exact append_no hb hc hs hl w
theorem swapC : SwapC := fun a b c s hs w => by
  by_cases hl : s.size ≤ 100000
  · rw [if_pos hl]; exact swap_ok hl w
  · rw [if_neg hl]; exact swap_no hs hl w
end Go.Proofs.Ytbncaolflhmgpaa
