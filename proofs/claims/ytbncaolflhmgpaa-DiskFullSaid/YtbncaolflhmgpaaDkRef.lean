import Derived.Test.YtbncaolflhmgpaaDk
import Derived.Test.YtbncaolflhmgpaaStr
/-
  The contracts of the document's own Log, Append, Sync, Crash and Swap (stage 7).
-/
namespace Go.Proofs.Ytbncaolflhmgpaa
open Go.RowKit
set_option linter.unusedVariables false

theorem dk_keep {x : Nat} {w0 W W' : World} {v0 v1 v2 : Value}
    (h : W.cell? ⟨x, 0, none⟩ = some v0 ∧ W.cell? ⟨x, 1, none⟩ = some v1 ∧ W.cell? ⟨x, 2, none⟩ = some v2 ∧ Below w0.heap.size w0 W) (b : Below W.heap.size W W') :
    W'.cell? ⟨x, 0, none⟩ = some v0 ∧ W'.cell? ⟨x, 1, none⟩ = some v1 ∧ W'.cell? ⟨x, 2, none⟩ = some v2 ∧ Below w0.heap.size w0 W' := by
  obtain ⟨h0, h1, h2, h6⟩ := h
  have hlt := lt_of_cell (a := ⟨x, 0, none⟩) h0
  exact ⟨(b.cell (p := ⟨x, 0, none⟩) hlt).trans h0, (b.cell (p := ⟨x, 1, none⟩) hlt).trans h1, (b.cell (p := ⟨x, 2, none⟩) hlt).trans h2, bch h6 b⟩

set_option maxRecDepth 100000 in
set_option maxHeartbeats 1000000 in
theorem reflog_at {a b c x : ByteArray} (hx : b ++ c = x) (hb : b.size ≤ 400000) (hc : c.size ≤ 400000) (w : World) :
    Calls Try.prog 20 #[.agg #[.string a, .string b, .string c]] w fun e w' => e = .returned (.string x) ∧ Below w.heap.size w w' := by
  have hadd : ∀ W : World, (Op.stringOp .add b c).run Try.prog W = .ok (.string x) W := fun W => by rw [← hx]; exact str_add (by omega) W
  obtain ⟨c0, c1, c2⟩ := (DkBlk.new w a b c).cells
  go_enter Try.func20, Try.ntmps20
  go_wp2_with fail
  go_ret
  exact ⟨rfl, (Below.refl _ _).alloc (Nat.le_refl _) _⟩

set_option maxRecDepth 100000 in
set_option maxHeartbeats 4000000 in
theorem refapp_ok {a b c s x : ByteArray} (hcs : c ++ s = x) (hl : b.size + c.size + s.size ≤ 100000) (w : World) :
    Calls Try.prog 14 #[.agg #[.string a, .string b, .string c], .string s] w fun e w' => e = .returned (.tuple #[.agg #[.string a, .string b, .string x], .int .i64 0]) ∧ Below w.heap.size w w' := by
  obtain ⟨y, hy⟩ : ∃ y, b ++ c = y := ⟨_, rfl⟩
  have zy : y.size = b.size + c.size := by rw [← hy]; exact ByteArray.size_append
  have q := fun W => reflog_at (a := a) hy (by omega) (by omega) W
  have hadd : ∀ W : World, (Op.stringOp .add c s).run Try.prog W = .ok (.string x) W := fun W => by rw [← hcs]; exact str_add (by omega) W
  have h1 : (y.size : Int) + (s.size : Int) ≤ 100000 := by omega
  clear hy hcs
  have hb0 : Below w.heap.size w ((w.alloc (.cells #[.string a, .string b, .string c] 23)).alloc (.cells #[.string ⟨#[]⟩, .string ⟨#[]⟩, .string ⟨#[]⟩] 23)) := ((Below.refl _ _).alloc (Nat.le_refl _) _).alloc (by simp) _
  have hg : DkBlk ((w.alloc (.cells #[.string a, .string b, .string c] 23)).alloc (.cells #[.string ⟨#[]⟩, .string ⟨#[]⟩, .string ⟨#[]⟩] 23)) w.heap.size a b c := (DkBlk.new w a b c).below ((Below.refl _ _).alloc (Nat.le_refl _) _)
  have hx : DkBlk ((w.alloc (.cells #[.string a, .string b, .string c] 23)).alloc (.cells #[.string ⟨#[]⟩, .string ⟨#[]⟩, .string ⟨#[]⟩] 23)) (w.heap.size + 1) ⟨#[]⟩ ⟨#[]⟩ ⟨#[]⟩ := by
    have h := DkBlk.new (w.alloc (.cells #[.string a, .string b, .string c] 23)) ⟨#[]⟩ ⟨#[]⟩ ⟨#[]⟩
    rw [World.size_alloc] at h
    exact h
  obtain ⟨W0, hW0⟩ : ∃ W, (w.alloc (.cells #[.string a, .string b, .string c] 23)).alloc (.cells #[.string ⟨#[]⟩, .string ⟨#[]⟩, .string ⟨#[]⟩] 23) = W := ⟨_, rfl⟩
  rw [hW0] at hb0 hg hx
  have HB0 := Lib.hid hb0; clear hb0
  have HG := Lib.hid hg; clear hg
  have HX := Lib.hid hx; clear hx
  obtain ⟨c0, c1, c2⟩ := HG.out.cells
  go_enter Try.func14, Try.ntmps14
  go_wp2_with fail
  ((with_reducible refine (q _).mono ?_); rintro e W1 ⟨rfl, b1⟩)
  clear c0 c1 c2
  have hxe := HX.out.below b1
  obtain ⟨d0, d1, d2⟩ := hxe.cells
  have f0 := hxe.frozen 0
  have f1 := hxe.frozen 1
  have f2 := hxe.frozen 2
  obtain ⟨c0, c1, c2⟩ := (HG.out.below b1).cells
  have HXE := Lib.hid hxe; clear hxe
  have HBE := Lib.hid b1; clear b1
  go_wp2_with fail
  have hfin := HXE.out.put a b x
  have hbf := (((bch HB0.out HBE.out).setCell (p := ⟨w.heap.size + 1, 0, none⟩) (Nat.le_succ _) (.string a)).setCell (p := ⟨w.heap.size + 1, 1, none⟩) (Nat.le_succ _) (.string b)).setCell (p := ⟨w.heap.size + 1, 2, none⟩) (Nat.le_succ _) (.string x)
  obtain ⟨e0, e1, e2⟩ := hfin.cells
  refine bodyPost_ret (v := .tuple #[.agg #[.string a, .string b, .string x], .int .i64 0]) (by simp [results, Try.results14, go_sem, e0, e1, e2]) rfl ⟨rfl, hbf⟩

set_option maxRecDepth 100000 in
set_option maxHeartbeats 4000000 in
theorem refapp_no {a b c s : ByteArray} (hb : b.size ≤ 400000) (hc : c.size ≤ 400000) (hs : s.size ≤ 400000) (hl : ¬ b.size + c.size + s.size ≤ 100000) (w : World) :
    Calls Try.prog 14 #[.agg #[.string a, .string b, .string c], .string s] w fun e w' => e = .returned (.tuple #[.agg #[.string a, .string b, .string c], .int .i64 50]) ∧ Below w.heap.size w w' := by
  obtain ⟨y, hy⟩ : ∃ y, b ++ c = y := ⟨_, rfl⟩
  have zy : y.size = b.size + c.size := by rw [← hy]; exact ByteArray.size_append
  have q := fun W => reflog_at (a := a) hy (by omega) (by omega) W
  have h1 : (100000 : Int) < (y.size : Int) + (s.size : Int) := by omega
  have h2 : (y.size : Int) ≤ 800000 := by omega
  clear hy hl
  have hb0 : Below w.heap.size w ((w.alloc (.cells #[.string a, .string b, .string c] 23)).alloc (.cells #[.string ⟨#[]⟩, .string ⟨#[]⟩, .string ⟨#[]⟩] 23)) := ((Below.refl _ _).alloc (Nat.le_refl _) _).alloc (by simp) _
  have hg : DkBlk ((w.alloc (.cells #[.string a, .string b, .string c] 23)).alloc (.cells #[.string ⟨#[]⟩, .string ⟨#[]⟩, .string ⟨#[]⟩] 23)) w.heap.size a b c := (DkBlk.new w a b c).below ((Below.refl _ _).alloc (Nat.le_refl _) _)
  have hx : DkBlk ((w.alloc (.cells #[.string a, .string b, .string c] 23)).alloc (.cells #[.string ⟨#[]⟩, .string ⟨#[]⟩, .string ⟨#[]⟩] 23)) (w.heap.size + 1) ⟨#[]⟩ ⟨#[]⟩ ⟨#[]⟩ := by
    have h := DkBlk.new (w.alloc (.cells #[.string a, .string b, .string c] 23)) ⟨#[]⟩ ⟨#[]⟩ ⟨#[]⟩
    rw [World.size_alloc] at h
    exact h
  obtain ⟨W0, hW0⟩ : ∃ W, (w.alloc (.cells #[.string a, .string b, .string c] 23)).alloc (.cells #[.string ⟨#[]⟩, .string ⟨#[]⟩, .string ⟨#[]⟩] 23) = W := ⟨_, rfl⟩
  rw [hW0] at hb0 hg hx
  have HB0 := Lib.hid hb0; clear hb0
  have HG := Lib.hid hg; clear hg
  have HX := Lib.hid hx; clear hx
  obtain ⟨c0, c1, c2⟩ := HG.out.cells
  go_enter Try.func14, Try.ntmps14
  go_wp2_with fail
  ((with_reducible refine (q _).mono ?_); rintro e W1 ⟨rfl, b1⟩)
  clear c0 c1 c2
  have hxe := HX.out.below b1
  obtain ⟨d0, d1, d2⟩ := hxe.cells
  have f0 := hxe.frozen 0
  have f1 := hxe.frozen 1
  have f2 := hxe.frozen 2
  obtain ⟨c0, c1, c2⟩ := (HG.out.below b1).cells
  have HXE := Lib.hid hxe; clear hxe
  have HBE := Lib.hid b1; clear b1
  go_wp2_with fail
  have hfin := HXE.out.put a b c
  have hbf := (((bch HB0.out HBE.out).setCell (p := ⟨w.heap.size + 1, 0, none⟩) (Nat.le_succ _) (.string a)).setCell (p := ⟨w.heap.size + 1, 1, none⟩) (Nat.le_succ _) (.string b)).setCell (p := ⟨w.heap.size + 1, 2, none⟩) (Nat.le_succ _) (.string c)
  obtain ⟨e0, e1, e2⟩ := hfin.cells
  refine bodyPost_ret (v := .tuple #[.agg #[.string a, .string b, .string c], .int .i64 50]) (by simp [results, Try.results14, go_sem, e0, e1, e2]) rfl ⟨rfl, hbf⟩

set_option maxRecDepth 100000 in
set_option maxHeartbeats 4000000 in
theorem refswap_ok {a b c s : ByteArray} (hl : s.size ≤ 100000) (w : World) :
    Calls Try.prog 16 #[.agg #[.string a, .string b, .string c], .string s] w fun e w' => e = .returned (.tuple #[.agg #[.string s, .string ⟨#[]⟩, .string ⟨#[]⟩], .int .i64 0]) ∧ Below w.heap.size w w' := by
  have hb0 : Below w.heap.size w ((w.alloc (.cells #[.string a, .string b, .string c] 23)).alloc (.cells #[.string ⟨#[]⟩, .string ⟨#[]⟩, .string ⟨#[]⟩] 23)) := ((Below.refl _ _).alloc (Nat.le_refl _) _).alloc (by simp) _
  have hg : DkBlk ((w.alloc (.cells #[.string a, .string b, .string c] 23)).alloc (.cells #[.string ⟨#[]⟩, .string ⟨#[]⟩, .string ⟨#[]⟩] 23)) w.heap.size a b c := (DkBlk.new w a b c).below ((Below.refl _ _).alloc (Nat.le_refl _) _)
  have hx : DkBlk ((w.alloc (.cells #[.string a, .string b, .string c] 23)).alloc (.cells #[.string ⟨#[]⟩, .string ⟨#[]⟩, .string ⟨#[]⟩] 23)) (w.heap.size + 1) ⟨#[]⟩ ⟨#[]⟩ ⟨#[]⟩ := by
    have h := DkBlk.new (w.alloc (.cells #[.string a, .string b, .string c] 23)) ⟨#[]⟩ ⟨#[]⟩ ⟨#[]⟩
    rw [World.size_alloc] at h
    exact h
  obtain ⟨W0, hW0⟩ : ∃ W, (w.alloc (.cells #[.string a, .string b, .string c] 23)).alloc (.cells #[.string ⟨#[]⟩, .string ⟨#[]⟩, .string ⟨#[]⟩] 23) = W := ⟨_, rfl⟩
  rw [hW0] at hb0 hg hx
  have HB0 := Lib.hid hb0; clear hb0
  have HG := Lib.hid hg; clear hg
  have HX := Lib.hid hx; clear hx
  have b1 := Below.refl W0.heap.size W0
  go_enter Try.func16, Try.ntmps16
  have hxe := HX.out.below b1
  obtain ⟨d0, d1, d2⟩ := hxe.cells
  have f0 := hxe.frozen 0
  have f1 := hxe.frozen 1
  have f2 := hxe.frozen 2
  obtain ⟨c0, c1, c2⟩ := (HG.out.below b1).cells
  have HXE := Lib.hid hxe; clear hxe
  have HBE := Lib.hid b1; clear b1
  go_wp2_with fail
  have hfin := HXE.out.put s ⟨#[]⟩ ⟨#[]⟩
  have hbf := (((bch HB0.out HBE.out).setCell (p := ⟨w.heap.size + 1, 0, none⟩) (Nat.le_succ _) (.string s)).setCell (p := ⟨w.heap.size + 1, 1, none⟩) (Nat.le_succ _) (.string ⟨#[]⟩)).setCell (p := ⟨w.heap.size + 1, 2, none⟩) (Nat.le_succ _) (.string ⟨#[]⟩)
  obtain ⟨e0, e1, e2⟩ := hfin.cells
  refine bodyPost_ret (v := .tuple #[.agg #[.string s, .string ⟨#[]⟩, .string ⟨#[]⟩], .int .i64 0]) (by simp [results, Try.results16, go_sem, e0, e1, e2]) rfl ⟨rfl, hbf⟩

set_option maxRecDepth 100000 in
set_option maxHeartbeats 4000000 in
theorem refswap_no {a b c s : ByteArray} (hs : s.size ≤ 400000) (hl : ¬ s.size ≤ 100000) (w : World) :
    Calls Try.prog 16 #[.agg #[.string a, .string b, .string c], .string s] w fun e w' => e = .returned (.tuple #[.agg #[.string a, .string b, .string c], .int .i64 50]) ∧ Below w.heap.size w w' := by
  have h1 : (100000 : Int) < (s.size : Int) := by omega
  clear hl
  have hb0 : Below w.heap.size w ((w.alloc (.cells #[.string a, .string b, .string c] 23)).alloc (.cells #[.string ⟨#[]⟩, .string ⟨#[]⟩, .string ⟨#[]⟩] 23)) := ((Below.refl _ _).alloc (Nat.le_refl _) _).alloc (by simp) _
  have hg : DkBlk ((w.alloc (.cells #[.string a, .string b, .string c] 23)).alloc (.cells #[.string ⟨#[]⟩, .string ⟨#[]⟩, .string ⟨#[]⟩] 23)) w.heap.size a b c := (DkBlk.new w a b c).below ((Below.refl _ _).alloc (Nat.le_refl _) _)
  have hx : DkBlk ((w.alloc (.cells #[.string a, .string b, .string c] 23)).alloc (.cells #[.string ⟨#[]⟩, .string ⟨#[]⟩, .string ⟨#[]⟩] 23)) (w.heap.size + 1) ⟨#[]⟩ ⟨#[]⟩ ⟨#[]⟩ := by
    have h := DkBlk.new (w.alloc (.cells #[.string a, .string b, .string c] 23)) ⟨#[]⟩ ⟨#[]⟩ ⟨#[]⟩
    rw [World.size_alloc] at h
    exact h
  obtain ⟨W0, hW0⟩ : ∃ W, (w.alloc (.cells #[.string a, .string b, .string c] 23)).alloc (.cells #[.string ⟨#[]⟩, .string ⟨#[]⟩, .string ⟨#[]⟩] 23) = W := ⟨_, rfl⟩
  rw [hW0] at hb0 hg hx
  have HB0 := Lib.hid hb0; clear hb0
  have HG := Lib.hid hg; clear hg
  have HX := Lib.hid hx; clear hx
  have b1 := Below.refl W0.heap.size W0
  go_enter Try.func16, Try.ntmps16
  have hxe := HX.out.below b1
  obtain ⟨d0, d1, d2⟩ := hxe.cells
  have f0 := hxe.frozen 0
  have f1 := hxe.frozen 1
  have f2 := hxe.frozen 2
  obtain ⟨c0, c1, c2⟩ := (HG.out.below b1).cells
  have HXE := Lib.hid hxe; clear hxe
  have HBE := Lib.hid b1; clear b1
  go_wp2_with fail
  have hfin := HXE.out.put a b c
  have hbf := (((bch HB0.out HBE.out).setCell (p := ⟨w.heap.size + 1, 0, none⟩) (Nat.le_succ _) (.string a)).setCell (p := ⟨w.heap.size + 1, 1, none⟩) (Nat.le_succ _) (.string b)).setCell (p := ⟨w.heap.size + 1, 2, none⟩) (Nat.le_succ _) (.string c)
  obtain ⟨e0, e1, e2⟩ := hfin.cells
  refine bodyPost_ret (v := .tuple #[.agg #[.string a, .string b, .string c], .int .i64 50]) (by simp [results, Try.results16, go_sem, e0, e1, e2]) rfl ⟨rfl, hbf⟩

theorem DkBlk.far {W : World} {b g : Nat} {x y z : ByteArray} (h : DkBlk W b x y z) (hne : b ≠ g) (j : Nat) (u : Value) : DkBlk (W.setCell ⟨g, j, none⟩ u) b x y z := Eq.trans (heap_setCell_other W ⟨g, j, none⟩ b u hne) h
set_option maxRecDepth 100000 in
set_option maxHeartbeats 4000000 in
theorem refsync_at {a b c x : ByteArray} (hx : b ++ c = x) (hb : b.size ≤ 400000) (hc : c.size ≤ 400000) (w : World) :
    Calls Try.prog 18 #[.agg #[.string a, .string b, .string c]] w fun e w' => e = .returned (.agg #[.string a, .string x, .string ⟨#[]⟩]) ∧ Below w.heap.size w w' := by
  have q := fun W => reflog_at (a := a) hx hb hc W
  have hb0 : Below w.heap.size w ((w.alloc (.cells #[.string a, .string b, .string c] 23)).alloc (.cells #[.string ⟨#[]⟩, .string ⟨#[]⟩, .string ⟨#[]⟩] 23)) := ((Below.refl _ _).alloc (Nat.le_refl _) _).alloc (by simp) _
  have hg : DkBlk ((w.alloc (.cells #[.string a, .string b, .string c] 23)).alloc (.cells #[.string ⟨#[]⟩, .string ⟨#[]⟩, .string ⟨#[]⟩] 23)) w.heap.size a b c := (DkBlk.new w a b c).below ((Below.refl _ _).alloc (Nat.le_refl _) _)
  have hx : DkBlk ((w.alloc (.cells #[.string a, .string b, .string c] 23)).alloc (.cells #[.string ⟨#[]⟩, .string ⟨#[]⟩, .string ⟨#[]⟩] 23)) (w.heap.size + 1) ⟨#[]⟩ ⟨#[]⟩ ⟨#[]⟩ := by
    have h := DkBlk.new (w.alloc (.cells #[.string a, .string b, .string c] 23)) ⟨#[]⟩ ⟨#[]⟩ ⟨#[]⟩
    rw [World.size_alloc] at h
    exact h
  obtain ⟨W0, hW0⟩ : ∃ W, (w.alloc (.cells #[.string a, .string b, .string c] 23)).alloc (.cells #[.string ⟨#[]⟩, .string ⟨#[]⟩, .string ⟨#[]⟩] 23) = W := ⟨_, rfl⟩
  rw [hW0] at hb0 hg hx
  have HB0 := Lib.hid hb0; clear hb0
  have HG := Lib.hid hg; clear hg
  have HX := Lib.hid hx; clear hx
  go_enter Try.func18, Try.ntmps18
  go_wp2_with fail
  refine wp_region_noPanic ?_
  refine wp_region_held_drew (S := fun W => Below w.heap.size w W ∧ DkBlk W w.heap.size a b c) (by kernel_rfl) (⟨HB0.out.drew, HG.out.drew⟩) (fun hHeld => ?_)
  refine wpAnyH_take (i := 0) (v := ?_) rfl (by kernel_rfl) (by kernel_rfl) (by kernel_rfl) (fun _ _ _ h => h) (Or.inl ⟨by rfl, ?_⟩) (by assumption) ?_
  rotate_left
  · (intro w hSw; (try dsimp only at hSw); go_simp; (try with_reducible rfl))
  simp only [Act.put, List.getElem_toArray, List.getElem_cons_zero, List.setIfInBounds_toArray, List.set_cons_zero, List.set_cons_succ]
  refine wpAnyH_take (i := 1) (v := ?_) rfl (by kernel_rfl) (by kernel_rfl) (by kernel_rfl) (fun _ _ _ h => h) (Or.inl ⟨by rfl, ?_⟩) (by assumption) ?_
  rotate_left
  · (intro w hSw; (try dsimp only at hSw); obtain ⟨c0, c1, c2⟩ := hSw.2.cells; go_simp; (try with_reducible rfl))
  simp only [Act.put, List.getElem_toArray, List.getElem_cons_zero, List.getElem_cons_succ, List.setIfInBounds_toArray, List.set_cons_zero, List.set_cons_succ]
  refine wpAnyH_take (i := 2) (v := ?_) rfl (by kernel_rfl) (by kernel_rfl) (by kernel_rfl) (fun _ _ _ h => h) (Or.inl ⟨by rfl, ?_⟩) (by assumption) ?_
  rotate_left
  · (intro w hSw; (try dsimp only at hSw); obtain ⟨c0, c1, c2⟩ := hSw.2.cells; go_simp; (try with_reducible rfl))
  simp only [Act.put, List.getElem_toArray, List.getElem_cons_zero, List.getElem_cons_succ, List.setIfInBounds_toArray, List.set_cons_zero, List.set_cons_succ]
  refine wpAnyH_ready (rs := [3]) (by kernel_rfl) (by simp) ?_
  refine AllReadyH.cons rfl (fun K hK => ?_) AllReadyH.nil
  rw [if_pos (by rfl)]
  go_simp
  ((with_reducible refine (q _).mono ?_); rintro e w' ⟨rfl, bq⟩)
  refine hK.out _ _ (⟨bch hHeld.1 bq, hHeld.2.below bq⟩) (fun hHeld2 => ?_)
  clear hK K hHeld
  have hHeld := hHeld2; clear hHeld2
  refine wpAnyH_take (i := 4) (v := ?_) rfl (by kernel_rfl) (by kernel_rfl) (by kernel_rfl) (fun _ _ _ h => h) (Or.inl ⟨by rfl, ?_⟩) (by assumption) ?_
  rotate_left
  · (intro w hSw; (try dsimp only at hSw); go_simp; (try with_reducible rfl))
  simp only [Act.put, List.getElem_toArray, List.getElem_cons_zero, List.getElem_cons_succ, List.setIfInBounds_toArray, List.set_cons_zero, List.set_cons_succ]
  have hxe := HX.out.drew.below bq
  obtain ⟨d0, d1, d2⟩ := hxe.cells
  have f0 := hxe.frozen 0
  have f1 := hxe.frozen 1
  have f2 := hxe.frozen 2
  have HXE := Lib.hid hxe; clear hxe
  refine wpAnyH_ready (rs := [5]) (by kernel_rfl) (by simp) ?_
  refine AllReadyH.cons rfl (fun K hK => ?_) AllReadyH.nil
  rw [if_pos (by rfl)]
  go_simp
  refine hK.out _ _ (⟨((hHeld.1.setCell (p := ⟨w.heap.size + 1, 0, none⟩) (Nat.le_succ _) _).setCell (p := ⟨w.heap.size + 1, 1, none⟩) (Nat.le_succ _) _).setCell (p := ⟨w.heap.size + 1, 2, none⟩) (Nat.le_succ _) _, ((hHeld.2.far (by omega) _ _).far (by omega) _ _).far (by omega) _ _⟩) (fun hHeld2 => ?_)
  clear hK K hHeld
  have hHeld := hHeld2; clear hHeld2
  refine wpAnyH_done (by kernel_rfl) ?_ _
  refine NoPanic.normal ?_
  have hfin := HXE.out.put a x ⟨#[]⟩
  obtain ⟨e0, e1, e2⟩ := hfin.cells
  have hbf := hHeld.1
  clear d0 d1 d2 hHeld
  go_wp2_with fail
  refine bodyPost_ret (v := .agg #[.string a, .string x, .string ⟨#[]⟩]) (by simp [results, Try.results18, go_sem, e0, e1, e2]) rfl ⟨rfl, hbf⟩

set_option maxRecDepth 100000 in
set_option maxHeartbeats 4000000 in
theorem refcrash_at {a b c x : ByteArray} {k : Int} (hx : b ++ c.extract 0 (tearN k c.size) = x) (hb : b.size ≤ 400000) (hc : c.size ≤ 400000) (hk : (Lit.int .i64 k).wf = true) (w : World) :
    Calls Try.prog 12 #[.agg #[.string a, .string b, .string c], .int .i64 k] w fun e w' => e = .returned (.agg #[.string a, .string x, .string ⟨#[]⟩]) ∧ Below w.heap.size w w' := by
  have hkb := bounds_i64 hk
  obtain ⟨m, hm⟩ : ∃ m, tearN k c.size = m := ⟨_, rfl⟩
  have hml := tearN_le k c.size
  rw [hm] at hml hx
  obtain ⟨y, hy⟩ : ∃ y, c.extract 0 m = y := ⟨_, rfl⟩
  have zy : y.size = m := by rw [← hy]; exact ext_size c hml
  have hsl := fun W => slice_to hy hml W
  rw [hy] at hx
  have hadd : ∀ W : World, (Op.stringOp .add b y).run Try.prog W = .ok (.string x) W := fun W => by rw [← hx]; exact str_add (by omega) W
  unfold tearN at hm
  have hb0 : Below w.heap.size w ((w.alloc (.cells #[.string a, .string b, .string c] 23)).alloc (.cells #[.string ⟨#[]⟩, .string ⟨#[]⟩, .string ⟨#[]⟩] 23)) := ((Below.refl _ _).alloc (Nat.le_refl _) _).alloc (by simp) _
  have hg : DkBlk ((w.alloc (.cells #[.string a, .string b, .string c] 23)).alloc (.cells #[.string ⟨#[]⟩, .string ⟨#[]⟩, .string ⟨#[]⟩] 23)) w.heap.size a b c := (DkBlk.new w a b c).below ((Below.refl _ _).alloc (Nat.le_refl _) _)
  have hx : DkBlk ((w.alloc (.cells #[.string a, .string b, .string c] 23)).alloc (.cells #[.string ⟨#[]⟩, .string ⟨#[]⟩, .string ⟨#[]⟩] 23)) (w.heap.size + 1) ⟨#[]⟩ ⟨#[]⟩ ⟨#[]⟩ := by
    have h := DkBlk.new (w.alloc (.cells #[.string a, .string b, .string c] 23)) ⟨#[]⟩ ⟨#[]⟩ ⟨#[]⟩
    rw [World.size_alloc] at h
    exact h
  obtain ⟨W0, hW0⟩ : ∃ W, (w.alloc (.cells #[.string a, .string b, .string c] 23)).alloc (.cells #[.string ⟨#[]⟩, .string ⟨#[]⟩, .string ⟨#[]⟩] 23) = W := ⟨_, rfl⟩
  rw [hW0] at hb0 hg hx
  have HB0 := Lib.hid hb0; clear hb0
  have HG := Lib.hid hg; clear hg
  have HX := Lib.hid hx; clear hx
  obtain ⟨c0, c1, c2⟩ := HG.out.cells
  clear zy
  by_cases h1 : k < 0
  · have hm0 : m = 0 := by omega
    have hxb : b = x := by
      rw [← hx, ← hy, hm0]
      apply ByteArray.ext
      simp
    have nb : ¬ (9223372036854775807 < b.size) := by omega
    subst hxb
    clear hx hy
    have g1 : ¬ ((c.size : Int) < k) := by omega
    subst hm0
    clear hm
    go_enter Try.func12, Try.ntmps12
    go_wp2_with fail
    refine wp_region_noPanic ?_
    refine wp_region_held_drew (S := fun W => Below w.heap.size w W ∧ DkBlk W w.heap.size a b c) (by kernel_rfl) (⟨HB0.out.drew, HG.out.drew⟩) (fun hHeld => ?_)
    have hxe := HX.out.drew
    obtain ⟨W1, hW1⟩ : ∃ W, W0.drew = W := ⟨_, rfl⟩
    rw [hW1] at hHeld hxe ⊢
    clear hW1
    refine wpAnyH_take (i := 0) (v := ?_) rfl (by kernel_rfl) (by kernel_rfl) (by kernel_rfl) (fun _ _ _ h => h) (Or.inl ⟨by rfl, ?_⟩) (by assumption) ?_
    rotate_left
    · (intro w hSw; (try dsimp only at hSw); go_simp; (try with_reducible rfl))
    simp only [Act.put, List.getElem_toArray, List.getElem_cons_zero, List.setIfInBounds_toArray, List.set_cons_zero, List.set_cons_succ]
    refine wpAnyH_take (i := 1) (v := ?_) rfl (by kernel_rfl) (by kernel_rfl) (by kernel_rfl) (fun _ _ _ h => h) (Or.inl ⟨by rfl, ?_⟩) (by assumption) ?_
    rotate_left
    · (intro w hSw; (try dsimp only at hSw); obtain ⟨c0, c1, c2⟩ := hSw.2.cells; go_simp; (try with_reducible rfl))
    simp only [Act.put, List.getElem_toArray, List.getElem_cons_zero, List.getElem_cons_succ, List.setIfInBounds_toArray, List.set_cons_zero, List.set_cons_succ]
    refine wpAnyH_take (i := 2) (v := ?_) rfl (by kernel_rfl) (by kernel_rfl) (by kernel_rfl) (fun _ _ _ h => h) (Or.inl ⟨by rfl, ?_⟩) (by assumption) ?_
    rotate_left
    · (intro w hSw; (try dsimp only at hSw); go_simp; (try with_reducible rfl))
    simp only [Act.put, List.getElem_toArray, List.getElem_cons_zero, List.getElem_cons_succ, List.setIfInBounds_toArray, List.set_cons_zero, List.set_cons_succ]
    refine wpAnyH_take (i := 3) (v := ?_) rfl (by kernel_rfl) (by kernel_rfl) (by kernel_rfl) (fun _ _ _ h => h) (Or.inl ⟨by rfl, ?_⟩) (by assumption) ?_
    rotate_left
    · (intro w hSw; (try dsimp only at hSw); obtain ⟨c0, c1, c2⟩ := hSw.2.cells; go_simp; (try with_reducible rfl))
    simp only [Act.put, List.getElem_toArray, List.getElem_cons_zero, List.getElem_cons_succ, List.setIfInBounds_toArray, List.set_cons_zero, List.set_cons_succ]
    refine wpAnyH_take (i := 4) (v := ?_) rfl (by kernel_rfl) (by kernel_rfl) (by kernel_rfl) (fun _ _ _ h => h) (Or.inl ⟨by rfl, ?_⟩) (by assumption) ?_
    rotate_left
    · (intro w hSw; (try dsimp only at hSw); go_simp; (try with_reducible rfl))
    simp only [Act.put, List.getElem_toArray, List.getElem_cons_zero, List.getElem_cons_succ, List.setIfInBounds_toArray, List.set_cons_zero, List.set_cons_succ]
    refine wpAnyH_take (i := 5) (v := ?_) rfl (by kernel_rfl) (by kernel_rfl) (by kernel_rfl) (fun _ _ _ h => h) (Or.inl ⟨by rfl, ?_⟩) (by assumption) ?_
    rotate_left
    · (intro w hSw; (try dsimp only at hSw); obtain ⟨c0, c1, c2⟩ := hSw.2.cells; go_simp; (try with_reducible rfl))
    simp only [Act.put, List.getElem_toArray, List.getElem_cons_zero, List.getElem_cons_succ, List.setIfInBounds_toArray, List.set_cons_zero, List.set_cons_succ]
    refine wpAnyH_take (i := 6) (v := ?_) rfl (by kernel_rfl) (by kernel_rfl) (by kernel_rfl) (fun _ _ _ h => h) (Or.inl ⟨by rfl, ?_⟩) (by assumption) ?_
    rotate_left
    · (intro w hSw; (try dsimp only at hSw); go_simp; (try with_reducible rfl))
    simp only [Act.put, List.getElem_toArray, List.getElem_cons_zero, List.getElem_cons_succ, List.setIfInBounds_toArray, List.set_cons_zero, List.set_cons_succ]
    refine wpAnyH_take (i := 7) (v := ?_) rfl (by kernel_rfl) (by kernel_rfl) (by kernel_rfl) (fun _ _ _ h => h) (Or.inl ⟨by rfl, ?_⟩) (by assumption) ?_
    rotate_left
    · (intro w hSw; (try dsimp only at hSw); go_simp; (try with_reducible rfl))
    simp only [Act.put, List.getElem_toArray, List.getElem_cons_zero, List.getElem_cons_succ, List.setIfInBounds_toArray, List.set_cons_zero, List.set_cons_succ]
    refine wpAnyH_take (i := 8) (v := ?_) rfl (by kernel_rfl) (by kernel_rfl) (by kernel_rfl) (fun _ _ _ h => h) (Or.inl ⟨by rfl, ?_⟩) (by assumption) ?_
    rotate_left
    · (intro w hSw; (try dsimp only at hSw); go_simp; (try with_reducible rfl))
    simp only [Act.put, List.getElem_toArray, List.getElem_cons_zero, List.getElem_cons_succ, List.setIfInBounds_toArray, List.set_cons_zero, List.set_cons_succ]
    refine wpAnyH_take (i := 9) (v := ?_) rfl (by kernel_rfl) (by kernel_rfl) (by kernel_rfl) (fun _ _ _ h => h) (Or.inl ⟨by rfl, ?_⟩) (by assumption) ?_
    rotate_left
    · (intro w hSw; (try dsimp only at hSw); go_simp; (try with_reducible rfl))
    simp only [Act.put, List.getElem_toArray, List.getElem_cons_zero, List.getElem_cons_succ, List.setIfInBounds_toArray, List.set_cons_zero, List.set_cons_succ]
    obtain ⟨d0, d1, d2⟩ := hxe.cells
    have f0 := hxe.frozen 0
    have f1 := hxe.frozen 1
    have f2 := hxe.frozen 2
    have HXE := Lib.hid hxe; clear hxe
    refine wpAnyH_ready (rs := [10]) (by kernel_rfl) (by simp) ?_
    refine AllReadyH.cons rfl (fun K hK => ?_) AllReadyH.nil
    rw [if_pos (by rfl)]
    go_simp
    refine hK.out _ _ (⟨((hHeld.1.setCell (p := ⟨w.heap.size + 1, 0, none⟩) (Nat.le_succ _) _).setCell (p := ⟨w.heap.size + 1, 1, none⟩) (Nat.le_succ _) _).setCell (p := ⟨w.heap.size + 1, 2, none⟩) (Nat.le_succ _) _, ((hHeld.2.far (by omega) _ _).far (by omega) _ _).far (by omega) _ _⟩) (fun hHeld2 => ?_)
    clear hK K hHeld
    have hHeld := hHeld2; clear hHeld2
    refine wpAnyH_done (by kernel_rfl) ?_ _
    refine NoPanic.normal ?_
    have hfin := HXE.out.put a b ⟨#[]⟩
    obtain ⟨e0, e1, e2⟩ := hfin.cells
    have hbf := hHeld.1
    clear d0 d1 d2 hHeld
    go_wp2_with fail
    refine bodyPost_ret (v := .agg #[.string a, .string b, .string ⟨#[]⟩]) (by simp [results, Try.results12, go_sem, e0, e1, e2]) rfl ⟨rfl, hbf⟩
  clear hx hy
  by_cases h2 : (c.size : Int) < k
  · have hm0 : m = c.size := by omega
    subst hm0
    have g2 : (0 : Int) ≤ (c.size : Int) := by omega
    have g3 : (if 0 < c.size then (c.size : Int) else 0) = (c.size : Int) := by split <;> omega
    clear hm
    go_enter Try.func12, Try.ntmps12
    go_wp2_with fail
    refine wp_region_noPanic ?_
    refine wp_region_held_drew (S := fun W => Below w.heap.size w W ∧ DkBlk W w.heap.size a b c) (by kernel_rfl) (⟨HB0.out.drew, HG.out.drew⟩) (fun hHeld => ?_)
    have hxe := HX.out.drew
    obtain ⟨W1, hW1⟩ : ∃ W, W0.drew = W := ⟨_, rfl⟩
    rw [hW1] at hHeld hxe ⊢
    clear hW1
    refine wpAnyH_take (i := 0) (v := ?_) rfl (by kernel_rfl) (by kernel_rfl) (by kernel_rfl) (fun _ _ _ h => h) (Or.inl ⟨by rfl, ?_⟩) (by assumption) ?_
    rotate_left
    · (intro w hSw; (try dsimp only at hSw); go_simp; (try with_reducible rfl))
    simp only [Act.put, List.getElem_toArray, List.getElem_cons_zero, List.setIfInBounds_toArray, List.set_cons_zero, List.set_cons_succ]
    refine wpAnyH_take (i := 1) (v := ?_) rfl (by kernel_rfl) (by kernel_rfl) (by kernel_rfl) (fun _ _ _ h => h) (Or.inl ⟨by rfl, ?_⟩) (by assumption) ?_
    rotate_left
    · (intro w hSw; (try dsimp only at hSw); obtain ⟨c0, c1, c2⟩ := hSw.2.cells; go_simp; (try with_reducible rfl))
    simp only [Act.put, List.getElem_toArray, List.getElem_cons_zero, List.getElem_cons_succ, List.setIfInBounds_toArray, List.set_cons_zero, List.set_cons_succ]
    refine wpAnyH_take (i := 2) (v := ?_) rfl (by kernel_rfl) (by kernel_rfl) (by kernel_rfl) (fun _ _ _ h => h) (Or.inl ⟨by rfl, ?_⟩) (by assumption) ?_
    rotate_left
    · (intro w hSw; (try dsimp only at hSw); go_simp; (try with_reducible rfl))
    simp only [Act.put, List.getElem_toArray, List.getElem_cons_zero, List.getElem_cons_succ, List.setIfInBounds_toArray, List.set_cons_zero, List.set_cons_succ]
    refine wpAnyH_take (i := 3) (v := ?_) rfl (by kernel_rfl) (by kernel_rfl) (by kernel_rfl) (fun _ _ _ h => h) (Or.inl ⟨by rfl, ?_⟩) (by assumption) ?_
    rotate_left
    · (intro w hSw; (try dsimp only at hSw); obtain ⟨c0, c1, c2⟩ := hSw.2.cells; go_simp; (try with_reducible rfl))
    simp only [Act.put, List.getElem_toArray, List.getElem_cons_zero, List.getElem_cons_succ, List.setIfInBounds_toArray, List.set_cons_zero, List.set_cons_succ]
    refine wpAnyH_take (i := 4) (v := ?_) rfl (by kernel_rfl) (by kernel_rfl) (by kernel_rfl) (fun _ _ _ h => h) (Or.inl ⟨by rfl, ?_⟩) (by assumption) ?_
    rotate_left
    · (intro w hSw; (try dsimp only at hSw); go_simp; (try with_reducible rfl))
    simp only [Act.put, List.getElem_toArray, List.getElem_cons_zero, List.getElem_cons_succ, List.setIfInBounds_toArray, List.set_cons_zero, List.set_cons_succ]
    refine wpAnyH_take (i := 5) (v := ?_) rfl (by kernel_rfl) (by kernel_rfl) (by kernel_rfl) (fun _ _ _ h => h) (Or.inl ⟨by rfl, ?_⟩) (by assumption) ?_
    rotate_left
    · (intro w hSw; (try dsimp only at hSw); obtain ⟨c0, c1, c2⟩ := hSw.2.cells; go_simp; (try with_reducible rfl))
    simp only [Act.put, List.getElem_toArray, List.getElem_cons_zero, List.getElem_cons_succ, List.setIfInBounds_toArray, List.set_cons_zero, List.set_cons_succ]
    refine wpAnyH_take (i := 6) (v := ?_) rfl (by kernel_rfl) (by kernel_rfl) (by kernel_rfl) (fun _ _ _ h => h) (Or.inl ⟨by rfl, ?_⟩) (by assumption) ?_
    rotate_left
    · (intro w hSw; (try dsimp only at hSw); go_simp; (try with_reducible rfl))
    simp only [Act.put, List.getElem_toArray, List.getElem_cons_zero, List.getElem_cons_succ, List.setIfInBounds_toArray, List.set_cons_zero, List.set_cons_succ]
    refine wpAnyH_take (i := 7) (v := ?_) rfl (by kernel_rfl) (by kernel_rfl) (by kernel_rfl) (fun _ _ _ h => h) (Or.inl ⟨by rfl, ?_⟩) (by assumption) ?_
    rotate_left
    · (intro w hSw; (try dsimp only at hSw); go_simp; (try with_reducible rfl))
    simp only [Act.put, List.getElem_toArray, List.getElem_cons_zero, List.getElem_cons_succ, List.setIfInBounds_toArray, List.set_cons_zero, List.set_cons_succ]
    refine wpAnyH_take (i := 8) (v := ?_) rfl (by kernel_rfl) (by kernel_rfl) (by kernel_rfl) (fun _ _ _ h => h) (Or.inl ⟨by rfl, ?_⟩) (by assumption) ?_
    rotate_left
    · (intro w hSw; (try dsimp only at hSw); go_simp; (try with_reducible rfl))
    simp only [Act.put, List.getElem_toArray, List.getElem_cons_zero, List.getElem_cons_succ, List.setIfInBounds_toArray, List.set_cons_zero, List.set_cons_succ]
    refine wpAnyH_take (i := 9) (v := ?_) rfl (by kernel_rfl) (by kernel_rfl) (by kernel_rfl) (fun _ _ _ h => h) (Or.inl ⟨by rfl, ?_⟩) (by assumption) ?_
    rotate_left
    · (intro w hSw; (try dsimp only at hSw); go_simp; (try with_reducible rfl))
    simp only [Act.put, List.getElem_toArray, List.getElem_cons_zero, List.getElem_cons_succ, List.setIfInBounds_toArray, List.set_cons_zero, List.set_cons_succ]
    obtain ⟨d0, d1, d2⟩ := hxe.cells
    have f0 := hxe.frozen 0
    have f1 := hxe.frozen 1
    have f2 := hxe.frozen 2
    have HXE := Lib.hid hxe; clear hxe
    refine wpAnyH_ready (rs := [10]) (by kernel_rfl) (by simp) ?_
    refine AllReadyH.cons rfl (fun K hK => ?_) AllReadyH.nil
    rw [if_pos (by rfl)]
    go_simp
    refine hK.out _ _ (⟨((hHeld.1.setCell (p := ⟨w.heap.size + 1, 0, none⟩) (Nat.le_succ _) _).setCell (p := ⟨w.heap.size + 1, 1, none⟩) (Nat.le_succ _) _).setCell (p := ⟨w.heap.size + 1, 2, none⟩) (Nat.le_succ _) _, ((hHeld.2.far (by omega) _ _).far (by omega) _ _).far (by omega) _ _⟩) (fun hHeld2 => ?_)
    clear hK K hHeld
    have hHeld := hHeld2; clear hHeld2
    refine wpAnyH_done (by kernel_rfl) ?_ _
    refine NoPanic.normal ?_
    have hfin := HXE.out.put a x ⟨#[]⟩
    obtain ⟨e0, e1, e2⟩ := hfin.cells
    have hbf := hHeld.1
    clear d0 d1 d2 hHeld
    go_wp2_with fail
    refine bodyPost_ret (v := .agg #[.string a, .string x, .string ⟨#[]⟩]) (by simp [results, Try.results12, go_sem, e0, e1, e2]) rfl ⟨rfl, hbf⟩
  · have hk0 : k = (m : Int) := by omega
    subst hk0
    have g2 : (m : Int) ≤ (c.size : Int) := by omega
    have g3 : (if 0 < m then (m : Int) else 0) = (m : Int) := by split <;> omega
    clear hm h1 h2
    go_enter Try.func12, Try.ntmps12
    go_wp2_with fail
    refine wp_region_noPanic ?_
    refine wp_region_held_drew (S := fun W => Below w.heap.size w W ∧ DkBlk W w.heap.size a b c) (by kernel_rfl) (⟨HB0.out.drew, HG.out.drew⟩) (fun hHeld => ?_)
    have hxe := HX.out.drew
    obtain ⟨W1, hW1⟩ : ∃ W, W0.drew = W := ⟨_, rfl⟩
    rw [hW1] at hHeld hxe ⊢
    clear hW1
    refine wpAnyH_take (i := 0) (v := ?_) rfl (by kernel_rfl) (by kernel_rfl) (by kernel_rfl) (fun _ _ _ h => h) (Or.inl ⟨by rfl, ?_⟩) (by assumption) ?_
    rotate_left
    · (intro w hSw; (try dsimp only at hSw); go_simp; (try with_reducible rfl))
    simp only [Act.put, List.getElem_toArray, List.getElem_cons_zero, List.setIfInBounds_toArray, List.set_cons_zero, List.set_cons_succ]
    refine wpAnyH_take (i := 1) (v := ?_) rfl (by kernel_rfl) (by kernel_rfl) (by kernel_rfl) (fun _ _ _ h => h) (Or.inl ⟨by rfl, ?_⟩) (by assumption) ?_
    rotate_left
    · (intro w hSw; (try dsimp only at hSw); obtain ⟨c0, c1, c2⟩ := hSw.2.cells; go_simp; (try with_reducible rfl))
    simp only [Act.put, List.getElem_toArray, List.getElem_cons_zero, List.getElem_cons_succ, List.setIfInBounds_toArray, List.set_cons_zero, List.set_cons_succ]
    refine wpAnyH_take (i := 2) (v := ?_) rfl (by kernel_rfl) (by kernel_rfl) (by kernel_rfl) (fun _ _ _ h => h) (Or.inl ⟨by rfl, ?_⟩) (by assumption) ?_
    rotate_left
    · (intro w hSw; (try dsimp only at hSw); go_simp; (try with_reducible rfl))
    simp only [Act.put, List.getElem_toArray, List.getElem_cons_zero, List.getElem_cons_succ, List.setIfInBounds_toArray, List.set_cons_zero, List.set_cons_succ]
    refine wpAnyH_take (i := 3) (v := ?_) rfl (by kernel_rfl) (by kernel_rfl) (by kernel_rfl) (fun _ _ _ h => h) (Or.inl ⟨by rfl, ?_⟩) (by assumption) ?_
    rotate_left
    · (intro w hSw; (try dsimp only at hSw); obtain ⟨c0, c1, c2⟩ := hSw.2.cells; go_simp; (try with_reducible rfl))
    simp only [Act.put, List.getElem_toArray, List.getElem_cons_zero, List.getElem_cons_succ, List.setIfInBounds_toArray, List.set_cons_zero, List.set_cons_succ]
    refine wpAnyH_take (i := 4) (v := ?_) rfl (by kernel_rfl) (by kernel_rfl) (by kernel_rfl) (fun _ _ _ h => h) (Or.inl ⟨by rfl, ?_⟩) (by assumption) ?_
    rotate_left
    · (intro w hSw; (try dsimp only at hSw); go_simp; (try with_reducible rfl))
    simp only [Act.put, List.getElem_toArray, List.getElem_cons_zero, List.getElem_cons_succ, List.setIfInBounds_toArray, List.set_cons_zero, List.set_cons_succ]
    refine wpAnyH_take (i := 5) (v := ?_) rfl (by kernel_rfl) (by kernel_rfl) (by kernel_rfl) (fun _ _ _ h => h) (Or.inl ⟨by rfl, ?_⟩) (by assumption) ?_
    rotate_left
    · (intro w hSw; (try dsimp only at hSw); obtain ⟨c0, c1, c2⟩ := hSw.2.cells; go_simp; (try with_reducible rfl))
    simp only [Act.put, List.getElem_toArray, List.getElem_cons_zero, List.getElem_cons_succ, List.setIfInBounds_toArray, List.set_cons_zero, List.set_cons_succ]
    refine wpAnyH_take (i := 6) (v := ?_) rfl (by kernel_rfl) (by kernel_rfl) (by kernel_rfl) (fun _ _ _ h => h) (Or.inl ⟨by rfl, ?_⟩) (by assumption) ?_
    rotate_left
    · (intro w hSw; (try dsimp only at hSw); go_simp; (try with_reducible rfl))
    simp only [Act.put, List.getElem_toArray, List.getElem_cons_zero, List.getElem_cons_succ, List.setIfInBounds_toArray, List.set_cons_zero, List.set_cons_succ]
    refine wpAnyH_take (i := 7) (v := ?_) rfl (by kernel_rfl) (by kernel_rfl) (by kernel_rfl) (fun _ _ _ h => h) (Or.inl ⟨by rfl, ?_⟩) (by assumption) ?_
    rotate_left
    · (intro w hSw; (try dsimp only at hSw); go_simp; (try with_reducible rfl))
    simp only [Act.put, List.getElem_toArray, List.getElem_cons_zero, List.getElem_cons_succ, List.setIfInBounds_toArray, List.set_cons_zero, List.set_cons_succ]
    refine wpAnyH_take (i := 8) (v := ?_) rfl (by kernel_rfl) (by kernel_rfl) (by kernel_rfl) (fun _ _ _ h => h) (Or.inl ⟨by rfl, ?_⟩) (by assumption) ?_
    rotate_left
    · (intro w hSw; (try dsimp only at hSw); go_simp; (try with_reducible rfl))
    simp only [Act.put, List.getElem_toArray, List.getElem_cons_zero, List.getElem_cons_succ, List.setIfInBounds_toArray, List.set_cons_zero, List.set_cons_succ]
    refine wpAnyH_take (i := 9) (v := ?_) rfl (by kernel_rfl) (by kernel_rfl) (by kernel_rfl) (fun _ _ _ h => h) (Or.inl ⟨by rfl, ?_⟩) (by assumption) ?_
    rotate_left
    · (intro w hSw; (try dsimp only at hSw); go_simp; (try with_reducible rfl))
    simp only [Act.put, List.getElem_toArray, List.getElem_cons_zero, List.getElem_cons_succ, List.setIfInBounds_toArray, List.set_cons_zero, List.set_cons_succ]
    obtain ⟨d0, d1, d2⟩ := hxe.cells
    have f0 := hxe.frozen 0
    have f1 := hxe.frozen 1
    have f2 := hxe.frozen 2
    have HXE := Lib.hid hxe; clear hxe
    refine wpAnyH_ready (rs := [10]) (by kernel_rfl) (by simp) ?_
    refine AllReadyH.cons rfl (fun K hK => ?_) AllReadyH.nil
    rw [if_pos (by rfl)]
    go_simp
    refine hK.out _ _ (⟨((hHeld.1.setCell (p := ⟨w.heap.size + 1, 0, none⟩) (Nat.le_succ _) _).setCell (p := ⟨w.heap.size + 1, 1, none⟩) (Nat.le_succ _) _).setCell (p := ⟨w.heap.size + 1, 2, none⟩) (Nat.le_succ _) _, ((hHeld.2.far (by omega) _ _).far (by omega) _ _).far (by omega) _ _⟩) (fun hHeld2 => ?_)
    clear hK K hHeld
    have hHeld := hHeld2; clear hHeld2
    refine wpAnyH_done (by kernel_rfl) ?_ _
    refine NoPanic.normal ?_
    have hfin := HXE.out.put a x ⟨#[]⟩
    obtain ⟨e0, e1, e2⟩ := hfin.cells
    have hbf := hHeld.1
    clear d0 d1 d2 hHeld
    go_wp2_with fail
    refine bodyPost_ret (v := .agg #[.string a, .string x, .string ⟨#[]⟩]) (by simp [results, Try.results12, go_sem, e0, e1, e2]) rfl ⟨rfl, hbf⟩
end Go.Proofs.Ytbncaolflhmgpaa
