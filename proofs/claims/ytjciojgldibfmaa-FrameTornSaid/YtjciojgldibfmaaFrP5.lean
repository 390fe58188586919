import Derived.Test.YtjciojgldibfmaaFrP4
import Derived.Test.YtjciojgldibfmaaShelf
/-
  The contracts of strings.Clone and of frame.frameAt (stage 6).
-/
namespace Go.Proofs.Ytjciojgldibfmaa
open Go.RowKit
set_option linter.unusedVariables false

theorem FrBlk.flag {W : World} {g : Nat} {k x : Int} {d : ByteArray} (h : FrBlk W g ⟨k, x, d⟩) (y : Int) : FrBlk (W.setCell ⟨g, 1, none⟩ (.int .i64 y)) g ⟨k, y, d⟩ := heap_setCell_same _ g 1 _ _ _ h
theorem FrBlk.far {W : World} {b g : Nat} {f : Frm} (h : FrBlk W b f) (hne : b ≠ g) (j : Nat) (u : Value) : FrBlk (W.setCell ⟨g, j, none⟩ u) b f := Eq.trans (heap_setCell_other W ⟨g, j, none⟩ b u hne) h
/-- A frame in a block that was made on the way. -/
def FaMid (W0 wx : World) (s : Value) (f : Frm) : Prop := ∃ g, s = .pointer (some ⟨g, 0, none⟩) ∧ W0.heap.size ≤ g ∧ FrBlk wx g f ∧ Below W0.heap.size W0 wx
set_option maxRecDepth 100000 in
set_option maxHeartbeats 1000000 in
theorem sclone_any (s : ByteArray) (hs : s.size ≤ 140737488355328) (w : World) : Calls Try.prog 42 #[.string s] w fun e w' => e = .returned (.string s) ∧ Below w.heap.size w w' := by
  have q := fun W => Try.stringslite_Clone s W (by omega)
  go_enter Try.func42, Try.ntmps42
  go_wp2_with fail
  ((with_reducible refine (q _).mono ?_); rintro e W1 ⟨rfl, b1⟩)
  go_wp2_with fail
  go_ret
  exact ⟨rfl, b1⟩

set_option maxRecDepth 100000 in
set_option maxHeartbeats 4000000 in
theorem frameAt_1 (s D : ByteArray) (i j a : Nat) (hs : s.size ≤ 140737488355328) (hi : i ≤ j) (hj : j ≤ s.size) (hz : 1 < s.size) (hD : s.extract i j = D) (ha : s[1].toNat = a) (w : World) :
    Calls Try.prog 38 #[fmP, .string s, .int .i64 i, .int .i64 j] w fun e w' => e = .returned (.agg #[.int .i64 a, .int .i64 0, .string D]) ∧ Below w.heap.size w w' := by
  have hb0 : Below w.heap.size w (w.alloc (.cells #[.int .i64 0, .int .i64 0, .string ⟨#[]⟩] 23)) := (Below.refl _ _).alloc (Nat.le_refl _) _
  have hbx := FrBlk.new w zeroF
  simp only [zeroF] at hbx
  obtain ⟨W0, hW0⟩ : ∃ W, w.alloc (.cells #[.int .i64 0, .int .i64 0, .string ⟨#[]⟩] 23) = W := ⟨_, rfl⟩
  rw [hW0] at hb0 hbx
  have hsT : ∀ W : World, (Instr.slice 9 (.string s) (some (.int .i64 i)) (some (.int .i64 j)) none).run Try.prog W = .ok (.string D) W := fun W => slice_mid2 hD hi hj W
  have qk := kindAt_1
  have qf := hasFlags_1
  have qc := fun W => sclone_any D (by rw [← hD, ByteArray.size_extract]; omega) W
  have la : a < 256 := by rw [← ha]; exact s[1].toNat_lt
  have wa : IntKind.i64.wrap (a : Int) = (a : Int) := IntWalk.i64_in _ (by omega)
  have i0 : (0 : Int) ≤ (i : Int) := by omega
  have i1 : (i : Int) ≤ (j : Int) := by omega
  have i2 : (j : Int) ≤ (s.size : Int) := by omega
  have i3 : (1 : Int) < (s.size : Int) := by omega
  have i4 : (1 : Int) < (s.size : Int) := by omega
  have HB0 := Lib.hid hb0; clear hb0
  have HX := Lib.hid hbx; clear hbx hD
  unfold fmP at *
  go_enter Try.func38, Try.ntmps38
  go_upto_region 1 with fail
  go_cut [9] (fun s9 wx => FaMid W0 wx s9 ⟨a, 0, D⟩)
  case first =>
    refine wp_region_noPanic ?_
    refine wp_region_held_drew (S := fun W => Below W0.heap.size W0 W) (by kernel_rfl) ((Below.refl _ _).drew) (fun hHeld => ?_)
    refine wpAnyH_take (i := 0) (v := ?_) rfl (by kernel_rfl) (by kernel_rfl) (by kernel_rfl) (fun _ _ _ h => h) (Or.inl ⟨by rfl, ?_⟩) (by assumption) ?_
    rotate_left
    · (intro w hSw; (try dsimp only at hSw); go_simp; (try with_reducible rfl))
    simp only [Act.put, List.getElem_toArray, List.getElem_cons_zero, List.setIfInBounds_toArray, List.set_cons_zero, List.set_cons_succ]
    refine wpAnyH_take (i := 1) (v := ?_) rfl (by kernel_rfl) (by kernel_rfl) (by kernel_rfl) (fun _ _ _ h => h) (Or.inl ⟨by rfl, ?_⟩) (by assumption) ?_
    rotate_left
    · (intro w hSw; (try dsimp only at hSw); go_simp; (try with_reducible rfl))
    simp only [Act.put, List.getElem_toArray, List.getElem_cons_zero, List.getElem_cons_succ, List.setIfInBounds_toArray, List.set_cons_zero, List.set_cons_succ]
    refine wpAnyH_take (i := 5) (v := ?_) rfl (by kernel_rfl) (by kernel_rfl) (by kernel_rfl) (fun _ _ _ h => h) (Or.inl ⟨by rfl, ?_⟩) (by assumption) ?_
    rotate_left
    · (intro w hSw; (try dsimp only at hSw); go_simp; (try with_reducible rfl))
    simp only [Act.put, List.getElem_toArray, List.getElem_cons_zero, List.getElem_cons_succ, List.setIfInBounds_toArray, List.set_cons_zero, List.set_cons_succ]
    refine wpAnyH_take (i := 6) (v := ?_) rfl (by kernel_rfl) (by kernel_rfl) (by kernel_rfl) (fun _ _ _ h => h) (Or.inl ⟨by rfl, ?_⟩) (by assumption) ?_
    rotate_left
    · (intro w hSw; (try dsimp only at hSw); go_simp; (try with_reducible rfl))
    simp only [Act.put, List.getElem_toArray, List.getElem_cons_zero, List.getElem_cons_succ, List.setIfInBounds_toArray, List.set_cons_zero, List.set_cons_succ]
    refine wpAnyH_take (i := 7) (v := ?_) rfl (by kernel_rfl) (by kernel_rfl) (by kernel_rfl) (fun _ _ _ h => h) (Or.inl ⟨by rfl, ?_⟩) (by assumption) ?_
    rotate_left
    · (intro w hSw; (try dsimp only at hSw); go_simp; (try with_reducible rfl))
    simp only [Act.put, List.getElem_toArray, List.getElem_cons_zero, List.getElem_cons_succ, List.setIfInBounds_toArray, List.set_cons_zero, List.set_cons_succ]
    refine wpAnyH_take (i := 8) (v := ?_) rfl (by kernel_rfl) (by kernel_rfl) (by kernel_rfl) (fun _ _ _ h => h) (Or.inl ⟨by rfl, ?_⟩) (by assumption) ?_
    rotate_left
    · (intro w hSw; (try dsimp only at hSw); go_simp; (try with_reducible rfl))
    simp only [Act.put, List.getElem_toArray, List.getElem_cons_zero, List.getElem_cons_succ, List.setIfInBounds_toArray, List.set_cons_zero, List.set_cons_succ]
    refine wpAnyH_ready (rs := [2, 11]) (by kernel_rfl) (by simp) ?_
    refine AllReadyH.cons rfl (fun K hK => ?_) ?_
    · rw [if_pos (by rfl)]
      go_simp
      ((with_reducible refine (qk _).mono ?_); rintro e w2 ⟨rfl, bq⟩)
      refine hK.out _ _ (bch hHeld bq) (fun hHeld2 => ?_)
      clear hK K hHeld
      have hHeld := hHeld2; clear hHeld2
      refine wpAnyH_take (i := 3) (v := ?_) rfl (by kernel_rfl) (by kernel_rfl) (by kernel_rfl) (fun _ _ _ h => h) (Or.inl ⟨by rfl, ?_⟩) (by assumption) ?_
      rotate_left
      · (intro w hSw; (try dsimp only at hSw); go_simp; (try with_reducible rfl))
      simp only [Act.put, List.getElem_toArray, List.getElem_cons_zero, List.getElem_cons_succ, List.setIfInBounds_toArray, List.set_cons_zero, List.set_cons_succ]
      refine wpAnyH_take (i := 4) (v := ?_) rfl (by kernel_rfl) (by kernel_rfl) (by kernel_rfl) (fun _ _ _ h => h) (Or.inl ⟨by rfl, ?_⟩) (by assumption) ?_
      rotate_left
      · (intro w hSw; (try dsimp only at hSw); go_simp; (try with_reducible rfl))
      simp only [Act.put, List.getElem_toArray, List.getElem_cons_zero, List.getElem_cons_succ, List.setIfInBounds_toArray, List.set_cons_zero, List.set_cons_succ]
      refine wpAnyH_ready (rs := [9, 11]) (by kernel_rfl) (by simp) ?_
      refine AllReadyH.cons rfl (fun K hK => ?_) ?_
      · rw [if_pos (by rfl)]
        go_simp
        ((with_reducible refine (qc _).mono ?_); rintro e w' ⟨rfl, bq⟩)
        refine hK.out _ _ (bch hHeld bq) (fun hHeld2 => ?_)
        clear hK K hHeld
        have hHeld := hHeld2; clear hHeld2
        refine wpAnyH_take (i := 10) (v := ?_) rfl (by kernel_rfl) (by kernel_rfl) (by kernel_rfl) (fun _ _ _ h => h) (Or.inl ⟨by rfl, ?_⟩) (by assumption) ?_
        rotate_left
        · (intro w hSw; (try dsimp only at hSw); go_simp; (try with_reducible rfl))
        simp only [Act.put, List.getElem_toArray, List.getElem_cons_zero, List.getElem_cons_succ, List.setIfInBounds_toArray, List.set_cons_zero, List.set_cons_succ]
        refine wpAnyH_ready (rs := [11]) (by kernel_rfl) (by simp) ?_
        refine AllReadyH.cons rfl (fun K hK => ?_) AllReadyH.nil
        rw [if_pos (by rfl)]
        go_simp
        have HBW := Lib.hid hHeld
        refine hK.out _ _ (hHeld.alloc hHeld.size _) (fun hHeld2 => ?_)
        clear hK K hHeld
        have hHeld := hHeld2; clear hHeld2
        refine wpAnyH_ready (rs := [12]) (by kernel_rfl) (by simp) ?_
        refine AllReadyH.cons rfl (fun K hK => ?_) AllReadyH.nil
        rw [if_pos (by rfl)]
        go_simp
        refine hK.out _ _ (HBW.out.alloc HBW.out.size _) (fun hHeld2 => ?_)
        clear hK K hHeld
        have hHeld := hHeld2; clear hHeld2
        refine wpAnyH_done (by kernel_rfl) ?_ _
        refine NoPanic.normal ?_
        go_wp2_with fail
        go_meet
        exact ⟨_, rfl, HBW.out.size, FrBlk.new w' ⟨a, 0, D⟩, hHeld⟩
      refine AllReadyH.cons rfl (fun K hK => ?_) ?_
      · rw [if_pos (by rfl)]
        go_simp
        have hg : FrBlk (w2.alloc (.cells #[.int .i64 0, .int .i64 0, .string ⟨#[]⟩] 23)) w2.heap.size zeroF := FrBlk.new w2 zeroF
        have HLE : Hid (W0.heap.size ≤ w2.heap.size) := hHeld.size
        refine hK.out _ _ (hHeld.alloc hHeld.size _) (fun hHeld2 => ?_)
        clear hK K hHeld
        have hHeld := hHeld2; clear hHeld2
        refine wpAnyH_ready (rs := [9]) (by kernel_rfl) (by simp) ?_
        refine AllReadyH.cons rfl (fun K hK => ?_) AllReadyH.nil
        rw [if_pos (by rfl)]
        go_simp
        ((with_reducible refine (qc _).mono ?_); rintro e w' ⟨rfl, bq⟩)
        have hg2 := hg.below bq; clear hg
        have hg := hg2; clear hg2
        refine hK.out _ _ (bch hHeld bq) (fun hHeld2 => ?_)
        clear hK K hHeld
        have hHeld := hHeld2; clear hHeld2
        refine wpAnyH_take (i := 10) (v := ?_) rfl (by kernel_rfl) (by kernel_rfl) (by kernel_rfl) (fun _ _ _ h => h) (Or.inl ⟨by rfl, ?_⟩) (by assumption) ?_
        rotate_left
        · (intro w hSw; (try dsimp only at hSw); go_simp; (try with_reducible rfl))
        simp only [Act.put, List.getElem_toArray, List.getElem_cons_zero, List.getElem_cons_succ, List.setIfInBounds_toArray, List.set_cons_zero, List.set_cons_succ]
        obtain ⟨c0, c1, c2⟩ := hg.cells
        simp only [zeroF] at c0 c1 c2
        have f0 := hg.frozen 0
        have f1 := hg.frozen 1
        have f2 := hg.frozen 2
        have HG := Lib.hid hg; clear hg
        refine wpAnyH_ready (rs := [12]) (by kernel_rfl) (by simp) ?_
        refine AllReadyH.cons rfl (fun K hK => ?_) AllReadyH.nil
        rw [if_pos (by rfl)]
        go_simp
        refine hK.out _ _ (((hHeld.setCell (p := ⟨_, 0, none⟩) HLE.out _).setCell (p := ⟨_, 1, none⟩) HLE.out _).setCell (p := ⟨_, 2, none⟩) HLE.out _) (fun hHeld2 => ?_)
        clear hK K hHeld
        have hHeld := hHeld2; clear hHeld2
        refine wpAnyH_done (by kernel_rfl) ?_ _
        refine NoPanic.normal ?_
        go_wp2_with fail
        go_meet
        exact ⟨_, rfl, HLE.out, HG.out.put ⟨a, 0, D⟩, hHeld⟩
      exact AllReadyH.nil
    refine AllReadyH.cons rfl (fun K hK => ?_) ?_
    · rw [if_pos (by rfl)]
      go_simp
      have hg : FrBlk (W0.drew.alloc (.cells #[.int .i64 0, .int .i64 0, .string ⟨#[]⟩] 23)) W0.heap.size zeroF := FrBlk.new W0.drew zeroF
      have HLE : Hid (W0.heap.size ≤ W0.heap.size) := hHeld.size
      refine hK.out _ _ (hHeld.alloc hHeld.size _) (fun hHeld2 => ?_)
      clear hK K hHeld
      have hHeld := hHeld2; clear hHeld2
      refine wpAnyH_ready (rs := [2]) (by kernel_rfl) (by simp) ?_
      refine AllReadyH.cons rfl (fun K hK => ?_) AllReadyH.nil
      rw [if_pos (by rfl)]
      go_simp
      ((with_reducible refine (qk _).mono ?_); rintro e w' ⟨rfl, bq⟩)
      have hg2 := hg.below bq; clear hg
      have hg := hg2; clear hg2
      refine hK.out _ _ (bch hHeld bq) (fun hHeld2 => ?_)
      clear hK K hHeld
      have hHeld := hHeld2; clear hHeld2
      refine wpAnyH_take (i := 3) (v := ?_) rfl (by kernel_rfl) (by kernel_rfl) (by kernel_rfl) (fun _ _ _ h => h) (Or.inl ⟨by rfl, ?_⟩) (by assumption) ?_
      rotate_left
      · (intro w hSw; (try dsimp only at hSw); go_simp; (try with_reducible rfl))
      simp only [Act.put, List.getElem_toArray, List.getElem_cons_zero, List.getElem_cons_succ, List.setIfInBounds_toArray, List.set_cons_zero, List.set_cons_succ]
      refine wpAnyH_take (i := 4) (v := ?_) rfl (by kernel_rfl) (by kernel_rfl) (by kernel_rfl) (fun _ _ _ h => h) (Or.inl ⟨by rfl, ?_⟩) (by assumption) ?_
      rotate_left
      · (intro w hSw; (try dsimp only at hSw); go_simp; (try with_reducible rfl))
      simp only [Act.put, List.getElem_toArray, List.getElem_cons_zero, List.getElem_cons_succ, List.setIfInBounds_toArray, List.set_cons_zero, List.set_cons_succ]
      refine wpAnyH_ready (rs := [9]) (by kernel_rfl) (by simp) ?_
      refine AllReadyH.cons rfl (fun K hK => ?_) AllReadyH.nil
      rw [if_pos (by rfl)]
      go_simp
      ((with_reducible refine (qc _).mono ?_); rintro e w' ⟨rfl, bq⟩)
      have hg2 := hg.below bq; clear hg
      have hg := hg2; clear hg2
      refine hK.out _ _ (bch hHeld bq) (fun hHeld2 => ?_)
      clear hK K hHeld
      have hHeld := hHeld2; clear hHeld2
      refine wpAnyH_take (i := 10) (v := ?_) rfl (by kernel_rfl) (by kernel_rfl) (by kernel_rfl) (fun _ _ _ h => h) (Or.inl ⟨by rfl, ?_⟩) (by assumption) ?_
      rotate_left
      · (intro w hSw; (try dsimp only at hSw); go_simp; (try with_reducible rfl))
      simp only [Act.put, List.getElem_toArray, List.getElem_cons_zero, List.getElem_cons_succ, List.setIfInBounds_toArray, List.set_cons_zero, List.set_cons_succ]
      obtain ⟨c0, c1, c2⟩ := hg.cells
      simp only [zeroF] at c0 c1 c2
      have f0 := hg.frozen 0
      have f1 := hg.frozen 1
      have f2 := hg.frozen 2
      have HG := Lib.hid hg; clear hg
      refine wpAnyH_ready (rs := [12]) (by kernel_rfl) (by simp) ?_
      refine AllReadyH.cons rfl (fun K hK => ?_) AllReadyH.nil
      rw [if_pos (by rfl)]
      go_simp
      refine hK.out _ _ (((hHeld.setCell (p := ⟨_, 0, none⟩) HLE.out _).setCell (p := ⟨_, 1, none⟩) HLE.out _).setCell (p := ⟨_, 2, none⟩) HLE.out _) (fun hHeld2 => ?_)
      clear hK K hHeld
      have hHeld := hHeld2; clear hHeld2
      refine wpAnyH_done (by kernel_rfl) ?_ _
      refine NoPanic.normal ?_
      go_wp2_with fail
      go_meet
      exact ⟨_, rfl, HLE.out, HG.out.put ⟨a, 0, D⟩, hHeld⟩
    exact AllReadyH.nil
  case rest =>
    obtain ⟨g, rfl, hgl, hgb, hbm⟩ := hcut
    have hxm : FrBlk wc w.heap.size zeroF := HX.out.below hbm
    have HGB := Lib.hid hgb; clear hgb
    have HXM := Lib.hid hxm; clear hxm
    have HBM := Lib.hid hbm; clear hbm
    have hne : w.heap.size ≠ g := by have := lt_of_blk HX.out; omega
    have HGL := Lib.hid hgl; clear hgl
    have HNE := Lib.hid hne; clear hne
    go_wp2_with fail
    ((with_reducible refine (qf _).mono ?_); rintro e W2 ⟨rfl, b2⟩)
    have hb2 := bch HBM.out b2
    have HG2 := Lib.hid (HGB.out.below b2)
    have HX2 := Lib.hid (HXM.out.below b2)
    clear b2
    obtain ⟨g0, g1, g2⟩ := HG2.out.cells
    simp only at g0 g1 g2
    obtain ⟨x0, x1, x2⟩ := HX2.out.cells
    simp only [zeroF] at x0 x1 x2
    have f0 := HX2.out.frozen 0
    have f1 := HX2.out.frozen 1
    have f2 := HX2.out.frozen 2
    have HB2 := Lib.hid hb2; clear hb2
    go_wp2_with fail
    have hfin := HX2.out.put ⟨a, 0, D⟩
    have hbf := (((bch HB0.out HB2.out).setCell (p := ⟨w.heap.size, 0, none⟩) (Nat.le_refl _) (.int .i64 (⟨a, 0, D⟩ : Frm).kind)).setCell (p := ⟨w.heap.size, 1, none⟩) (Nat.le_refl _) (.int .i64 (⟨a, 0, D⟩ : Frm).flags)).setCell (p := ⟨w.heap.size, 2, none⟩) (Nat.le_refl _) (.string (⟨a, 0, D⟩ : Frm).data)
    obtain ⟨d0, d1, d2⟩ := hfin.cells
    simp only at d0 d1 d2 hbf
    refine bodyPost_ret (v := .agg #[.int .i64 (a : Int), .int .i64 0, .string D]) (by simp [results, Try.results38, go_sem, d0, d1, d2]) rfl ⟨rfl, hbf⟩

set_option maxRecDepth 100000 in
set_option maxHeartbeats 4000000 in
theorem frameAt_2 (s D : ByteArray) (i j a b : Nat) (hs : s.size ≤ 140737488355328) (hi : i ≤ j) (hj : j ≤ s.size) (hz : 2 < s.size) (hD : s.extract i j = D) (ha : s[2].toNat = a) (hb : s[1].toNat = b) (w : World) :
    Calls Try.prog 38 #[fmF, .string s, .int .i64 i, .int .i64 j] w fun e w' => e = .returned (.agg #[.int .i64 a, .int .i64 b, .string D]) ∧ Below w.heap.size w w' := by
  have hb0 : Below w.heap.size w (w.alloc (.cells #[.int .i64 0, .int .i64 0, .string ⟨#[]⟩] 23)) := (Below.refl _ _).alloc (Nat.le_refl _) _
  have hbx := FrBlk.new w zeroF
  simp only [zeroF] at hbx
  obtain ⟨W0, hW0⟩ : ∃ W, w.alloc (.cells #[.int .i64 0, .int .i64 0, .string ⟨#[]⟩] 23) = W := ⟨_, rfl⟩
  rw [hW0] at hb0 hbx
  have hsT : ∀ W : World, (Instr.slice 9 (.string s) (some (.int .i64 i)) (some (.int .i64 j)) none).run Try.prog W = .ok (.string D) W := fun W => slice_mid2 hD hi hj W
  have qk := kindAt_2
  have qf := hasFlags_2
  have qc := fun W => sclone_any D (by rw [← hD, ByteArray.size_extract]; omega) W
  have la : a < 256 := by rw [← ha]; exact s[2].toNat_lt
  have lb : b < 256 := by rw [← hb]; exact s[1].toNat_lt
  have wa : IntKind.i64.wrap (a : Int) = (a : Int) := IntWalk.i64_in _ (by omega)
  have i0 : (0 : Int) ≤ (i : Int) := by omega
  have i1 : (i : Int) ≤ (j : Int) := by omega
  have i2 : (j : Int) ≤ (s.size : Int) := by omega
  have i3 : (2 : Int) < (s.size : Int) := by omega
  have i4 : (1 : Int) < (s.size : Int) := by omega
  have HB0 := Lib.hid hb0; clear hb0
  have HX := Lib.hid hbx; clear hbx hD
  unfold fmF at *
  go_enter Try.func38, Try.ntmps38
  go_upto_region 1 with fail
  go_cut [9] (fun s9 wx => FaMid W0 wx s9 ⟨a, 0, D⟩)
  case first =>
    refine wp_region_noPanic ?_
    refine wp_region_held_drew (S := fun W => Below W0.heap.size W0 W) (by kernel_rfl) ((Below.refl _ _).drew) (fun hHeld => ?_)
    refine wpAnyH_take (i := 0) (v := ?_) rfl (by kernel_rfl) (by kernel_rfl) (by kernel_rfl) (fun _ _ _ h => h) (Or.inl ⟨by rfl, ?_⟩) (by assumption) ?_
    rotate_left
    · (intro w hSw; (try dsimp only at hSw); go_simp; (try with_reducible rfl))
    simp only [Act.put, List.getElem_toArray, List.getElem_cons_zero, List.setIfInBounds_toArray, List.set_cons_zero, List.set_cons_succ]
    refine wpAnyH_take (i := 1) (v := ?_) rfl (by kernel_rfl) (by kernel_rfl) (by kernel_rfl) (fun _ _ _ h => h) (Or.inl ⟨by rfl, ?_⟩) (by assumption) ?_
    rotate_left
    · (intro w hSw; (try dsimp only at hSw); go_simp; (try with_reducible rfl))
    simp only [Act.put, List.getElem_toArray, List.getElem_cons_zero, List.getElem_cons_succ, List.setIfInBounds_toArray, List.set_cons_zero, List.set_cons_succ]
    refine wpAnyH_take (i := 5) (v := ?_) rfl (by kernel_rfl) (by kernel_rfl) (by kernel_rfl) (fun _ _ _ h => h) (Or.inl ⟨by rfl, ?_⟩) (by assumption) ?_
    rotate_left
    · (intro w hSw; (try dsimp only at hSw); go_simp; (try with_reducible rfl))
    simp only [Act.put, List.getElem_toArray, List.getElem_cons_zero, List.getElem_cons_succ, List.setIfInBounds_toArray, List.set_cons_zero, List.set_cons_succ]
    refine wpAnyH_take (i := 6) (v := ?_) rfl (by kernel_rfl) (by kernel_rfl) (by kernel_rfl) (fun _ _ _ h => h) (Or.inl ⟨by rfl, ?_⟩) (by assumption) ?_
    rotate_left
    · (intro w hSw; (try dsimp only at hSw); go_simp; (try with_reducible rfl))
    simp only [Act.put, List.getElem_toArray, List.getElem_cons_zero, List.getElem_cons_succ, List.setIfInBounds_toArray, List.set_cons_zero, List.set_cons_succ]
    refine wpAnyH_take (i := 7) (v := ?_) rfl (by kernel_rfl) (by kernel_rfl) (by kernel_rfl) (fun _ _ _ h => h) (Or.inl ⟨by rfl, ?_⟩) (by assumption) ?_
    rotate_left
    · (intro w hSw; (try dsimp only at hSw); go_simp; (try with_reducible rfl))
    simp only [Act.put, List.getElem_toArray, List.getElem_cons_zero, List.getElem_cons_succ, List.setIfInBounds_toArray, List.set_cons_zero, List.set_cons_succ]
    refine wpAnyH_take (i := 8) (v := ?_) rfl (by kernel_rfl) (by kernel_rfl) (by kernel_rfl) (fun _ _ _ h => h) (Or.inl ⟨by rfl, ?_⟩) (by assumption) ?_
    rotate_left
    · (intro w hSw; (try dsimp only at hSw); go_simp; (try with_reducible rfl))
    simp only [Act.put, List.getElem_toArray, List.getElem_cons_zero, List.getElem_cons_succ, List.setIfInBounds_toArray, List.set_cons_zero, List.set_cons_succ]
    refine wpAnyH_ready (rs := [2, 11]) (by kernel_rfl) (by simp) ?_
    refine AllReadyH.cons rfl (fun K hK => ?_) ?_
    · rw [if_pos (by rfl)]
      go_simp
      ((with_reducible refine (qk _).mono ?_); rintro e w2 ⟨rfl, bq⟩)
      refine hK.out _ _ (bch hHeld bq) (fun hHeld2 => ?_)
      clear hK K hHeld
      have hHeld := hHeld2; clear hHeld2
      refine wpAnyH_take (i := 3) (v := ?_) rfl (by kernel_rfl) (by kernel_rfl) (by kernel_rfl) (fun _ _ _ h => h) (Or.inl ⟨by rfl, ?_⟩) (by assumption) ?_
      rotate_left
      · (intro w hSw; (try dsimp only at hSw); go_simp; (try with_reducible rfl))
      simp only [Act.put, List.getElem_toArray, List.getElem_cons_zero, List.getElem_cons_succ, List.setIfInBounds_toArray, List.set_cons_zero, List.set_cons_succ]
      refine wpAnyH_take (i := 4) (v := ?_) rfl (by kernel_rfl) (by kernel_rfl) (by kernel_rfl) (fun _ _ _ h => h) (Or.inl ⟨by rfl, ?_⟩) (by assumption) ?_
      rotate_left
      · (intro w hSw; (try dsimp only at hSw); go_simp; (try with_reducible rfl))
      simp only [Act.put, List.getElem_toArray, List.getElem_cons_zero, List.getElem_cons_succ, List.setIfInBounds_toArray, List.set_cons_zero, List.set_cons_succ]
      refine wpAnyH_ready (rs := [9, 11]) (by kernel_rfl) (by simp) ?_
      refine AllReadyH.cons rfl (fun K hK => ?_) ?_
      · rw [if_pos (by rfl)]
        go_simp
        ((with_reducible refine (qc _).mono ?_); rintro e w' ⟨rfl, bq⟩)
        refine hK.out _ _ (bch hHeld bq) (fun hHeld2 => ?_)
        clear hK K hHeld
        have hHeld := hHeld2; clear hHeld2
        refine wpAnyH_take (i := 10) (v := ?_) rfl (by kernel_rfl) (by kernel_rfl) (by kernel_rfl) (fun _ _ _ h => h) (Or.inl ⟨by rfl, ?_⟩) (by assumption) ?_
        rotate_left
        · (intro w hSw; (try dsimp only at hSw); go_simp; (try with_reducible rfl))
        simp only [Act.put, List.getElem_toArray, List.getElem_cons_zero, List.getElem_cons_succ, List.setIfInBounds_toArray, List.set_cons_zero, List.set_cons_succ]
        refine wpAnyH_ready (rs := [11]) (by kernel_rfl) (by simp) ?_
        refine AllReadyH.cons rfl (fun K hK => ?_) AllReadyH.nil
        rw [if_pos (by rfl)]
        go_simp
        have HBW := Lib.hid hHeld
        refine hK.out _ _ (hHeld.alloc hHeld.size _) (fun hHeld2 => ?_)
        clear hK K hHeld
        have hHeld := hHeld2; clear hHeld2
        refine wpAnyH_ready (rs := [12]) (by kernel_rfl) (by simp) ?_
        refine AllReadyH.cons rfl (fun K hK => ?_) AllReadyH.nil
        rw [if_pos (by rfl)]
        go_simp
        refine hK.out _ _ (HBW.out.alloc HBW.out.size _) (fun hHeld2 => ?_)
        clear hK K hHeld
        have hHeld := hHeld2; clear hHeld2
        refine wpAnyH_done (by kernel_rfl) ?_ _
        refine NoPanic.normal ?_
        go_wp2_with fail
        go_meet
        exact ⟨_, rfl, HBW.out.size, FrBlk.new w' ⟨a, 0, D⟩, hHeld⟩
      refine AllReadyH.cons rfl (fun K hK => ?_) ?_
      · rw [if_pos (by rfl)]
        go_simp
        have hg : FrBlk (w2.alloc (.cells #[.int .i64 0, .int .i64 0, .string ⟨#[]⟩] 23)) w2.heap.size zeroF := FrBlk.new w2 zeroF
        have HLE : Hid (W0.heap.size ≤ w2.heap.size) := hHeld.size
        refine hK.out _ _ (hHeld.alloc hHeld.size _) (fun hHeld2 => ?_)
        clear hK K hHeld
        have hHeld := hHeld2; clear hHeld2
        refine wpAnyH_ready (rs := [9]) (by kernel_rfl) (by simp) ?_
        refine AllReadyH.cons rfl (fun K hK => ?_) AllReadyH.nil
        rw [if_pos (by rfl)]
        go_simp
        ((with_reducible refine (qc _).mono ?_); rintro e w' ⟨rfl, bq⟩)
        have hg2 := hg.below bq; clear hg
        have hg := hg2; clear hg2
        refine hK.out _ _ (bch hHeld bq) (fun hHeld2 => ?_)
        clear hK K hHeld
        have hHeld := hHeld2; clear hHeld2
        refine wpAnyH_take (i := 10) (v := ?_) rfl (by kernel_rfl) (by kernel_rfl) (by kernel_rfl) (fun _ _ _ h => h) (Or.inl ⟨by rfl, ?_⟩) (by assumption) ?_
        rotate_left
        · (intro w hSw; (try dsimp only at hSw); go_simp; (try with_reducible rfl))
        simp only [Act.put, List.getElem_toArray, List.getElem_cons_zero, List.getElem_cons_succ, List.setIfInBounds_toArray, List.set_cons_zero, List.set_cons_succ]
        obtain ⟨c0, c1, c2⟩ := hg.cells
        simp only [zeroF] at c0 c1 c2
        have f0 := hg.frozen 0
        have f1 := hg.frozen 1
        have f2 := hg.frozen 2
        have HG := Lib.hid hg; clear hg
        refine wpAnyH_ready (rs := [12]) (by kernel_rfl) (by simp) ?_
        refine AllReadyH.cons rfl (fun K hK => ?_) AllReadyH.nil
        rw [if_pos (by rfl)]
        go_simp
        refine hK.out _ _ (((hHeld.setCell (p := ⟨_, 0, none⟩) HLE.out _).setCell (p := ⟨_, 1, none⟩) HLE.out _).setCell (p := ⟨_, 2, none⟩) HLE.out _) (fun hHeld2 => ?_)
        clear hK K hHeld
        have hHeld := hHeld2; clear hHeld2
        refine wpAnyH_done (by kernel_rfl) ?_ _
        refine NoPanic.normal ?_
        go_wp2_with fail
        go_meet
        exact ⟨_, rfl, HLE.out, HG.out.put ⟨a, 0, D⟩, hHeld⟩
      exact AllReadyH.nil
    refine AllReadyH.cons rfl (fun K hK => ?_) ?_
    · rw [if_pos (by rfl)]
      go_simp
      have hg : FrBlk (W0.drew.alloc (.cells #[.int .i64 0, .int .i64 0, .string ⟨#[]⟩] 23)) W0.heap.size zeroF := FrBlk.new W0.drew zeroF
      have HLE : Hid (W0.heap.size ≤ W0.heap.size) := hHeld.size
      refine hK.out _ _ (hHeld.alloc hHeld.size _) (fun hHeld2 => ?_)
      clear hK K hHeld
      have hHeld := hHeld2; clear hHeld2
      refine wpAnyH_ready (rs := [2]) (by kernel_rfl) (by simp) ?_
      refine AllReadyH.cons rfl (fun K hK => ?_) AllReadyH.nil
      rw [if_pos (by rfl)]
      go_simp
      ((with_reducible refine (qk _).mono ?_); rintro e w' ⟨rfl, bq⟩)
      have hg2 := hg.below bq; clear hg
      have hg := hg2; clear hg2
      refine hK.out _ _ (bch hHeld bq) (fun hHeld2 => ?_)
      clear hK K hHeld
      have hHeld := hHeld2; clear hHeld2
      refine wpAnyH_take (i := 3) (v := ?_) rfl (by kernel_rfl) (by kernel_rfl) (by kernel_rfl) (fun _ _ _ h => h) (Or.inl ⟨by rfl, ?_⟩) (by assumption) ?_
      rotate_left
      · (intro w hSw; (try dsimp only at hSw); go_simp; (try with_reducible rfl))
      simp only [Act.put, List.getElem_toArray, List.getElem_cons_zero, List.getElem_cons_succ, List.setIfInBounds_toArray, List.set_cons_zero, List.set_cons_succ]
      refine wpAnyH_take (i := 4) (v := ?_) rfl (by kernel_rfl) (by kernel_rfl) (by kernel_rfl) (fun _ _ _ h => h) (Or.inl ⟨by rfl, ?_⟩) (by assumption) ?_
      rotate_left
      · (intro w hSw; (try dsimp only at hSw); go_simp; (try with_reducible rfl))
      simp only [Act.put, List.getElem_toArray, List.getElem_cons_zero, List.getElem_cons_succ, List.setIfInBounds_toArray, List.set_cons_zero, List.set_cons_succ]
      refine wpAnyH_ready (rs := [9]) (by kernel_rfl) (by simp) ?_
      refine AllReadyH.cons rfl (fun K hK => ?_) AllReadyH.nil
      rw [if_pos (by rfl)]
      go_simp
      ((with_reducible refine (qc _).mono ?_); rintro e w' ⟨rfl, bq⟩)
      have hg2 := hg.below bq; clear hg
      have hg := hg2; clear hg2
      refine hK.out _ _ (bch hHeld bq) (fun hHeld2 => ?_)
      clear hK K hHeld
      have hHeld := hHeld2; clear hHeld2
      refine wpAnyH_take (i := 10) (v := ?_) rfl (by kernel_rfl) (by kernel_rfl) (by kernel_rfl) (fun _ _ _ h => h) (Or.inl ⟨by rfl, ?_⟩) (by assumption) ?_
      rotate_left
      · (intro w hSw; (try dsimp only at hSw); go_simp; (try with_reducible rfl))
      simp only [Act.put, List.getElem_toArray, List.getElem_cons_zero, List.getElem_cons_succ, List.setIfInBounds_toArray, List.set_cons_zero, List.set_cons_succ]
      obtain ⟨c0, c1, c2⟩ := hg.cells
      simp only [zeroF] at c0 c1 c2
      have f0 := hg.frozen 0
      have f1 := hg.frozen 1
      have f2 := hg.frozen 2
      have HG := Lib.hid hg; clear hg
      refine wpAnyH_ready (rs := [12]) (by kernel_rfl) (by simp) ?_
      refine AllReadyH.cons rfl (fun K hK => ?_) AllReadyH.nil
      rw [if_pos (by rfl)]
      go_simp
      refine hK.out _ _ (((hHeld.setCell (p := ⟨_, 0, none⟩) HLE.out _).setCell (p := ⟨_, 1, none⟩) HLE.out _).setCell (p := ⟨_, 2, none⟩) HLE.out _) (fun hHeld2 => ?_)
      clear hK K hHeld
      have hHeld := hHeld2; clear hHeld2
      refine wpAnyH_done (by kernel_rfl) ?_ _
      refine NoPanic.normal ?_
      go_wp2_with fail
      go_meet
      exact ⟨_, rfl, HLE.out, HG.out.put ⟨a, 0, D⟩, hHeld⟩
    exact AllReadyH.nil
  case rest =>
    obtain ⟨g, rfl, hgl, hgb, hbm⟩ := hcut
    have hxm : FrBlk wc w.heap.size zeroF := HX.out.below hbm
    have HGB := Lib.hid hgb; clear hgb
    have HXM := Lib.hid hxm; clear hxm
    have HBM := Lib.hid hbm; clear hbm
    have hne : w.heap.size ≠ g := by have := lt_of_blk HX.out; omega
    have HGL := Lib.hid hgl; clear hgl
    have HNE := Lib.hid hne; clear hne
    go_wp2_with fail
    ((with_reducible refine (qf _).mono ?_); rintro e W2 ⟨rfl, b2⟩)
    have hb2 := bch HBM.out b2
    have HG2 := Lib.hid (HGB.out.below b2)
    have HX2 := Lib.hid (HXM.out.below b2)
    clear b2
    obtain ⟨W4, hW4⟩ : ∃ W, W2.setCell ⟨g, 1, none⟩ (.int .i64 (b : Int)) = W := ⟨_, rfl⟩
    have hg4 : FrBlk W4 g ⟨a, b, D⟩ := by rw [← hW4]; exact HG2.out.flag b
    have hx4 : FrBlk W4 w.heap.size zeroF := by rw [← hW4]; exact HX2.out.far HNE.out _ _
    have hb4 : Below W0.heap.size W0 W4 := by rw [← hW4]; exact hb2.setCell (p := ⟨g, 1, none⟩) HGL.out _
    obtain ⟨y0, y1, y2⟩ := HG2.out.cells
    simp only at y0 y1 y2
    have y3 := HG2.out.frozen 1
    obtain ⟨g0, g1, g2⟩ := hg4.cells
    simp only at g0 g1 g2
    obtain ⟨x0, x1, x2⟩ := hx4.cells
    simp only [zeroF] at x0 x1 x2
    have f0 := hx4.frozen 0
    have f1 := hx4.frozen 1
    have f2 := hx4.frozen 2
    have HX4 := Lib.hid hx4; clear hx4 hg4 hb2
    have HB2 := Lib.hid hb4; clear hb4
    go_wp2_with fail
    have hfin := HX4.out.put ⟨a, b, D⟩
    have hbf := (((bch HB0.out HB2.out).setCell (p := ⟨w.heap.size, 0, none⟩) (Nat.le_refl _) (.int .i64 (⟨a, b, D⟩ : Frm).kind)).setCell (p := ⟨w.heap.size, 1, none⟩) (Nat.le_refl _) (.int .i64 (⟨a, b, D⟩ : Frm).flags)).setCell (p := ⟨w.heap.size, 2, none⟩) (Nat.le_refl _) (.string (⟨a, b, D⟩ : Frm).data)
    obtain ⟨d0, d1, d2⟩ := hfin.cells
    simp only at d0 d1 d2 hbf
    refine bodyPost_ret (v := .agg #[.int .i64 (a : Int), .int .i64 (b : Int), .string D]) (by simp [results, Try.results38, go_sem, d0, d1, d2]) rfl ⟨rfl, hbf⟩
end Go.Proofs.Ytjciojgldibfmaa
