import Derived.Test.YtbncaolflhmgpaaDkAwake
/-
  What is appended, synced, torn off and swapped is as the document says: the walk of DiskTells, over what is asked of the program (stage 7).
-/
namespace Go.Proofs.Ytbncaolflhmgpaa
open Go.RowKit
set_option linter.unusedVariables false

/-- The numbers that are gone through. -/
def nsT (n : Int) (p : Nat) (i : Nat) : Int := if i = 0 then n else if i = 1 then (p : Int) else -1
/-- What holds in the loop. -/
def InvD (V wx : World) (g B : Nat) (a b c : ByteArray) (n : Int) (p : Nat) : Prop :=
  Below V.heap.size V wx ∧ DkBlk wx g a b c ∧ ∀ i, i < 3 → wx.cell? ⟨B, i, none⟩ = some (.int .i64 (nsT n p i))
theorem InvD.below {V wx W : World} {g B : Nat} {a b c : ByteArray} {n : Int} {p : Nat} (h : InvD V wx g B a b c n p) (hb : Below wx.heap.size wx W) : InvD V W g B a b c n p :=
  ⟨bch h.1 hb, h.2.1.below hb, fun i hi => (hb.cell (p := ⟨B, i, none⟩) (lt_of_cell (a := ⟨B, i, none⟩) (h.2.2 i hi))).trans (h.2.2 i hi)⟩

set_option maxRecDepth 100000 in
set_option maxHeartbeats 8000000 in
theorem diskTells_core (hL : LogC) (hA : AppC) (hY : SyncC) (hC : CrashC) (hP : SwapC) (a0 b0 c0' : ByteArray) (s : ByteArray) (n : Int) (w : World)
    (ha : a0.size ≤ 140737488355328) (hb : b0.size ≤ 140737488355328) (hc : c0'.size ≤ 140737488355328) (hs : s.size ≤ 140737488351232) (hn : (Lit.int .i64 n).wf = true) :
    Calls Try.prog 3 #[.agg #[.string a0, .string b0, .string c0'], .string s, .int .i64 n] w fun e w' => e = .returned (.bool true) ∧ Below w.heap.size w w' := by
  have hb0 : Below w.heap.size w (w.alloc (.cells #[.string a0, .string b0, .string c0'] 23)) := (Below.refl _ _).alloc (Nat.le_refl _) _
  have hx0 := DkBlk.new w a0 b0 c0'
  have qs := small_any a0 b0 c0' ha hb hc
  unfold SmallPost at qs
  have qw := awake7_any hL hA hY hC hP
  obtain ⟨m, i0', k0, l0⟩ := leastD s 3000
  have i0 : (if (3000 : Int) < (s.size : Int) then (3000 : Int) else (s.size : Int)) = (m : Int) := i0'
  clear i0'
  obtain ⟨t, ht⟩ : ∃ t, s.extract 0 m = t := ⟨_, rfl⟩
  have zt : t.size ≤ 3000 := by rw [← ht, ext_size s k0]; exact l0
  have st := fun W => slice_to ht k0 W
  have j0 : (m : Int) ≤ (s.size : Int) := by omega
  have qp := pickK_nat n 40 (by omega) (by omega) hn
  have hp40 := pickN_lt n 40 (by omega)
  generalize pickN n 40 = p at qp hp40
  have HB0 := Lib.hid hb0; clear hb0
  have HX0 := Lib.hid hx0; clear hx0
  have HN := Lib.hid hn; clear hn
  have HL := Lib.hid hL; clear hL
  have HA := Lib.hid hA; clear hA
  have HY := Lib.hid hY; clear hY
  have HC := Lib.hid hC; clear hC
  have HP := Lib.hid hP; clear hP
  clear ha hb hc ht l0
  go_enter Try.func3, Try.ntmps3
  go_wp2_with fail
  ((with_reducible refine (qw _).mono ?_); rintro e W1 ⟨rfl, b1⟩)
  obtain ⟨c0, c1, c2⟩ := (HX0.out.below b1).cells
  have HB1 := Lib.hid (bch HB0.out b1); clear b1
  go_wp2_with fail
  ((with_reducible refine (qs _).mono ?_); rintro e W2 ⟨a, b, c, rfl, za, zb, zc, b2⟩)
  have hb2 := bch HB1.out b2
  clear c0 c1 c2 b2
  go_upto_region 3 with fail
  obtain ⟨V2, hV2⟩ : ∃ W, W2.alloc (.cells #[.string a, .string b, .string c] 23) = W := ⟨_, rfl⟩
  have h8 : DkBlk V2 W2.heap.size a b c := by rw [← hV2]; exact DkBlk.new W2 a b c
  have hb2' : Below w.heap.size w V2 := by rw [← hV2]; exact hb2.alloc hb2.size _
  have HB2 := Lib.hid hb2'; clear hb2' hb2
  have H8 := Lib.hid h8; clear h8
  rw [hV2]
  clear hV2
  generalize W2.heap.size = g at *
  go_wp2_with fail
  ((with_reducible refine (qp _).mono ?_); rintro e W3 ⟨rfl, rfl⟩)
  have hinv0 : InvD V2 (V2.alloc (.cells #[.int .i64 n, .int .i64 (p : Int), .int .i64 (-1)] 3)) g V2.heap.size a b c n p := by
    have hx := World.alloc_heap_new V2 (.cells #[.int .i64 n, .int .i64 (p : Int), .int .i64 (-1)] 3)
    refine ⟨(Below.refl _ _).alloc (Nat.le_refl _) _, H8.out.below ((Below.refl _ _).alloc (Nat.le_refl _) _), fun i hi => ?_⟩
    rcases (by omega : i = 0 ∨ i = 1 ∨ i = 2) with rfl | rfl | rfl
    · exact cell_blk hx 0
    · exact cell_blk hx 1
    · exact cell_blk hx 2
  have HI0 := Lib.hid hinv0; clear hinv0
  go_wp2_with fail
  go_loopw [33] (fun i wy => ∃ (j : Nat) (wq : World), wq = wy ∧ j ≤ 3 ∧ i = .int .i64 j ∧ InvD V2 wq g V2.heap.size a b c n p) (fun i _ => 3 - (intOf i).toNat)
  case atStart => exact ⟨0, _, rfl, by omega, rfl, HI0.out⟩
  case round =>
    clear HI0
    obtain ⟨j, wq, rfl, hj, rfl, hinv⟩ := hrel
    generalize V2.heap.size = B1 at *
    by_cases hj3 : j < 3
    · have hc := hinv.2.2 j hj3
      have hxw : (Lit.int .i64 (nsT n p j)).wf = true := by
        unfold nsT
        split
        · exact HN.out
        · split
          · rw [show (Lit.int .i64 (p : Int)).wf = (decide (-9223372036854775808 ≤ (p : Int)) && decide ((p : Int) ≤ 9223372036854775807)) from rfl]
            simp; omega
          · decide
      generalize nsT n p j = x at hc hxw
      have hj0 : (0 : Int) ≤ (j : Int) := by omega
      have hj1 : (j : Int) < (3 : Int) := by omega
      obtain ⟨y, hy⟩ : ∃ y, b ++ c.extract 0 (tearN x c.size) = y := ⟨_, rfl⟩
      have p1 := fun W => HC.out.at (a := a) hy (by omega) (by omega) hxw W
      have p2 := fun W => refcrash_at (a := a) hy (by omega) (by omega) hxw W
      have heq := eqDk_same a y ⟨#[]⟩
      have hgu := guardDk
      have hs3 : ∀ W, W = wq.drew → (W.cell? ⟨g, 0, none⟩ = some (.string a) ∧ W.cell? ⟨g, 1, none⟩ = some (.string b) ∧ W.cell? ⟨g, 2, none⟩ = some (.string c) ∧ Below wq.heap.size wq W) := by
        rintro W rfl
        obtain ⟨c0, c1, c2⟩ := hinv.2.1.cells
        exact ⟨c0, c1, c2, (Below.refl _ _).drew⟩
      have HS3 := Lib.hid hs3; clear hs3
      have HINV := Lib.hid hinv; clear hinv
      clear hy
      go_upto_region 7 with fail
      go_region_held3 (fun W => W.cell? ⟨g, 0, none⟩ = some (.string a) ∧ W.cell? ⟨g, 1, none⟩ = some (.string b) ∧ W.cell? ⟨g, 2, none⟩ = some (.string c) ∧ Below wq.heap.size wq W) (first | exact HS3.out _ rfl | exact dk_keep (by assumption) (by assumption)) (first | ((with_reducible refine (p1 _).mono ?_); rintro e w' ⟨rfl, bq⟩) | ((with_reducible refine (p2 _).mono ?_); rintro e w' ⟨rfl, bq⟩))
      rename_i hH
      have hi4 := HINV.out.below hH.2.2.2
      clear HINV HS3 hH p1 p2 hc
      have HI4 := Lib.hid hi4; clear hi4
      go_wp2_with fail
      go_roundw
      case rel => exact ⟨j + 1, _, rfl, by omega, by go_num, HI4.out⟩
      case measure => simp [intOf]; omega
    · have hj3e : j = 3 := by omega
      subst hj3e
      clear hj3 hj
      have hBQ := bch HB2.out hinv.1
      obtain ⟨y, hy⟩ : ∃ y, b ++ c = y := ⟨_, rfl⟩
      obtain ⟨x, hx⟩ : ∃ x, c ++ t = x := ⟨_, rfl⟩
      have q1 := fun W => HA.out.ok (a := a) (b := b) hx (by omega) W
      have q2 := fun W => refapp_ok (a := a) (b := b) hx (by omega) W
      have q3 := fun W => HP.out.ok (a := a) (b := b) (c := c) (s := t) (by omega) W
      have q4 := fun W => refswap_ok (a := a) (b := b) (c := c) (s := t) (by omega) W
      have py := fun W => HY.out.at (a := a) hy (by omega) (by omega) W
      have ry := fun W => refsync_at (a := a) hy (by omega) (by omega) W
      have pl := fun W => HL.out.at (a := a) hy (by omega) (by omega) W
      have rl := fun W => reflog_at (a := a) hy (by omega) (by omega) W
      have hq1 := eqDk_same a b x
      have hq2 := eqDk_same t ⟨#[]⟩ ⟨#[]⟩
      have hq3 := eqDk_same a y ⟨#[]⟩
      have hgu := guardDk
      have hyy : (y.toList == y.toList) = true := by simp
      have hg := hinv.2.1
      have HBQ := Lib.hid hBQ; clear hBQ hinv
      clear hx hy
      obtain ⟨c0, c1, c2⟩ := hg.cells
      have HG0 := Lib.hid hg; clear hg
      go_wp2_with fail
      ((with_reducible refine (q1 _).mono ?_); rintro e R0 ⟨rfl, bq⟩)
      clear c0 c1 c2
      have bn := bch HBQ.out bq
      have bm := bq.alloc bq.size (.cells #[.string a, .string b, .string x] 23)
      go_upto_region 11 with fail
      obtain ⟨U0, hV⟩ : ∃ W, R0.alloc (.cells #[.string a, .string b, .string x] 23) = W := ⟨_, rfl⟩
      have hn0 : DkBlk U0 R0.heap.size a b x := by rw [← hV]; exact DkBlk.new R0 _ _ _
      have hbn : Below w.heap.size w U0 := by rw [← hV]; exact bn.alloc bn.size _
      rw [hV] at bm
      have HG0_ := Lib.hid (HG0.out.below bm); clear HG0
      have HG0 := HG0_; clear HG0_
      have HN0 := Lib.hid hn0; clear hn0
      have HBN0 := Lib.hid hbn; clear hbn bn bm bq
      obtain ⟨c0, c1, c2⟩ := HG0.out.cells
      rw [hV]
      clear hV
      go_wp2_with fail
      ((with_reducible refine (q2 _).mono ?_); rintro e R1 ⟨rfl, bq⟩)
      clear c0 c1 c2
      have bn := bch HBN0.out bq
      have bm := bq.alloc bq.size (.cells #[.string a, .string b, .string x] 23)
      go_upto_region 12 with fail
      obtain ⟨U1, hV⟩ : ∃ W, R1.alloc (.cells #[.string a, .string b, .string x] 23) = W := ⟨_, rfl⟩
      have hn1 : DkBlk U1 R1.heap.size a b x := by rw [← hV]; exact DkBlk.new R1 _ _ _
      have hbn : Below w.heap.size w U1 := by rw [← hV]; exact bn.alloc bn.size _
      rw [hV] at bm
      have HG0_ := Lib.hid (HG0.out.below bm); clear HG0
      have HG0 := HG0_; clear HG0_
      have HN0_ := Lib.hid (HN0.out.below bm); clear HN0
      have HN0 := HN0_; clear HN0_
      have HN1 := Lib.hid hn1; clear hn1
      have HBN1 := Lib.hid hbn; clear hbn bn bm bq
      obtain ⟨c0, c1, c2⟩ := HG0.out.cells
      rw [hV]
      clear hV
      go_wp2_with fail
      ((with_reducible refine (q3 _).mono ?_); rintro e R2 ⟨rfl, bq⟩)
      clear c0 c1 c2
      have bn := bch HBN1.out bq
      have bm := bq.alloc bq.size (.cells #[.string t, .string ⟨#[]⟩, .string ⟨#[]⟩] 23)
      go_upto_region 13 with fail
      obtain ⟨U2, hV⟩ : ∃ W, R2.alloc (.cells #[.string t, .string ⟨#[]⟩, .string ⟨#[]⟩] 23) = W := ⟨_, rfl⟩
      have hn2 : DkBlk U2 R2.heap.size t ⟨#[]⟩ ⟨#[]⟩ := by rw [← hV]; exact DkBlk.new R2 _ _ _
      have hbn : Below w.heap.size w U2 := by rw [← hV]; exact bn.alloc bn.size _
      rw [hV] at bm
      have HG0_ := Lib.hid (HG0.out.below bm); clear HG0
      have HG0 := HG0_; clear HG0_
      have HN0_ := Lib.hid (HN0.out.below bm); clear HN0
      have HN0 := HN0_; clear HN0_
      have HN1_ := Lib.hid (HN1.out.below bm); clear HN1
      have HN1 := HN1_; clear HN1_
      have HN2 := Lib.hid hn2; clear hn2
      have HBN2 := Lib.hid hbn; clear hbn bn bm bq
      obtain ⟨c0, c1, c2⟩ := HG0.out.cells
      rw [hV]
      clear hV
      go_wp2_with fail
      ((with_reducible refine (q4 _).mono ?_); rintro e R3 ⟨rfl, bq⟩)
      clear c0 c1 c2
      have bn := bch HBN2.out bq
      have bm := bq.alloc bq.size (.cells #[.string t, .string ⟨#[]⟩, .string ⟨#[]⟩] 23)
      go_upto_region 14 with fail
      obtain ⟨U3, hV⟩ : ∃ W, R3.alloc (.cells #[.string t, .string ⟨#[]⟩, .string ⟨#[]⟩] 23) = W := ⟨_, rfl⟩
      have hn3 : DkBlk U3 R3.heap.size t ⟨#[]⟩ ⟨#[]⟩ := by rw [← hV]; exact DkBlk.new R3 _ _ _
      have hbn : Below w.heap.size w U3 := by rw [← hV]; exact bn.alloc bn.size _
      rw [hV] at bm
      have HG0_ := Lib.hid (HG0.out.below bm); clear HG0
      have HG0 := HG0_; clear HG0_
      have HN0_ := Lib.hid (HN0.out.below bm); clear HN0
      have HN0 := HN0_; clear HN0_
      have HN1_ := Lib.hid (HN1.out.below bm); clear HN1
      have HN1 := HN1_; clear HN1_
      have HN2_ := Lib.hid (HN2.out.below bm); clear HN2
      have HN2 := HN2_; clear HN2_
      have HN3 := Lib.hid hn3; clear hn3
      have HBN3 := Lib.hid hbn; clear hbn bn bm bq
      obtain ⟨c0, c1, c2⟩ := HG0.out.cells
      rw [hV]
      clear hV
      clear c0 c1 c2
      clear H8; have H8_ := Lib.hid HG0.out.drew; clear HG0
      have H12_ := Lib.hid HN0.out.drew; clear HN0
      have H14_ := Lib.hid HN1.out.drew; clear HN1
      have H16_ := Lib.hid HN2.out.drew; clear HN2
      have H18_ := Lib.hid HN3.out.drew; clear HN3
      refine wp_region_noPanic ?_
      refine wp_region_held_drew (S := fun W => Below U3.drew.heap.size U3.drew W) (by kernel_rfl) (Below.refl _ _) (fun hHeld => ?_)
      refine wpAnyH_take (i := 0) (v := ?_) rfl (by kernel_rfl) (by kernel_rfl) (by kernel_rfl) (fun _ _ _ h => h) (Or.inl ⟨by rfl, ?_⟩) (by assumption) ?_
      rotate_left
      · (intro w hSw; (try dsimp only at hSw); go_simp; (try with_reducible rfl))
      simp only [Act.put, List.getElem_toArray, List.getElem_cons_zero, List.setIfInBounds_toArray, List.set_cons_zero, List.set_cons_succ]
      refine wpAnyH_take (i := 1) (v := ?_) rfl (by kernel_rfl) (by kernel_rfl) (by kernel_rfl) (fun _ _ _ h => h) (Or.inl ⟨by rfl, ?_⟩) (by assumption) ?_
      rotate_left
      · (intro w hSw; (try dsimp only at hSw); go_simp; (try with_reducible rfl))
      simp only [Act.put, List.getElem_toArray, List.getElem_cons_zero, List.getElem_cons_succ, List.setIfInBounds_toArray, List.set_cons_zero, List.set_cons_succ]
      refine wpAnyH_take (i := 2) (v := ?_) rfl (by kernel_rfl) (by kernel_rfl) (by kernel_rfl) (fun _ _ _ h => h) (Or.inl ⟨by rfl, ?_⟩) (by assumption) ?_
      rotate_left
      · (intro w hSw; (try dsimp only at hSw); obtain ⟨c0, c1, c2⟩ := (H12_.out.below hSw).cells; go_simp; (try with_reducible rfl))
      simp only [Act.put, List.getElem_toArray, List.getElem_cons_zero, List.getElem_cons_succ, List.setIfInBounds_toArray, List.set_cons_zero, List.set_cons_succ]
      refine wpAnyH_take (i := 3) (v := ?_) rfl (by kernel_rfl) (by kernel_rfl) (by kernel_rfl) (fun _ _ _ h => h) (Or.inl ⟨by rfl, ?_⟩) (by assumption) ?_
      rotate_left
      · (intro w hSw; (try dsimp only at hSw); obtain ⟨c0, c1, c2⟩ := (H14_.out.below hSw).cells; go_simp; (try with_reducible rfl))
      simp only [Act.put, List.getElem_toArray, List.getElem_cons_zero, List.getElem_cons_succ, List.setIfInBounds_toArray, List.set_cons_zero, List.set_cons_succ]
      refine wpAnyH_take (i := 4) (v := ?_) rfl (by kernel_rfl) (by kernel_rfl) (by kernel_rfl) (fun _ _ _ h => h) (Or.inl ⟨by rfl, ?_⟩) (by assumption) ?_
      rotate_left
      · (intro w hSw; (try dsimp only at hSw); go_simp; (try with_reducible rfl))
      simp only [Act.put, List.getElem_toArray, List.getElem_cons_zero, List.getElem_cons_succ, List.setIfInBounds_toArray, List.set_cons_zero, List.set_cons_succ]
      refine wpAnyH_take (i := 5) (v := ?_) rfl (by kernel_rfl) (by kernel_rfl) (by kernel_rfl) (fun _ _ _ h => h) (Or.inl ⟨by rfl, ?_⟩) (by assumption) ?_
      rotate_left
      · (intro w hSw; (try dsimp only at hSw); go_simp; (try with_reducible rfl))
      simp only [Act.put, List.getElem_toArray, List.getElem_cons_zero, List.getElem_cons_succ, List.setIfInBounds_toArray, List.set_cons_zero, List.set_cons_succ]
      refine wpAnyH_take (i := 6) (v := ?_) rfl (by kernel_rfl) (by kernel_rfl) (by kernel_rfl) (fun _ _ _ h => h) (Or.inl ⟨by rfl, ?_⟩) (by assumption) ?_
      rotate_left
      · (intro w hSw; (try dsimp only at hSw); go_simp; (try with_reducible rfl))
      simp only [Act.put, List.getElem_toArray, List.getElem_cons_zero, List.getElem_cons_succ, List.setIfInBounds_toArray, List.set_cons_zero, List.set_cons_succ]
      refine wpAnyH_take (i := 7) (v := ?_) rfl (by kernel_rfl) (by kernel_rfl) (by kernel_rfl) (fun _ _ _ h => h) (Or.inl ⟨by rfl, ?_⟩) (by assumption) ?_
      rotate_left
      · (intro w hSw; (try dsimp only at hSw); go_simp; (try with_reducible rfl))
      simp only [Act.put, List.getElem_toArray, List.getElem_cons_zero, List.getElem_cons_succ, List.setIfInBounds_toArray, List.set_cons_zero, List.set_cons_succ]
      refine wpAnyH_take (i := 8) (v := ?_) rfl (by kernel_rfl) (by kernel_rfl) (by kernel_rfl) (fun _ _ _ h => h) (Or.inl ⟨by rfl, ?_⟩) (by assumption) ?_
      rotate_left
      · (intro w hSw; (try dsimp only at hSw); go_simp; (try with_reducible rfl))
      simp only [Act.put, List.getElem_toArray, List.getElem_cons_zero, List.getElem_cons_succ, List.setIfInBounds_toArray, List.set_cons_zero, List.set_cons_succ]
      refine wpAnyH_take (i := 9) (v := ?_) rfl (by kernel_rfl) (by kernel_rfl) (by kernel_rfl) (fun _ _ _ h => h) (Or.inl ⟨by rfl, ?_⟩) (by assumption) ?_
      rotate_left
      · (intro w hSw; (try dsimp only at hSw); go_simp; (try with_reducible rfl))
      simp only [Act.put, List.getElem_toArray, List.getElem_cons_zero, List.getElem_cons_succ, List.setIfInBounds_toArray, List.set_cons_zero, List.set_cons_succ]
      refine wpAnyH_take (i := 10) (v := ?_) rfl (by kernel_rfl) (by kernel_rfl) (by kernel_rfl) (fun _ _ _ h => h) (Or.inl ⟨by rfl, ?_⟩) (by assumption) ?_
      rotate_left
      · (intro w hSw; (try dsimp only at hSw); go_simp; (try with_reducible rfl))
      simp only [Act.put, List.getElem_toArray, List.getElem_cons_zero, List.getElem_cons_succ, List.setIfInBounds_toArray, List.set_cons_zero, List.set_cons_succ]
      refine wpAnyH_take (i := 11) (v := ?_) rfl (by kernel_rfl) (by kernel_rfl) (by kernel_rfl) (fun _ _ _ h => h) (Or.inl ⟨by rfl, ?_⟩) (by assumption) ?_
      rotate_left
      · (intro w hSw; (try dsimp only at hSw); go_simp; (try with_reducible rfl))
      simp only [Act.put, List.getElem_toArray, List.getElem_cons_zero, List.getElem_cons_succ, List.setIfInBounds_toArray, List.set_cons_zero, List.set_cons_succ]
      refine wpAnyH_take (i := 12) (v := ?_) rfl (by kernel_rfl) (by kernel_rfl) (by kernel_rfl) (fun _ _ _ h => h) (Or.inl ⟨by rfl, ?_⟩) (by assumption) ?_
      rotate_left
      · (intro w hSw; (try dsimp only at hSw); obtain ⟨c0, c1, c2⟩ := (H16_.out.below hSw).cells; go_simp; (try with_reducible rfl))
      simp only [Act.put, List.getElem_toArray, List.getElem_cons_zero, List.getElem_cons_succ, List.setIfInBounds_toArray, List.set_cons_zero, List.set_cons_succ]
      refine wpAnyH_take (i := 13) (v := ?_) rfl (by kernel_rfl) (by kernel_rfl) (by kernel_rfl) (fun _ _ _ h => h) (Or.inl ⟨by rfl, ?_⟩) (by assumption) ?_
      rotate_left
      · (intro w hSw; (try dsimp only at hSw); obtain ⟨c0, c1, c2⟩ := (H18_.out.below hSw).cells; go_simp; (try with_reducible rfl))
      simp only [Act.put, List.getElem_toArray, List.getElem_cons_zero, List.getElem_cons_succ, List.setIfInBounds_toArray, List.set_cons_zero, List.set_cons_succ]
      refine wpAnyH_take (i := 14) (v := ?_) rfl (by kernel_rfl) (by kernel_rfl) (by kernel_rfl) (fun _ _ _ h => h) (Or.inl ⟨by rfl, ?_⟩) (by assumption) ?_
      rotate_left
      · (intro w hSw; (try dsimp only at hSw); go_simp; (try with_reducible rfl))
      simp only [Act.put, List.getElem_toArray, List.getElem_cons_zero, List.getElem_cons_succ, List.setIfInBounds_toArray, List.set_cons_zero, List.set_cons_succ]
      refine wpAnyH_take (i := 15) (v := ?_) rfl (by kernel_rfl) (by kernel_rfl) (by kernel_rfl) (fun _ _ _ h => h) (Or.inl ⟨by rfl, ?_⟩) (by assumption) ?_
      rotate_left
      · (intro w hSw; (try dsimp only at hSw); go_simp; (try with_reducible rfl))
      simp only [Act.put, List.getElem_toArray, List.getElem_cons_zero, List.getElem_cons_succ, List.setIfInBounds_toArray, List.set_cons_zero, List.set_cons_succ]
      refine wpAnyH_take (i := 16) (v := ?_) rfl (by kernel_rfl) (by kernel_rfl) (by kernel_rfl) (fun _ _ _ h => h) (Or.inl ⟨by rfl, ?_⟩) (by assumption) ?_
      rotate_left
      · (intro w hSw; (try dsimp only at hSw); go_simp; (try with_reducible rfl))
      simp only [Act.put, List.getElem_toArray, List.getElem_cons_zero, List.getElem_cons_succ, List.setIfInBounds_toArray, List.set_cons_zero, List.set_cons_succ]
      refine wpAnyH_take (i := 17) (v := ?_) rfl (by kernel_rfl) (by kernel_rfl) (by kernel_rfl) (fun _ _ _ h => h) (Or.inl ⟨by rfl, ?_⟩) (by assumption) ?_
      rotate_left
      · (intro w hSw; (try dsimp only at hSw); go_simp; (try with_reducible rfl))
      simp only [Act.put, List.getElem_toArray, List.getElem_cons_zero, List.getElem_cons_succ, List.setIfInBounds_toArray, List.set_cons_zero, List.set_cons_succ]
      refine wpAnyH_take (i := 18) (v := ?_) rfl (by kernel_rfl) (by kernel_rfl) (by kernel_rfl) (fun _ _ _ h => h) (Or.inl ⟨by rfl, ?_⟩) (by assumption) ?_
      rotate_left
      · (intro w hSw; (try dsimp only at hSw); go_simp; (try with_reducible rfl))
      simp only [Act.put, List.getElem_toArray, List.getElem_cons_zero, List.getElem_cons_succ, List.setIfInBounds_toArray, List.set_cons_zero, List.set_cons_succ]
      refine wpAnyH_take (i := 19) (v := ?_) rfl (by kernel_rfl) (by kernel_rfl) (by kernel_rfl) (fun _ _ _ h => h) (Or.inl ⟨by rfl, ?_⟩) (by assumption) ?_
      rotate_left
      · (intro w hSw; (try dsimp only at hSw); go_simp; (try with_reducible rfl))
      simp only [Act.put, List.getElem_toArray, List.getElem_cons_zero, List.getElem_cons_succ, List.setIfInBounds_toArray, List.set_cons_zero, List.set_cons_succ]
      refine wpAnyH_take (i := 20) (v := ?_) rfl (by kernel_rfl) (by kernel_rfl) (by kernel_rfl) (fun _ _ _ h => h) (Or.inl ⟨by rfl, ?_⟩) (by assumption) ?_
      rotate_left
      · (intro w hSw; (try dsimp only at hSw); go_simp; (try with_reducible rfl))
      simp only [Act.put, List.getElem_toArray, List.getElem_cons_zero, List.getElem_cons_succ, List.setIfInBounds_toArray, List.set_cons_zero, List.set_cons_succ]
      refine wpAnyH_take (i := 21) (v := ?_) rfl (by kernel_rfl) (by kernel_rfl) (by kernel_rfl) (fun _ _ _ h => h) (Or.inl ⟨by rfl, ?_⟩) (by assumption) ?_
      rotate_left
      · (intro w hSw; (try dsimp only at hSw); go_simp; (try with_reducible rfl))
      simp only [Act.put, List.getElem_toArray, List.getElem_cons_zero, List.getElem_cons_succ, List.setIfInBounds_toArray, List.set_cons_zero, List.set_cons_succ]
      refine wpAnyH_take (i := 22) (v := ?_) rfl (by kernel_rfl) (by kernel_rfl) (by kernel_rfl) (fun _ _ _ h => h) (Or.inl ⟨by rfl, ?_⟩) (by assumption) ?_
      rotate_left
      · (intro w hSw; (try dsimp only at hSw); obtain ⟨c0, c1, c2⟩ := (H8_.out.below hSw).cells; go_simp; (try with_reducible rfl))
      simp only [Act.put, List.getElem_toArray, List.getElem_cons_zero, List.getElem_cons_succ, List.setIfInBounds_toArray, List.set_cons_zero, List.set_cons_succ]
      refine wpAnyH_take (i := 24) (v := ?_) rfl (by kernel_rfl) (by kernel_rfl) (by kernel_rfl) (fun _ _ _ h => h) (Or.inl ⟨by rfl, ?_⟩) (by assumption) ?_
      rotate_left
      · (intro w hSw; (try dsimp only at hSw); obtain ⟨c0, c1, c2⟩ := (H8_.out.below hSw).cells; go_simp; (try with_reducible rfl))
      simp only [Act.put, List.getElem_toArray, List.getElem_cons_zero, List.getElem_cons_succ, List.setIfInBounds_toArray, List.set_cons_zero, List.set_cons_succ]
      refine wpAnyH_ready (rs := [23]) (by kernel_rfl) (by simp) ?_
      refine AllReadyH.cons rfl (fun K hK => ?_) AllReadyH.nil
      rw [if_pos (by rfl)]
      go_simp
      ((with_reducible refine (py _).mono ?_); rintro e w' ⟨rfl, bq⟩)
      refine hK.out _ _ (bch hHeld bq) (fun hHeld2 => ?_)
      clear hK K hHeld
      have hHeld := hHeld2; clear hHeld2
      refine wpAnyH_ready (rs := [25]) (by kernel_rfl) (by simp) ?_
      refine AllReadyH.cons rfl (fun K hK => ?_) AllReadyH.nil
      rw [if_pos (by rfl)]
      go_simp
      ((with_reducible refine (ry _).mono ?_); rintro e w' ⟨rfl, bq⟩)
      refine hK.out _ _ (bch hHeld bq) (fun hHeld2 => ?_)
      clear hK K hHeld
      have hHeld := hHeld2; clear hHeld2
      refine wpAnyH_take (i := 26) (v := ?_) rfl (by kernel_rfl) (by kernel_rfl) (by kernel_rfl) (fun _ _ _ h => h) (Or.inl ⟨by rfl, ?_⟩) (by assumption) ?_
      rotate_left
      · (intro w hSw; (try dsimp only at hSw); go_simp; (try with_reducible rfl))
      simp only [Act.put, List.getElem_toArray, List.getElem_cons_zero, List.getElem_cons_succ, List.setIfInBounds_toArray, List.set_cons_zero, List.set_cons_succ]
      refine wpAnyH_take (i := 27) (v := ?_) rfl (by kernel_rfl) (by kernel_rfl) (by kernel_rfl) (fun _ _ _ h => h) (Or.inl ⟨by rfl, ?_⟩) (by assumption) ?_
      rotate_left
      · (intro w hSw; (try dsimp only at hSw); go_simp; (try with_reducible rfl))
      simp only [Act.put, List.getElem_toArray, List.getElem_cons_zero, List.getElem_cons_succ, List.setIfInBounds_toArray, List.set_cons_zero, List.set_cons_succ]
      refine wpAnyH_take (i := 28) (v := ?_) rfl (by kernel_rfl) (by kernel_rfl) (by kernel_rfl) (fun _ _ _ h => h) (Or.inl ⟨by rfl, ?_⟩) (by assumption) ?_
      rotate_left
      · (intro w hSw; (try dsimp only at hSw); go_simp; (try with_reducible rfl))
      simp only [Act.put, List.getElem_toArray, List.getElem_cons_zero, List.getElem_cons_succ, List.setIfInBounds_toArray, List.set_cons_zero, List.set_cons_succ]
      refine wpAnyH_take (i := 29) (v := ?_) rfl (by kernel_rfl) (by kernel_rfl) (by kernel_rfl) (fun _ _ _ h => h) (Or.inl ⟨by rfl, ?_⟩) (by assumption) ?_
      rotate_left
      · (intro w hSw; (try dsimp only at hSw); obtain ⟨c0, c1, c2⟩ := (H8_.out.below hSw).cells; go_simp; (try with_reducible rfl))
      simp only [Act.put, List.getElem_toArray, List.getElem_cons_zero, List.getElem_cons_succ, List.setIfInBounds_toArray, List.set_cons_zero, List.set_cons_succ]
      refine wpAnyH_take (i := 31) (v := ?_) rfl (by kernel_rfl) (by kernel_rfl) (by kernel_rfl) (fun _ _ _ h => h) (Or.inl ⟨by rfl, ?_⟩) (by assumption) ?_
      rotate_left
      · (intro w hSw; (try dsimp only at hSw); obtain ⟨c0, c1, c2⟩ := (H8_.out.below hSw).cells; go_simp; (try with_reducible rfl))
      simp only [Act.put, List.getElem_toArray, List.getElem_cons_zero, List.getElem_cons_succ, List.setIfInBounds_toArray, List.set_cons_zero, List.set_cons_succ]
      refine wpAnyH_ready (rs := [30]) (by kernel_rfl) (by simp) ?_
      refine AllReadyH.cons rfl (fun K hK => ?_) AllReadyH.nil
      rw [if_pos (by rfl)]
      go_simp
      ((with_reducible refine (pl _).mono ?_); rintro e w' ⟨rfl, bq⟩)
      refine hK.out _ _ (bch hHeld bq) (fun hHeld2 => ?_)
      clear hK K hHeld
      have hHeld := hHeld2; clear hHeld2
      refine wpAnyH_ready (rs := [32]) (by kernel_rfl) (by simp) ?_
      refine AllReadyH.cons rfl (fun K hK => ?_) AllReadyH.nil
      rw [if_pos (by rfl)]
      go_simp
      ((with_reducible refine (rl _).mono ?_); rintro e w' ⟨rfl, bq⟩)
      refine hK.out _ _ (bch hHeld bq) (fun hHeld2 => ?_)
      clear hK K hHeld
      have hHeld := hHeld2; clear hHeld2
      refine wpAnyH_take (i := 33) (v := ?_) rfl (by kernel_rfl) (by kernel_rfl) (by kernel_rfl) (fun _ _ _ h => h) (Or.inl ⟨by rfl, ?_⟩) (by assumption) ?_
      rotate_left
      · (intro w hSw; (try dsimp only at hSw); go_simp; (try with_reducible rfl))
      simp only [Act.put, List.getElem_toArray, List.getElem_cons_zero, List.getElem_cons_succ, List.setIfInBounds_toArray, List.set_cons_zero, List.set_cons_succ]
      refine wpAnyH_take (i := 34) (v := ?_) rfl (by kernel_rfl) (by kernel_rfl) (by kernel_rfl) (fun _ _ _ h => h) (Or.inl ⟨by rfl, ?_⟩) (by assumption) ?_
      rotate_left
      · (intro w hSw; (try dsimp only at hSw); go_simp; (try with_reducible rfl))
      simp only [Act.put, List.getElem_toArray, List.getElem_cons_zero, List.getElem_cons_succ, List.setIfInBounds_toArray, List.set_cons_zero, List.set_cons_succ]
      refine wpAnyH_take (i := 35) (v := ?_) rfl (by kernel_rfl) (by kernel_rfl) (by kernel_rfl) (fun _ _ _ h => h) (Or.inl ⟨by rfl, ?_⟩) (by assumption) ?_
      rotate_left
      · (intro w hSw; (try dsimp only at hSw); go_simp; (try with_reducible rfl))
      simp only [Act.put, List.getElem_toArray, List.getElem_cons_zero, List.getElem_cons_succ, List.setIfInBounds_toArray, List.set_cons_zero, List.set_cons_succ]
      refine wpAnyH_done (by kernel_rfl) ?_ _
      refine NoPanic.normal ?_
      have hbe := bch HBN3.out.drew hHeld
      clear hHeld
      go_wp2_with fail
      go_ret
      exact ⟨rfl, hbe⟩
end Go.Proofs.Ytbncaolflhmgpaa
