import Derived.Test.YtjdpihppniibjaaWire
import Derived.Test.YtjdpihppniibjaaGMath
import Derived.Test.YtjdpihppniibjaaGPick
import Derived.Deep.DeepCutAuto
/-
  The contract of the law's own helper 'Message': a message that may be, of raw numbers (stage 8).
-/
namespace Go.Proofs.Ytjdpihppniibjaa
open Go.RowKit
set_option linter.unusedVariables false

/-- Five raw numbers in a block. -/
def A5Blk (W : World) (b : Nat) (a0 a1 a2 a3 a4 : Int) : Prop := W.heap[b]? = some (.cells #[.int .i64 a0, .int .i64 a1, .int .i64 a2, .int .i64 a3, .int .i64 a4] 24 (0, 0))
theorem A5Blk.below {w w' : World} {b : Nat} {a0 a1 a2 a3 a4 : Int} (h : A5Blk w b a0 a1 a2 a3 a4) (hb : Below w.heap.size w w') : A5Blk w' b a0 a1 a2 a3 a4 := Eq.trans (hb.block b (lt_of_blk h)) h
theorem A5Blk.cells {w : World} {b : Nat} {a0 a1 a2 a3 a4 : Int} (h : A5Blk w b a0 a1 a2 a3 a4) : w.cell? ⟨b, 0, none⟩ = some (.int .i64 a0) ∧ w.cell? ⟨b, 1, none⟩ = some (.int .i64 a1) ∧ w.cell? ⟨b, 2, none⟩ = some (.int .i64 a2) ∧ w.cell? ⟨b, 3, none⟩ = some (.int .i64 a3) ∧ w.cell? ⟨b, 4, none⟩ = some (.int .i64 a4) :=
  ⟨cell_blk h 0, cell_blk h 1, cell_blk h 2, cell_blk h 3, cell_blk h 4⟩
theorem A5Blk.far {W : World} {b g : Nat} {a0 a1 a2 a3 a4 : Int} (h : A5Blk W b a0 a1 a2 a3 a4) (hne : b ≠ g) (j : Nat) (u : Value) : A5Blk (W.setCell ⟨g, j, none⟩ u) b a0 a1 a2 a3 a4 := Eq.trans (heap_setCell_other W ⟨g, j, none⟩ b u hne) h
theorem A5Blk.new (W : World) (a0 a1 a2 a3 a4 : Int) : A5Blk (W.alloc (.cells #[.int .i64 a0, .int .i64 a1, .int .i64 a2, .int .i64 a3, .int .i64 a4] 24)) W.heap.size a0 a1 a2 a3 a4 := World.alloc_heap_new W _
theorem MgBlk.kind {W : World} {g : Nat} {m : Mg} (h : MgBlk W g m) (z : Int) : MgBlk (W.setCell ⟨g, 0, none⟩ (.int .i64 z)) g { m with kind := z } := heap_setCell_same _ g 0 _ _ _ h
theorem MgBlk.seq {W : World} {g : Nat} {m : Mg} (h : MgBlk W g m) (z : Int) : MgBlk (W.setCell ⟨g, 3, none⟩ (.int .i64 z)) g { m with seq := z } := heap_setCell_same _ g 3 _ _ _ h
theorem MgBlk.trace {W : World} {g : Nat} {m : Mg} (h : MgBlk W g m) (z : Int) : MgBlk (W.setCell ⟨g, 5, none⟩ (.int .i64 z)) g { m with trace := z } := heap_setCell_same _ g 5 _ _ _ h
theorem below_put6 {a W : World} (h : Below a.heap.size a W) {g : Nat} (hg : a.heap.size ≤ g) (v0 v1 v2 v3 v4 v5 : Value) :
    Below a.heap.size a ((((((W.setCell ⟨g, 0, none⟩ v0).setCell ⟨g, 1, none⟩ v1).setCell ⟨g, 2, none⟩ v2).setCell ⟨g, 3, none⟩ v3).setCell ⟨g, 4, none⟩ v4).setCell ⟨g, 5, none⟩ v5) :=
  (((((h.setCell (p := ⟨g, 0, none⟩) hg v0).setCell (p := ⟨g, 1, none⟩) hg v1).setCell (p := ⟨g, 2, none⟩) hg v2).setCell (p := ⟨g, 3, none⟩) hg v3).setCell (p := ⟨g, 4, none⟩) hg v4).setCell (p := ⟨g, 5, none⟩) hg v5
/-- The message that 'Message' makes. -/
def msgR (v a0 a1 a2 a3 a4 : Int) (t : ByteArray) : Mg :=
  if v = 2 then ⟨1 + (pickN a0 20 : Int), pickN a1 9, pickN a2 9, pickN a3 300, t.extract 0 (min t.size 300), pickN a4 300⟩
  else ⟨1 + (pickN a0 9 : Int), pickN a1 9, pickN a2 9, pickN a3 300, t.extract 0 (min t.size 300), 0⟩
theorem msgR_size (v a0 a1 a2 a3 a4 : Int) (t : ByteArray) : (msgR v a0 a1 a2 a3 a4 t).body.size ≤ 300 := by
  unfold msgR; split <;> (simp only [ByteArray.size_extract]; omega)
theorem msgR_right {v : Int} (hv : v = 1 ∨ v = 2) (a0 a1 a2 a3 a4 : Int) (t : ByteArray) : RightM v (msgR v a0 a1 a2 a3 a4 t) := by
  have hs := msgR_size v a0 a1 a2 a3 a4 t
  have h0 := pickN_lt a0 9 (by omega)
  have h1 := pickN_lt a0 20 (by omega)
  have h2 := pickN_lt a1 9 (by omega)
  have h3 := pickN_lt a2 9 (by omega)
  have h4 := pickN_lt a3 300 (by omega)
  have h5 := pickN_lt a4 300 (by omega)
  rcases hv with rfl | rfl
  · unfold msgR at hs ⊢; rw [if_neg (by decide)] at hs ⊢; rw [exR]; simp only at hs; omega
  · unfold msgR at hs ⊢; rw [if_pos rfl] at hs ⊢; rw [exR]; simp only at hs; omega
/-- A message in a block that was made on the way. -/
def MgMid (W0 wx : World) (s : Value) (m : Mg) : Prop := ∃ g, s = .pointer (some ⟨g, 0, none⟩) ∧ W0.heap.size ≤ g ∧ MgBlk wx g m ∧ Below W0.heap.size W0 wx

set_option maxRecDepth 100000 in
set_option maxHeartbeats 4000000 in
theorem message_any (v a0 a1 a2 a3 a4 : Int) (t : ByteArray) (ht : t.size ≤ 140737488355328) (h0 : (Lit.int .i64 a0).wf = true) (h1 : (Lit.int .i64 a1).wf = true) (h2 : (Lit.int .i64 a2).wf = true) (h3 : (Lit.int .i64 a3).wf = true) (h4 : (Lit.int .i64 a4).wf = true) (w : World) :
    Calls Try.prog 9 #[.int .i64 v, .agg #[.int .i64 a0, .int .i64 a1, .int .i64 a2, .int .i64 a3, .int .i64 a4], .string t] w fun e w' => e = .returned (mgV (msgR v a0 a1 a2 a3 a4 t)) ∧ Below w.heap.size w w' := by
  have q0 := pickW_nat a0 9 (by omega) (by omega) h0
  have k0 := pickN_lt a0 9 (by omega)
  have q1 := pickW_nat a1 9 (by omega) (by omega) h1
  have q2 := pickW_nat a2 9 (by omega) (by omega) h2
  have q3 := pickW_nat a3 300 (by omega) (by omega) h3
  have q5 := pickW_nat a0 20 (by omega) (by omega) h0
  have k5 := pickN_lt a0 20 (by omega)
  have q6 := pickW_nat a4 300 (by omega) (by omega) h4
  obtain ⟨R, hR⟩ : ∃ R, msgR v a0 a1 a2 a3 a4 t = R := ⟨_, rfl⟩
  rw [hR]
  unfold msgR at hR
  generalize pickN a0 9 = z0 at q0 k0 hR
  generalize pickN a1 9 = z1 at q1 hR
  generalize pickN a2 9 = z2 at q2 hR
  generalize pickN a3 300 = z3 at q3 hR
  generalize pickN a0 20 = z5 at q5 k5 hR
  generalize pickN a4 300 = z6 at q6 hR
  obtain ⟨n, hn⟩ : ∃ n, min t.size 300 = n := ⟨_, rfl⟩
  rw [hn] at hR
  obtain ⟨u, hu⟩ : ∃ u, t.extract 0 n = u := ⟨_, rfl⟩
  have hsl := fun W => slice_to hu (by omega) W
  rw [hu] at hR
  have hmin : (if (300 : Int) < (t.size : Int) then (300 : Int) else (t.size : Int)) = (n : Int) := by split <;> omega
  have hmin2 : min (t.size : Int) 300 = (n : Int) := by omega
  have n0 : (0 : Int) ≤ (n : Int) := by omega
  have n1 : (n : Int) ≤ (t.size : Int) := by omega
  have wk : IntKind.i64.wrap (1 + (z0 : Int)) = 1 + (z0 : Int) := IntWalk.i64_in _ (by omega)
  have wk5 : IntKind.i64.wrap (1 + (z5 : Int)) = 1 + (z5 : Int) := IntWalk.i64_in _ (by omega)
  have HR := Lib.hid hR; clear hR
  clear hn hu k0 k5
  have hb0 : Below w.heap.size w ((w.alloc (.cells #[.int .i64 a0, .int .i64 a1, .int .i64 a2, .int .i64 a3, .int .i64 a4] 24)).alloc (.cells #[.int .i64 0, .int .i64 0, .int .i64 0, .int .i64 0, .string ⟨#[]⟩, .int .i64 0] 23)) := ((Below.refl _ _).alloc (Nat.le_refl _) _).alloc (by simp) _
  have ha : A5Blk ((w.alloc (.cells #[.int .i64 a0, .int .i64 a1, .int .i64 a2, .int .i64 a3, .int .i64 a4] 24)).alloc (.cells #[.int .i64 0, .int .i64 0, .int .i64 0, .int .i64 0, .string ⟨#[]⟩, .int .i64 0] 23)) w.heap.size a0 a1 a2 a3 a4 := (A5Blk.new w a0 a1 a2 a3 a4).below ((Below.refl _ _).alloc (Nat.le_refl _) _)
  have hx : MgBlk ((w.alloc (.cells #[.int .i64 a0, .int .i64 a1, .int .i64 a2, .int .i64 a3, .int .i64 a4] 24)).alloc (.cells #[.int .i64 0, .int .i64 0, .int .i64 0, .int .i64 0, .string ⟨#[]⟩, .int .i64 0] 23)) (w.heap.size + 1) zeroM := by
    have h := MgBlk.new (w.alloc (.cells #[.int .i64 a0, .int .i64 a1, .int .i64 a2, .int .i64 a3, .int .i64 a4] 24)) zeroM
    rw [World.size_alloc] at h
    exact h
  have hz : ((w.alloc (.cells #[.int .i64 a0, .int .i64 a1, .int .i64 a2, .int .i64 a3, .int .i64 a4] 24)).alloc (.cells #[.int .i64 0, .int .i64 0, .int .i64 0, .int .i64 0, .string ⟨#[]⟩, .int .i64 0] 23)).heap.size = w.heap.size + 2 := by simp
  obtain ⟨W0, hW0⟩ : ∃ W, (w.alloc (.cells #[.int .i64 a0, .int .i64 a1, .int .i64 a2, .int .i64 a3, .int .i64 a4] 24)).alloc (.cells #[.int .i64 0, .int .i64 0, .int .i64 0, .int .i64 0, .string ⟨#[]⟩, .int .i64 0] 23) = W := ⟨_, rfl⟩
  rw [hW0] at hb0 ha hx hz
  have HB0 := Lib.hid hb0; clear hb0
  have HA := Lib.hid ha; clear ha
  have HX := Lib.hid hx; clear hx
  have HZ := Lib.hid hz; clear hz
  go_enter Try.func9, Try.ntmps9
  go_upto_region 1 with fail
  go_cut [7] (fun s7 wx => MgMid W0 wx s7 ⟨1 + (z0 : Int), z1, z2, z3, u, 0⟩)
  case first =>
    clear hW0
    have hl : MgMid W0 (W0.drew.alloc (.cells #[.int .i64 (1 + (z0 : Int)), .int .i64 z1, .int .i64 z2, .int .i64 z3, .string u, .int .i64 0] 23)) (.pointer (some ⟨W0.heap.size, 0, none⟩)) ⟨1 + (z0 : Int), z1, z2, z3, u, 0⟩ :=
      ⟨_, rfl, Nat.le_refl _, MgBlk.new W0.drew ⟨1 + (z0 : Int), z1, z2, z3, u, 0⟩, (Below.refl _ _).drew.alloc (Nat.le_refl _) _⟩
    have HL := Lib.hid hl; clear hl
    refine wp_region_noPanic ?_
    refine wp_region_held_drew (S := fun W => Below W0.heap.size W0 W) (by kernel_rfl) ((Below.refl _ _).drew) (fun hHeld => ?_)
    refine wpAnyH_take (i := 0) (v := ?_) rfl (by kernel_rfl) (by kernel_rfl) (by kernel_rfl) (fun _ _ _ h => h) (Or.inl ⟨by rfl, ?_⟩) (by assumption) ?_
    rotate_left
    · (intro w hSw; (try dsimp only at hSw); go_simp; (try with_reducible rfl))
    simp only [Act.put, List.getElem_toArray, List.getElem_cons_zero, List.setIfInBounds_toArray, List.set_cons_zero, List.set_cons_succ]
    refine wpAnyH_take (i := 1) (v := ?_) rfl (by kernel_rfl) (by kernel_rfl) (by kernel_rfl) (fun _ _ _ h => h) (Or.inl ⟨by rfl, ?_⟩) (by assumption) ?_
    rotate_left
    · (intro w hSw; (try dsimp only at hSw); obtain ⟨c0, c1, c2, c3, c4⟩ := (HA.out.below hSw).cells; go_simp; (try with_reducible rfl))
    simp only [Act.put, List.getElem_toArray, List.getElem_cons_zero, List.getElem_cons_succ, List.setIfInBounds_toArray, List.set_cons_zero, List.set_cons_succ]
    refine wpAnyH_take (i := 4) (v := ?_) rfl (by kernel_rfl) (by kernel_rfl) (by kernel_rfl) (fun _ _ _ h => h) (Or.inl ⟨by rfl, ?_⟩) (by assumption) ?_
    rotate_left
    · (intro w hSw; (try dsimp only at hSw); go_simp; (try with_reducible rfl))
    simp only [Act.put, List.getElem_toArray, List.getElem_cons_zero, List.getElem_cons_succ, List.setIfInBounds_toArray, List.set_cons_zero, List.set_cons_succ]
    refine wpAnyH_take (i := 5) (v := ?_) rfl (by kernel_rfl) (by kernel_rfl) (by kernel_rfl) (fun _ _ _ h => h) (Or.inl ⟨by rfl, ?_⟩) (by assumption) ?_
    rotate_left
    · (intro w hSw; (try dsimp only at hSw); obtain ⟨c0, c1, c2, c3, c4⟩ := (HA.out.below hSw).cells; go_simp; (try with_reducible rfl))
    simp only [Act.put, List.getElem_toArray, List.getElem_cons_zero, List.getElem_cons_succ, List.setIfInBounds_toArray, List.set_cons_zero, List.set_cons_succ]
    refine wpAnyH_take (i := 7) (v := ?_) rfl (by kernel_rfl) (by kernel_rfl) (by kernel_rfl) (fun _ _ _ h => h) (Or.inl ⟨by rfl, ?_⟩) (by assumption) ?_
    rotate_left
    · (intro w hSw; (try dsimp only at hSw); go_simp; (try with_reducible rfl))
    simp only [Act.put, List.getElem_toArray, List.getElem_cons_zero, List.getElem_cons_succ, List.setIfInBounds_toArray, List.set_cons_zero, List.set_cons_succ]
    refine wpAnyH_take (i := 8) (v := ?_) rfl (by kernel_rfl) (by kernel_rfl) (by kernel_rfl) (fun _ _ _ h => h) (Or.inl ⟨by rfl, ?_⟩) (by assumption) ?_
    rotate_left
    · (intro w hSw; (try dsimp only at hSw); obtain ⟨c0, c1, c2, c3, c4⟩ := (HA.out.below hSw).cells; go_simp; (try with_reducible rfl))
    simp only [Act.put, List.getElem_toArray, List.getElem_cons_zero, List.getElem_cons_succ, List.setIfInBounds_toArray, List.set_cons_zero, List.set_cons_succ]
    refine wpAnyH_take (i := 10) (v := ?_) rfl (by kernel_rfl) (by kernel_rfl) (by kernel_rfl) (fun _ _ _ h => h) (Or.inl ⟨by rfl, ?_⟩) (by assumption) ?_
    rotate_left
    · (intro w hSw; (try dsimp only at hSw); go_simp; (try with_reducible rfl))
    simp only [Act.put, List.getElem_toArray, List.getElem_cons_zero, List.getElem_cons_succ, List.setIfInBounds_toArray, List.set_cons_zero, List.set_cons_succ]
    refine wpAnyH_take (i := 11) (v := ?_) rfl (by kernel_rfl) (by kernel_rfl) (by kernel_rfl) (fun _ _ _ h => h) (Or.inl ⟨by rfl, ?_⟩) (by assumption) ?_
    rotate_left
    · (intro w hSw; (try dsimp only at hSw); obtain ⟨c0, c1, c2, c3, c4⟩ := (HA.out.below hSw).cells; go_simp; (try with_reducible rfl))
    simp only [Act.put, List.getElem_toArray, List.getElem_cons_zero, List.getElem_cons_succ, List.setIfInBounds_toArray, List.set_cons_zero, List.set_cons_succ]
    refine wpAnyH_take (i := 13) (v := ?_) rfl (by kernel_rfl) (by kernel_rfl) (by kernel_rfl) (fun _ _ _ h => h) (Or.inl ⟨by rfl, ?_⟩) (by assumption) ?_
    rotate_left
    · (intro w hSw; (try dsimp only at hSw); go_simp; (try with_reducible rfl))
    simp only [Act.put, List.getElem_toArray, List.getElem_cons_zero, List.getElem_cons_succ, List.setIfInBounds_toArray, List.set_cons_zero, List.set_cons_succ]
    refine wpAnyH_take (i := 14) (v := ?_) rfl (by kernel_rfl) (by kernel_rfl) (by kernel_rfl) (fun _ _ _ h => h) (Or.inl ⟨by rfl, ?_⟩) (by assumption) ?_
    rotate_left
    · (intro w hSw; (try dsimp only at hSw); go_simp; (try with_reducible rfl))
    simp only [Act.put, List.getElem_toArray, List.getElem_cons_zero, List.getElem_cons_succ, List.setIfInBounds_toArray, List.set_cons_zero, List.set_cons_succ]
    refine wpAnyH_take (i := 15) (v := ?_) rfl (by kernel_rfl) (by kernel_rfl) (by kernel_rfl) (fun _ _ _ h => h) (Or.inl ⟨by rfl, ?_⟩) (by assumption) ?_
    rotate_left
    · (intro w hSw; (try dsimp only at hSw); go_simp; (try with_reducible rfl))
    simp only [Act.put, List.getElem_toArray, List.getElem_cons_zero, List.getElem_cons_succ, List.setIfInBounds_toArray, List.set_cons_zero, List.set_cons_succ]
    refine wpAnyH_take (i := 16) (v := ?_) rfl (by kernel_rfl) (by kernel_rfl) (by kernel_rfl) (fun _ _ _ h => h) (Or.inl ⟨by rfl, ?_⟩) (by assumption) ?_
    rotate_left
    · (intro w hSw; (try dsimp only at hSw); go_simp; (try with_reducible rfl))
    simp only [Act.put, List.getElem_toArray, List.getElem_cons_zero, List.getElem_cons_succ, List.setIfInBounds_toArray, List.set_cons_zero, List.set_cons_succ]
    refine wpAnyH_take (i := 17) (v := ?_) rfl (by kernel_rfl) (by kernel_rfl) (by kernel_rfl) (fun _ _ _ h => h) (Or.inl ⟨by rfl, ?_⟩) (by assumption) ?_
    rotate_left
    · (intro w hSw; (try dsimp only at hSw); go_simp; (try with_reducible rfl))
    simp only [Act.put, List.getElem_toArray, List.getElem_cons_zero, List.getElem_cons_succ, List.setIfInBounds_toArray, List.set_cons_zero, List.set_cons_succ]
    refine wpAnyH_ready (rs := [2, 19]) (by kernel_rfl) (by simp) ?_
    refine AllReadyH.cons rfl (fun K hK => ?_) ?_
    · rw [if_pos (by rfl)]
      go_simp
      ((with_reducible refine (q0 _).mono ?_); rintro e w' ⟨rfl, rfl⟩)
      refine hK.out _ _ (hHeld) (fun hHeld2 => ?_)
      clear hK K hHeld
      have hHeld := hHeld2; clear hHeld2
      refine wpAnyH_take (i := 3) (v := ?_) rfl (by kernel_rfl) (by kernel_rfl) (by kernel_rfl) (fun _ _ _ h => h) (Or.inl ⟨by rfl, ?_⟩) (by assumption) ?_
      rotate_left
      · (intro w hSw; (try dsimp only at hSw); go_simp; (try with_reducible rfl))
      simp only [Act.put, List.getElem_toArray, List.getElem_cons_zero, List.getElem_cons_succ, List.setIfInBounds_toArray, List.set_cons_zero, List.set_cons_succ]
      refine wpAnyH_ready (rs := [6, 19]) (by kernel_rfl) (by simp) ?_
      refine AllReadyH.cons rfl (fun K hK => ?_) ?_
      · rw [if_pos (by rfl)]
        go_simp
        ((with_reducible refine (q1 _).mono ?_); rintro e w' ⟨rfl, rfl⟩)
        refine hK.out _ _ (hHeld) (fun hHeld2 => ?_)
        clear hK K hHeld
        have hHeld := hHeld2; clear hHeld2
        refine wpAnyH_ready (rs := [9, 19]) (by kernel_rfl) (by simp) ?_
        refine AllReadyH.cons rfl (fun K hK => ?_) ?_
        · rw [if_pos (by rfl)]
          go_simp
          ((with_reducible refine (q2 _).mono ?_); rintro e w' ⟨rfl, rfl⟩)
          refine hK.out _ _ (hHeld) (fun hHeld2 => ?_)
          clear hK K hHeld
          have hHeld := hHeld2; clear hHeld2
          refine wpAnyH_ready (rs := [12, 19]) (by kernel_rfl) (by simp) ?_
          refine AllReadyH.cons rfl (fun K hK => ?_) ?_
          · rw [if_pos (by rfl)]
            go_simp
            ((with_reducible refine (q3 _).mono ?_); rintro e w' ⟨rfl, rfl⟩)
            refine hK.out _ _ (hHeld) (fun hHeld2 => ?_)
            clear hK K hHeld
            have hHeld := hHeld2; clear hHeld2
            refine wpAnyH_take (i := 18) (v := ?_) rfl (by kernel_rfl) (by kernel_rfl) (by kernel_rfl) (fun _ _ _ h => h) (Or.inl ⟨by rfl, ?_⟩) (by assumption) ?_
            rotate_left
            · (intro w hSw; (try dsimp only at hSw); go_simp; (try with_reducible rfl))
            simp only [Act.put, List.getElem_toArray, List.getElem_cons_zero, List.getElem_cons_succ, List.setIfInBounds_toArray, List.set_cons_zero, List.set_cons_succ]
            refine wpAnyH_ready (rs := [19]) (by kernel_rfl) (by simp) ?_
            refine AllReadyH.cons rfl (fun K hK => ?_) AllReadyH.nil
            rw [if_pos (by rfl)]
            go_simp
            refine hK.out _ _ (hHeld.alloc hHeld.size _) (fun hHeld2 => ?_)
            clear hK K hHeld
            have hHeld := hHeld2; clear hHeld2
            refine wpAnyH_ready (rs := [20]) (by kernel_rfl) (by simp) ?_
            refine AllReadyH.cons rfl (fun K hK => ?_) AllReadyH.nil
            rw [if_pos (by rfl)]
            go_simp
            refine hK.out _ _ ((Below.refl W0.heap.size W0).drew.alloc (Nat.le_refl _) _) (fun hHeld2 => ?_)
            clear hK K hHeld
            have hHeld := hHeld2; clear hHeld2
            refine wpAnyH_done (by kernel_rfl) ?_ _
            refine NoPanic.normal ?_
            go_wp2_with fail
            go_meet
            exact HL.out
          refine AllReadyH.cons rfl (fun K hK => ?_) ?_
          · rw [if_pos (by rfl)]
            go_simp
            refine hK.out _ _ (hHeld.alloc hHeld.size _) (fun hHeld2 => ?_)
            clear hK K hHeld
            have hHeld := hHeld2; clear hHeld2
            refine wpAnyH_ready (rs := [12]) (by kernel_rfl) (by simp) ?_
            refine AllReadyH.cons rfl (fun K hK => ?_) AllReadyH.nil
            rw [if_pos (by rfl)]
            go_simp
            ((with_reducible refine (q3 _).mono ?_); rintro e w' ⟨rfl, rfl⟩)
            refine hK.out _ _ (hHeld) (fun hHeld2 => ?_)
            clear hK K hHeld
            have hHeld := hHeld2; clear hHeld2
            refine wpAnyH_take (i := 18) (v := ?_) rfl (by kernel_rfl) (by kernel_rfl) (by kernel_rfl) (fun _ _ _ h => h) (Or.inl ⟨by rfl, ?_⟩) (by assumption) ?_
            rotate_left
            · (intro w hSw; (try dsimp only at hSw); go_simp; (try with_reducible rfl))
            simp only [Act.put, List.getElem_toArray, List.getElem_cons_zero, List.getElem_cons_succ, List.setIfInBounds_toArray, List.set_cons_zero, List.set_cons_succ]
            refine wpAnyH_ready (rs := [20]) (by kernel_rfl) (by simp) ?_
            refine AllReadyH.cons rfl (fun K hK => ?_) AllReadyH.nil
            rw [if_pos (by rfl)]
            go_simp
            refine hK.out _ _ ((Below.refl W0.heap.size W0).drew.alloc (Nat.le_refl _) _) (fun hHeld2 => ?_)
            clear hK K hHeld
            have hHeld := hHeld2; clear hHeld2
            refine wpAnyH_done (by kernel_rfl) ?_ _
            refine NoPanic.normal ?_
            go_wp2_with fail
            go_meet
            exact HL.out
          exact AllReadyH.nil
        refine AllReadyH.cons rfl (fun K hK => ?_) ?_
        · rw [if_pos (by rfl)]
          go_simp
          refine hK.out _ _ (hHeld.alloc hHeld.size _) (fun hHeld2 => ?_)
          clear hK K hHeld
          have hHeld := hHeld2; clear hHeld2
          refine wpAnyH_ready (rs := [9]) (by kernel_rfl) (by simp) ?_
          refine AllReadyH.cons rfl (fun K hK => ?_) AllReadyH.nil
          rw [if_pos (by rfl)]
          go_simp
          ((with_reducible refine (q2 _).mono ?_); rintro e w' ⟨rfl, rfl⟩)
          refine hK.out _ _ (hHeld) (fun hHeld2 => ?_)
          clear hK K hHeld
          have hHeld := hHeld2; clear hHeld2
          refine wpAnyH_ready (rs := [12]) (by kernel_rfl) (by simp) ?_
          refine AllReadyH.cons rfl (fun K hK => ?_) AllReadyH.nil
          rw [if_pos (by rfl)]
          go_simp
          ((with_reducible refine (q3 _).mono ?_); rintro e w' ⟨rfl, rfl⟩)
          refine hK.out _ _ (hHeld) (fun hHeld2 => ?_)
          clear hK K hHeld
          have hHeld := hHeld2; clear hHeld2
          refine wpAnyH_take (i := 18) (v := ?_) rfl (by kernel_rfl) (by kernel_rfl) (by kernel_rfl) (fun _ _ _ h => h) (Or.inl ⟨by rfl, ?_⟩) (by assumption) ?_
          rotate_left
          · (intro w hSw; (try dsimp only at hSw); go_simp; (try with_reducible rfl))
          simp only [Act.put, List.getElem_toArray, List.getElem_cons_zero, List.getElem_cons_succ, List.setIfInBounds_toArray, List.set_cons_zero, List.set_cons_succ]
          refine wpAnyH_ready (rs := [20]) (by kernel_rfl) (by simp) ?_
          refine AllReadyH.cons rfl (fun K hK => ?_) AllReadyH.nil
          rw [if_pos (by rfl)]
          go_simp
          refine hK.out _ _ ((Below.refl W0.heap.size W0).drew.alloc (Nat.le_refl _) _) (fun hHeld2 => ?_)
          clear hK K hHeld
          have hHeld := hHeld2; clear hHeld2
          refine wpAnyH_done (by kernel_rfl) ?_ _
          refine NoPanic.normal ?_
          go_wp2_with fail
          go_meet
          exact HL.out
        exact AllReadyH.nil
      refine AllReadyH.cons rfl (fun K hK => ?_) ?_
      · rw [if_pos (by rfl)]
        go_simp
        refine hK.out _ _ (hHeld.alloc hHeld.size _) (fun hHeld2 => ?_)
        clear hK K hHeld
        have hHeld := hHeld2; clear hHeld2
        refine wpAnyH_ready (rs := [6]) (by kernel_rfl) (by simp) ?_
        refine AllReadyH.cons rfl (fun K hK => ?_) AllReadyH.nil
        rw [if_pos (by rfl)]
        go_simp
        ((with_reducible refine (q1 _).mono ?_); rintro e w' ⟨rfl, rfl⟩)
        refine hK.out _ _ (hHeld) (fun hHeld2 => ?_)
        clear hK K hHeld
        have hHeld := hHeld2; clear hHeld2
        refine wpAnyH_ready (rs := [9]) (by kernel_rfl) (by simp) ?_
        refine AllReadyH.cons rfl (fun K hK => ?_) AllReadyH.nil
        rw [if_pos (by rfl)]
        go_simp
        ((with_reducible refine (q2 _).mono ?_); rintro e w' ⟨rfl, rfl⟩)
        refine hK.out _ _ (hHeld) (fun hHeld2 => ?_)
        clear hK K hHeld
        have hHeld := hHeld2; clear hHeld2
        refine wpAnyH_ready (rs := [12]) (by kernel_rfl) (by simp) ?_
        refine AllReadyH.cons rfl (fun K hK => ?_) AllReadyH.nil
        rw [if_pos (by rfl)]
        go_simp
        ((with_reducible refine (q3 _).mono ?_); rintro e w' ⟨rfl, rfl⟩)
        refine hK.out _ _ (hHeld) (fun hHeld2 => ?_)
        clear hK K hHeld
        have hHeld := hHeld2; clear hHeld2
        refine wpAnyH_take (i := 18) (v := ?_) rfl (by kernel_rfl) (by kernel_rfl) (by kernel_rfl) (fun _ _ _ h => h) (Or.inl ⟨by rfl, ?_⟩) (by assumption) ?_
        rotate_left
        · (intro w hSw; (try dsimp only at hSw); go_simp; (try with_reducible rfl))
        simp only [Act.put, List.getElem_toArray, List.getElem_cons_zero, List.getElem_cons_succ, List.setIfInBounds_toArray, List.set_cons_zero, List.set_cons_succ]
        refine wpAnyH_ready (rs := [20]) (by kernel_rfl) (by simp) ?_
        refine AllReadyH.cons rfl (fun K hK => ?_) AllReadyH.nil
        rw [if_pos (by rfl)]
        go_simp
        refine hK.out _ _ ((Below.refl W0.heap.size W0).drew.alloc (Nat.le_refl _) _) (fun hHeld2 => ?_)
        clear hK K hHeld
        have hHeld := hHeld2; clear hHeld2
        refine wpAnyH_done (by kernel_rfl) ?_ _
        refine NoPanic.normal ?_
        go_wp2_with fail
        go_meet
        exact HL.out
      exact AllReadyH.nil
    refine AllReadyH.cons rfl (fun K hK => ?_) ?_
    · rw [if_pos (by rfl)]
      go_simp
      refine hK.out _ _ (hHeld.alloc hHeld.size _) (fun hHeld2 => ?_)
      clear hK K hHeld
      have hHeld := hHeld2; clear hHeld2
      refine wpAnyH_ready (rs := [2]) (by kernel_rfl) (by simp) ?_
      refine AllReadyH.cons rfl (fun K hK => ?_) AllReadyH.nil
      rw [if_pos (by rfl)]
      go_simp
      ((with_reducible refine (q0 _).mono ?_); rintro e w' ⟨rfl, rfl⟩)
      refine hK.out _ _ (hHeld) (fun hHeld2 => ?_)
      clear hK K hHeld
      have hHeld := hHeld2; clear hHeld2
      refine wpAnyH_take (i := 3) (v := ?_) rfl (by kernel_rfl) (by kernel_rfl) (by kernel_rfl) (fun _ _ _ h => h) (Or.inl ⟨by rfl, ?_⟩) (by assumption) ?_
      rotate_left
      · (intro w hSw; (try dsimp only at hSw); go_simp; (try with_reducible rfl))
      simp only [Act.put, List.getElem_toArray, List.getElem_cons_zero, List.getElem_cons_succ, List.setIfInBounds_toArray, List.set_cons_zero, List.set_cons_succ]
      refine wpAnyH_ready (rs := [6]) (by kernel_rfl) (by simp) ?_
      refine AllReadyH.cons rfl (fun K hK => ?_) AllReadyH.nil
      rw [if_pos (by rfl)]
      go_simp
      ((with_reducible refine (q1 _).mono ?_); rintro e w' ⟨rfl, rfl⟩)
      refine hK.out _ _ (hHeld) (fun hHeld2 => ?_)
      clear hK K hHeld
      have hHeld := hHeld2; clear hHeld2
      refine wpAnyH_ready (rs := [9]) (by kernel_rfl) (by simp) ?_
      refine AllReadyH.cons rfl (fun K hK => ?_) AllReadyH.nil
      rw [if_pos (by rfl)]
      go_simp
      ((with_reducible refine (q2 _).mono ?_); rintro e w' ⟨rfl, rfl⟩)
      refine hK.out _ _ (hHeld) (fun hHeld2 => ?_)
      clear hK K hHeld
      have hHeld := hHeld2; clear hHeld2
      refine wpAnyH_ready (rs := [12]) (by kernel_rfl) (by simp) ?_
      refine AllReadyH.cons rfl (fun K hK => ?_) AllReadyH.nil
      rw [if_pos (by rfl)]
      go_simp
      ((with_reducible refine (q3 _).mono ?_); rintro e w' ⟨rfl, rfl⟩)
      refine hK.out _ _ (hHeld) (fun hHeld2 => ?_)
      clear hK K hHeld
      have hHeld := hHeld2; clear hHeld2
      refine wpAnyH_take (i := 18) (v := ?_) rfl (by kernel_rfl) (by kernel_rfl) (by kernel_rfl) (fun _ _ _ h => h) (Or.inl ⟨by rfl, ?_⟩) (by assumption) ?_
      rotate_left
      · (intro w hSw; (try dsimp only at hSw); go_simp; (try with_reducible rfl))
      simp only [Act.put, List.getElem_toArray, List.getElem_cons_zero, List.getElem_cons_succ, List.setIfInBounds_toArray, List.set_cons_zero, List.set_cons_succ]
      refine wpAnyH_ready (rs := [20]) (by kernel_rfl) (by simp) ?_
      refine AllReadyH.cons rfl (fun K hK => ?_) AllReadyH.nil
      rw [if_pos (by rfl)]
      go_simp
      refine hK.out _ _ ((Below.refl W0.heap.size W0).drew.alloc (Nat.le_refl _) _) (fun hHeld2 => ?_)
      clear hK K hHeld
      have hHeld := hHeld2; clear hHeld2
      refine wpAnyH_done (by kernel_rfl) ?_ _
      refine NoPanic.normal ?_
      go_wp2_with fail
      go_meet
      exact HL.out
    exact AllReadyH.nil
  case rest =>
    obtain ⟨g, rfl, hgl, hgb, hbm⟩ := hcut
    have hxm : MgBlk wc (w.heap.size + 1) zeroM := HX.out.below hbm
    have ham : A5Blk wc w.heap.size a0 a1 a2 a3 a4 := HA.out.below hbm
    have hne : w.heap.size + 1 ≠ g := by have := lt_of_blk HX.out; omega
    have hne2 : w.heap.size ≠ g := by have := lt_of_blk HA.out; omega
    have HGL := Lib.hid hgl; clear hgl hW0
    have HNE := Lib.hid hne; clear hne
    have HNE2 := Lib.hid hne2; clear hne2
    by_cases hv : v = 2
    · have hR2 : ⟨1 + (z5 : Int), z1, z2, z3, u, z6⟩ = R := by rw [← HR.out, if_pos hv]
      clear HR
      have HR := Lib.hid hR2; clear hR2
      subst hv
      obtain ⟨a, _, _, _, b⟩ := ham.cells
      have HAM := Lib.hid ham; clear ham
      have u0 := hgb.frozen 0
      have v0 := hgb.cells.1
      have HGB := Lib.hid hgb; clear hgb
      have HXM := Lib.hid hxm; clear hxm
      have HBM := Lib.hid hbm; clear hbm
      simp only at v0
      go_wp2_with fail
      ((with_reducible refine (q5 _).mono ?_); rintro e W2 ⟨rfl, rfl⟩)
      go_upto_region 4 with fail
      have hg3 := HGB.out.kind (1 + (z5 : Int))
      have hx3 := HXM.out.far HNE.out 0 (.int .i64 (1 + (z5 : Int)))
      have ha3 := HAM.out.far HNE2.out 0 (.int .i64 (1 + (z5 : Int)))
      have hb3 := HBM.out.setCell (p := ⟨g, 0, none⟩) HGL.out (.int .i64 (1 + (z5 : Int)))
      clear u0 v0 a b
      obtain ⟨W3, hW3⟩ : ∃ W, wc.setCell ⟨g, 0, none⟩ (.int .i64 (1 + (z5 : Int))) = W := ⟨_, rfl⟩
      rw [hW3] at hg3 hx3 ha3 hb3 ⊢
      clear hW3
      have b := ha3.cells.2.2.2.2
      have u5 := hg3.frozen 5
      have v5 := hg3.cells.2.2.2.2.2
      simp only at v5
      have HG3 := Lib.hid hg3; clear hg3
      have HX3 := Lib.hid hx3; clear hx3 ha3
      have HB3 := Lib.hid hb3; clear hb3
      go_wp2_with fail
      ((with_reducible refine (q6 _).mono ?_); rintro e W2 ⟨rfl, rfl⟩)
      go_upto_region 5 with fail
      have hg4 := HG3.out.trace (z6 : Int)
      have hx4 := HX3.out.far HNE.out 5 (.int .i64 (z6 : Int))
      have hb4 := HB3.out.setCell (p := ⟨g, 5, none⟩) HGL.out (.int .i64 (z6 : Int))
      clear u5 v5 b
      obtain ⟨W4, hW4⟩ : ∃ W, W3.setCell ⟨g, 5, none⟩ (.int .i64 (z6 : Int)) = W := ⟨_, rfl⟩
      rw [hW4] at hg4 hx4 hb4 ⊢
      clear hW4
      obtain ⟨g0, g1, g2, g3, g4, g5⟩ := hg4.cells
      simp only at g0 g1 g2 g3 g4 g5
      obtain ⟨x0, x1, x2, x3, x4, x5⟩ := hx4.cells
      simp only [zeroM] at x0 x1 x2 x3 x4 x5
      have f0 := hx4.frozen 0
      have f1 := hx4.frozen 1
      have f2 := hx4.frozen 2
      have f3 := hx4.frozen 3
      have f4 := hx4.frozen 4
      have f5 := hx4.frozen 5
      have HX4 := Lib.hid hx4; clear hx4 hg4
      have HB4 := Lib.hid hb4; clear hb4
      go_wp2_with fail
      have hfin := HX4.out.put ⟨1 + (z5 : Int), z1, z2, z3, u, z6⟩
      have hbf := below_put6 (bch HB0.out HB4.out) (g := w.heap.size + 1) (Nat.le_succ _) (.int .i64 (⟨1 + (z5 : Int), z1, z2, z3, u, z6⟩ : Mg).kind) (.int .i64 (⟨1 + (z5 : Int), z1, z2, z3, u, z6⟩ : Mg).frm) (.int .i64 (⟨1 + (z5 : Int), z1, z2, z3, u, z6⟩ : Mg).to) (.int .i64 (⟨1 + (z5 : Int), z1, z2, z3, u, z6⟩ : Mg).seq) (.string (⟨1 + (z5 : Int), z1, z2, z3, u, z6⟩ : Mg).body) (.int .i64 (⟨1 + (z5 : Int), z1, z2, z3, u, z6⟩ : Mg).trace)
      obtain ⟨e0, e1, e2, e3, e4, e5⟩ := hfin.cells
      simp only at e0 e1 e2 e3 e4 e5 hbf
      refine bodyPost_ret (v := mgV R) (by rw [← HR.out]; simp [mgV, results, Try.results9, go_sem, e0, e1, e2, e3, e4, e5]) rfl ⟨rfl, hbf⟩
    · have hx4 := hxm; clear hxm
      have hg4 := hgb; clear hgb
      have hb4 := hbm; clear hbm
      have hve : (v == 2) = false := by simpa using hv
      have hR2 : ⟨1 + (z0 : Int), z1, z2, z3, u, 0⟩ = R := by rw [← HR.out, if_neg hv]
      clear HR
      have HR := Lib.hid hR2; clear hR2
      obtain ⟨g0, g1, g2, g3, g4, g5⟩ := hg4.cells
      simp only at g0 g1 g2 g3 g4 g5
      obtain ⟨x0, x1, x2, x3, x4, x5⟩ := hx4.cells
      simp only [zeroM] at x0 x1 x2 x3 x4 x5
      have f0 := hx4.frozen 0
      have f1 := hx4.frozen 1
      have f2 := hx4.frozen 2
      have f3 := hx4.frozen 3
      have f4 := hx4.frozen 4
      have f5 := hx4.frozen 5
      have HX4 := Lib.hid hx4; clear hx4 hg4
      have HB4 := Lib.hid hb4; clear hb4
      go_wp2_with fail
      have hfin := HX4.out.put ⟨1 + (z0 : Int), z1, z2, z3, u, 0⟩
      have hbf := below_put6 (bch HB0.out HB4.out) (g := w.heap.size + 1) (Nat.le_succ _) (.int .i64 (⟨1 + (z0 : Int), z1, z2, z3, u, 0⟩ : Mg).kind) (.int .i64 (⟨1 + (z0 : Int), z1, z2, z3, u, 0⟩ : Mg).frm) (.int .i64 (⟨1 + (z0 : Int), z1, z2, z3, u, 0⟩ : Mg).to) (.int .i64 (⟨1 + (z0 : Int), z1, z2, z3, u, 0⟩ : Mg).seq) (.string (⟨1 + (z0 : Int), z1, z2, z3, u, 0⟩ : Mg).body) (.int .i64 (⟨1 + (z0 : Int), z1, z2, z3, u, 0⟩ : Mg).trace)
      obtain ⟨e0, e1, e2, e3, e4, e5⟩ := hfin.cells
      simp only at e0 e1 e2 e3 e4 e5 hbf
      refine bodyPost_ret (v := mgV R) (by rw [← HR.out]; simp [mgV, results, Try.results9, go_sem, e0, e1, e2, e3, e4, e5]) rfl ⟨rfl, hbf⟩
end Go.Proofs.Ytjdpihppniibjaa
