import Derived.Test.YtfnkgldfgciplaaDoorNegoRef
/-
  The walk of the law NegoTells, over what is asked of the program (stage 9).
-/
namespace Go.Proofs.YtfnkgldfgciplaaDoor
open Go.RowKit
set_option linter.unusedVariables false
set_option linter.unusedSimpArgs false

/-- Three pairs of hellos in a block; one pair. -/
def Pr3 (W : World) (g : Nat) (a b c d e f : Hl) : Prop := W.heap[g]? = some (.cells #[.int .i64 a.low, .int .i64 a.high, .int .i64 a.feat, .int .i64 b.low, .int .i64 b.high, .int .i64 b.feat, .int .i64 c.low, .int .i64 c.high, .int .i64 c.feat, .int .i64 d.low, .int .i64 d.high, .int .i64 d.feat, .int .i64 e.low, .int .i64 e.high, .int .i64 e.feat, .int .i64 f.low, .int .i64 f.high, .int .i64 f.feat] 26 (0, 0))
theorem Pr3.below {w w' : World} {g : Nat} {a b c d e f : Hl} (h : Pr3 w g a b c d e f) (hb : Below w.heap.size w w') : Pr3 w' g a b c d e f := Eq.trans (hb.block g (lt_of_blk h)) h
theorem Pr3.new (W : World) (a b c d e f : Hl) : Pr3 (W.alloc (.cells #[.int .i64 a.low, .int .i64 a.high, .int .i64 a.feat, .int .i64 b.low, .int .i64 b.high, .int .i64 b.feat, .int .i64 c.low, .int .i64 c.high, .int .i64 c.feat, .int .i64 d.low, .int .i64 d.high, .int .i64 d.feat, .int .i64 e.low, .int .i64 e.high, .int .i64 e.feat, .int .i64 f.low, .int .i64 f.high, .int .i64 f.feat] 26)) W.heap.size a b c d e f := World.alloc_heap_new W _
def At6H (W : World) (g o : Nat) (x y : Hl) : Prop := W.cell? ⟨g, o, none⟩ = some (.int .i64 x.low) ∧ W.cell? ⟨g, o + 1, none⟩ = some (.int .i64 x.high) ∧ W.cell? ⟨g, o + 2, none⟩ = some (.int .i64 x.feat) ∧ W.cell? ⟨g, o + 3, none⟩ = some (.int .i64 y.low) ∧ W.cell? ⟨g, o + 4, none⟩ = some (.int .i64 y.high) ∧ W.cell? ⟨g, o + 5, none⟩ = some (.int .i64 y.feat)
theorem Pr3.at {W : World} {g : Nat} {a b c d e f : Hl} (h : Pr3 W g a b c d e f) {i : Nat} (hi : i < 3) : ∃ x y, ((x = a ∧ y = b) ∨ (x = c ∧ y = d) ∨ (x = e ∧ y = f)) ∧ At6H W g (i * 6) x y := by
  rcases (by omega : i = 0 ∨ i = 1 ∨ i = 2) with rfl | rfl | rfl
  · exact ⟨a, b, .inl ⟨rfl, rfl⟩, cell_blk h 0, cell_blk h 1, cell_blk h 2, cell_blk h 3, cell_blk h 4, cell_blk h 5⟩
  · exact ⟨c, d, .inr (.inl ⟨rfl, rfl⟩), cell_blk h 6, cell_blk h 7, cell_blk h 8, cell_blk h 9, cell_blk h 10, cell_blk h 11⟩
  · exact ⟨e, f, .inr (.inr ⟨rfl, rfl⟩), cell_blk h 12, cell_blk h 13, cell_blk h 14, cell_blk h 15, cell_blk h 16, cell_blk h 17⟩
def Tw (W : World) (g : Nat) (x y : Hl) : Prop := W.heap[g]? = some (.cells #[.int .i64 x.low, .int .i64 x.high, .int .i64 x.feat, .int .i64 y.low, .int .i64 y.high, .int .i64 y.feat] 26 (0, 0))
theorem Tw.below {w w' : World} {g : Nat} {x y : Hl} (h : Tw w g x y) (hb : Below w.heap.size w w') : Tw w' g x y := Eq.trans (hb.block g (lt_of_blk h)) h
theorem Tw.new (W : World) (x y : Hl) : Tw (W.alloc (.cells #[.int .i64 x.low, .int .i64 x.high, .int .i64 x.feat, .int .i64 y.low, .int .i64 y.high, .int .i64 y.feat] 26)) W.heap.size x y := World.alloc_heap_new W _
theorem Tw.cells {W : World} {g : Nat} {x y : Hl} (h : Tw W g x y) : W.cell? ⟨g, 0, none⟩ = some (.int .i64 x.low) ∧ W.cell? ⟨g, 1, none⟩ = some (.int .i64 x.high) ∧ W.cell? ⟨g, 2, none⟩ = some (.int .i64 x.feat) ∧ W.cell? ⟨g, 3, none⟩ = some (.int .i64 y.low) ∧ W.cell? ⟨g, 4, none⟩ = some (.int .i64 y.high) ∧ W.cell? ⟨g, 5, none⟩ = some (.int .i64 y.feat) :=
  ⟨cell_blk h 0, cell_blk h 1, cell_blk h 2, cell_blk h 3, cell_blk h 4, cell_blk h 5⟩

set_option maxRecDepth 100000 in
set_option maxHeartbeats 8000000 in
theorem negoTells_core (hR : RightN) (hO : OfN) (hA : AgreeN) (a b : Hl) (a0 a1 a2 a3 a4 a5 bi le : Int) (w : World) (hk : Knw w) (wa : WfH a) (wb : WfH b) (h0 : (Lit.int .i64 a0).wf = true) (h1 : (Lit.int .i64 a1).wf = true) (h2 : (Lit.int .i64 a2).wf = true) (h3 : (Lit.int .i64 a3).wf = true) (h4 : (Lit.int .i64 a4).wf = true) (h5 : (Lit.int .i64 a5).wf = true) (h6 : (Lit.int .i64 bi).wf = true) (h7 : (Lit.int .i64 le).wf = true) :
    Calls Tryd.prog 3 #[hlV a, hlV b, .agg #[.int .i64 a0, .int .i64 a1, .int .i64 a2, .int .i64 a3, .int .i64 a4, .int .i64 a5], .int .i64 bi, .int .i64 le] w fun e w' => e = .returned (.bool true) ∧ Below w.heap.size w w' := by
  unfold hlV
  have qw := fun W (hb : Below w.heap.size w W) => awake9_any hR hO hA W (hk.below hb)
  have qa := fun W => hello_any a0 a1 a2 h0 h1 h2 W
  have qb := fun W => hello_any a3 a4 a5 h3 h4 h5 W
  have ra := (helR_right a0 a1 a2).wf
  have rb := (helR_right a3 a4 a5).wf
  generalize helR a0 a1 a2 = A at qa ra
  generalize helR a3 a4 a5 = B at qb rb
  have HW : Hid (∀ x y : Hl, ((x = a ∧ y = b) ∨ (x = A ∧ y = B) ∨ (x = a ∧ y = A)) → WfH x ∧ WfH y) := by
    rintro x y (⟨rfl, rfl⟩ | ⟨rfl, rfl⟩ | ⟨rfl, rfl⟩)
    · exact ⟨wa, wb⟩
    · exact ⟨ra, rb⟩
    · exact ⟨wa, ra⟩
  unfold hlV at qa qb
  have qp := pickN9_nat bi 2 (by omega) (by omega) h6
  have kp := pickN_lt bi 2 (by omega)
  generalize pickN bi 2 = p at qp kp
  have qq := pickN9_nat le 2 (by omega) (by omega) h7
  have kq := pickN_lt le 2 (by omega)
  generalize pickN le 2 = q at qq kq
  have wp1 : IntKind.i64.wrap (1 + (p : Int)) = 1 + (p : Int) := IntWalk.i64_in _ (by omega)
  have wq1 : IntKind.i64.wrap (1 + (q : Int)) = 1 + (q : Int) := IntWalk.i64_in _ (by omega)
  have wfp : (Lit.int .i64 (1 + (p : Int))).wf = true := by
    rw [show (Lit.int .i64 (1 + (p : Int))).wf = (decide (-9223372036854775808 ≤ 1 + (p : Int)) && decide (1 + (p : Int) ≤ 9223372036854775807)) from rfl]
    simp; omega
  have wfq : (Lit.int .i64 (1 + (q : Int))).wf = true := by
    rw [show (Lit.int .i64 (1 + (q : Int))).wf = (decide (-9223372036854775808 ≤ 1 + (q : Int)) && decide (1 + (q : Int) ≤ 9223372036854775807)) from rfl]
    simp; omega
  have o1 := fun W (hb : Below w.heap.size w W) => hO bi le h6 h7 W (hk.below hb)
  have r1 := fun W => refof9_any bi le W
  have o2 := fun W (hb : Below w.heap.size w W) => hO (1 + (p : Int)) (1 + (q : Int)) wfp wfq W (hk.below hb)
  have r2 := fun W => refof9_any (1 + (p : Int)) (1 + (q : Int)) W
  generalize ofH bi le = O1 at o1 r1
  generalize ofH (1 + (p : Int)) (1 + (q : Int)) = O2 at o2 r2
  have eo1 := eqHl O1 O1
  have eo2 := eqHl O2 O2
  rw [eqHB_self] at eo1 eo2
  unfold hlV at o1 r1 o2 r2 eo1 eo2
  have hg1 := guardHl
  have hg2 := guardDl
  have HR := Lib.hid hR
  have HA := Lib.hid hA
  clear hR hO hA h0 h1 h2 h3 h4 h5 h6 h7 wa wb ra rb wfp wfq kp kq
  have hb0 : Below w.heap.size w (((w.alloc (.cells #[.int .i64 a.low, .int .i64 a.high, .int .i64 a.feat] 23)).alloc (.cells #[.int .i64 b.low, .int .i64 b.high, .int .i64 b.feat] 23)).alloc (.cells #[.int .i64 a0, .int .i64 a1, .int .i64 a2, .int .i64 a3, .int .i64 a4, .int .i64 a5] 24)) := (((Below.refl _ _).alloc (Nat.le_refl _) _).alloc (by simp) _).alloc (by simp; omega) _
  have hp0 : HlBlk (((w.alloc (.cells #[.int .i64 a.low, .int .i64 a.high, .int .i64 a.feat] 23)).alloc (.cells #[.int .i64 b.low, .int .i64 b.high, .int .i64 b.feat] 23)).alloc (.cells #[.int .i64 a0, .int .i64 a1, .int .i64 a2, .int .i64 a3, .int .i64 a4, .int .i64 a5] 24)) w.heap.size a := ((HlBlk.new w a).below ((Below.refl _ _).alloc (Nat.le_refl _) _)).below ((Below.refl _ _).alloc (Nat.le_refl _) _)
  have hq0 : HlBlk (((w.alloc (.cells #[.int .i64 a.low, .int .i64 a.high, .int .i64 a.feat] 23)).alloc (.cells #[.int .i64 b.low, .int .i64 b.high, .int .i64 b.feat] 23)).alloc (.cells #[.int .i64 a0, .int .i64 a1, .int .i64 a2, .int .i64 a3, .int .i64 a4, .int .i64 a5] 24)) (w.heap.size + 1) b := by
    have h := HlBlk.new (w.alloc (.cells #[.int .i64 a.low, .int .i64 a.high, .int .i64 a.feat] 23)) b
    rw [World.size_alloc] at h
    exact h.below ((Below.refl _ _).alloc (Nat.le_refl _) _)
  have hx0 : A6Blk (((w.alloc (.cells #[.int .i64 a.low, .int .i64 a.high, .int .i64 a.feat] 23)).alloc (.cells #[.int .i64 b.low, .int .i64 b.high, .int .i64 b.feat] 23)).alloc (.cells #[.int .i64 a0, .int .i64 a1, .int .i64 a2, .int .i64 a3, .int .i64 a4, .int .i64 a5] 24)) (w.heap.size + 2) a0 a1 a2 a3 a4 a5 := by
    have h := A6Blk.new ((w.alloc (.cells #[.int .i64 a.low, .int .i64 a.high, .int .i64 a.feat] 23)).alloc (.cells #[.int .i64 b.low, .int .i64 b.high, .int .i64 b.feat] 23)) a0 a1 a2 a3 a4 a5
    rw [World.size_alloc, World.size_alloc] at h
    exact h
  obtain ⟨W0, hW0⟩ : ∃ W, ((w.alloc (.cells #[.int .i64 a.low, .int .i64 a.high, .int .i64 a.feat] 23)).alloc (.cells #[.int .i64 b.low, .int .i64 b.high, .int .i64 b.feat] 23)).alloc (.cells #[.int .i64 a0, .int .i64 a1, .int .i64 a2, .int .i64 a3, .int .i64 a4, .int .i64 a5] 24) = W := ⟨_, rfl⟩
  rw [hW0] at hb0 hp0 hq0 hx0
  have HB0 := Lib.hid hb0; clear hb0
  have HP0 := Lib.hid hp0; clear hp0
  have HQ0 := Lib.hid hq0; clear hq0
  have HX0 := Lib.hid hx0; clear hx0
  have O1H := Lib.hid o1; clear o1
  have O2H := Lib.hid o2; clear o2
  have R1H := Lib.hid r1; clear r1
  have R2H := Lib.hid r2; clear r2
  have QPH := Lib.hid qp; clear qp
  have QQH := Lib.hid qq; clear qq
  go_enter Tryd.func3, Tryd.ntmps3
  go_wp2_with fail
  ((with_reducible refine (qw _ HB0.out).mono ?_); rintro e W1 ⟨rfl, b1⟩)
  clear hW0 qw
  have HB1 := Lib.hid (bch HB0.out b1)
  have HP1 := Lib.hid (HP0.out.below b1)
  have HQ1 := Lib.hid (HQ0.out.below b1)
  have HX1 := Lib.hid (HX0.out.below b1)
  clear b1
  go_upto_region 2 with fail
  refine wp_region_noPanic ?_
  refine wp_region_held_drew (S := fun W => Below W1.heap.size W1 W) (by kernel_rfl) ((Below.refl _ _).drew) (fun hHeld => ?_)
  refine wpAnyH_take (i := 0) (v := ?_) rfl (by kernel_rfl) (by kernel_rfl) (by kernel_rfl) (fun _ _ _ h => h) (Or.inl ⟨by rfl, ?_⟩) (by assumption) ?_
  rotate_left
  · (intro w hSw; (try dsimp only at hSw); obtain ⟨c0, c1, c2⟩ := (HP1.out.below hSw).cells; go_simp; (try with_reducible rfl))
  simp only [Act.put, List.getElem_toArray, List.getElem_cons_zero, List.setIfInBounds_toArray, List.set_cons_zero, List.set_cons_succ]
  refine wpAnyH_take (i := 1) (v := ?_) rfl (by kernel_rfl) (by kernel_rfl) (by kernel_rfl) (fun _ _ _ h => h) (Or.inl ⟨by rfl, ?_⟩) (by assumption) ?_
  rotate_left
  · (intro w hSw; (try dsimp only at hSw); obtain ⟨c0, c1, c2⟩ := (HQ1.out.below hSw).cells; go_simp; (try with_reducible rfl))
  simp only [Act.put, List.getElem_toArray, List.getElem_cons_zero, List.getElem_cons_succ, List.setIfInBounds_toArray, List.set_cons_zero, List.set_cons_succ]
  refine wpAnyH_take (i := 2) (v := ?_) rfl (by kernel_rfl) (by kernel_rfl) (by kernel_rfl) (fun _ _ _ h => h) (Or.inl ⟨by rfl, ?_⟩) (by assumption) ?_
  rotate_left
  · (intro w hSw; (try dsimp only at hSw); go_simp; (try with_reducible rfl))
  simp only [Act.put, List.getElem_toArray, List.getElem_cons_zero, List.getElem_cons_succ, List.setIfInBounds_toArray, List.set_cons_zero, List.set_cons_succ]
  refine wpAnyH_take (i := 3) (v := ?_) rfl (by kernel_rfl) (by kernel_rfl) (by kernel_rfl) (fun _ _ _ h => h) (Or.inl ⟨by rfl, ?_⟩) (by assumption) ?_
  rotate_left
  · (intro w hSw; (try dsimp only at hSw); go_simp; (try with_reducible rfl))
  simp only [Act.put, List.getElem_toArray, List.getElem_cons_zero, List.getElem_cons_succ, List.setIfInBounds_toArray, List.set_cons_zero, List.set_cons_succ]
  refine wpAnyH_take (i := 4) (v := ?_) rfl (by kernel_rfl) (by kernel_rfl) (by kernel_rfl) (fun _ _ _ h => h) (Or.inl ⟨by rfl, ?_⟩) (by assumption) ?_
  rotate_left
  · (intro w hSw; (try dsimp only at hSw); obtain ⟨c0, c1, c2, c3, c4, c5⟩ := (HX1.out.below hSw).cells; go_simp; (try with_reducible rfl))
  simp only [Act.put, List.getElem_toArray, List.getElem_cons_zero, List.getElem_cons_succ, List.setIfInBounds_toArray, List.set_cons_zero, List.set_cons_succ]
  refine wpAnyH_take (i := 5) (v := ?_) rfl (by kernel_rfl) (by kernel_rfl) (by kernel_rfl) (fun _ _ _ h => h) (Or.inl ⟨by rfl, ?_⟩) (by assumption) ?_
  rotate_left
  · (intro w hSw; (try dsimp only at hSw); go_simp; (try with_reducible rfl))
  simp only [Act.put, List.getElem_toArray, List.getElem_cons_zero, List.getElem_cons_succ, List.setIfInBounds_toArray, List.set_cons_zero, List.set_cons_succ]
  refine wpAnyH_take (i := 6) (v := ?_) rfl (by kernel_rfl) (by kernel_rfl) (by kernel_rfl) (fun _ _ _ h => h) (Or.inl ⟨by rfl, ?_⟩) (by assumption) ?_
  rotate_left
  · (intro w hSw; (try dsimp only at hSw); obtain ⟨c0, c1, c2, c3, c4, c5⟩ := (HX1.out.below hSw).cells; go_simp; (try with_reducible rfl))
  simp only [Act.put, List.getElem_toArray, List.getElem_cons_zero, List.getElem_cons_succ, List.setIfInBounds_toArray, List.set_cons_zero, List.set_cons_succ]
  refine wpAnyH_take (i := 7) (v := ?_) rfl (by kernel_rfl) (by kernel_rfl) (by kernel_rfl) (fun _ _ _ h => h) (Or.inl ⟨by rfl, ?_⟩) (by assumption) ?_
  rotate_left
  · (intro w hSw; (try dsimp only at hSw); go_simp; (try with_reducible rfl))
  simp only [Act.put, List.getElem_toArray, List.getElem_cons_zero, List.getElem_cons_succ, List.setIfInBounds_toArray, List.set_cons_zero, List.set_cons_succ]
  refine wpAnyH_take (i := 8) (v := ?_) rfl (by kernel_rfl) (by kernel_rfl) (by kernel_rfl) (fun _ _ _ h => h) (Or.inl ⟨by rfl, ?_⟩) (by assumption) ?_
  rotate_left
  · (intro w hSw; (try dsimp only at hSw); obtain ⟨c0, c1, c2, c3, c4, c5⟩ := (HX1.out.below hSw).cells; go_simp; (try with_reducible rfl))
  simp only [Act.put, List.getElem_toArray, List.getElem_cons_zero, List.getElem_cons_succ, List.setIfInBounds_toArray, List.set_cons_zero, List.set_cons_succ]
  refine wpAnyH_take (i := 10) (v := ?_) rfl (by kernel_rfl) (by kernel_rfl) (by kernel_rfl) (fun _ _ _ h => h) (Or.inl ⟨by rfl, ?_⟩) (by assumption) ?_
  rotate_left
  · (intro w hSw; (try dsimp only at hSw); go_simp; (try with_reducible rfl))
  simp only [Act.put, List.getElem_toArray, List.getElem_cons_zero, List.getElem_cons_succ, List.setIfInBounds_toArray, List.set_cons_zero, List.set_cons_succ]
  refine wpAnyH_take (i := 11) (v := ?_) rfl (by kernel_rfl) (by kernel_rfl) (by kernel_rfl) (fun _ _ _ h => h) (Or.inl ⟨by rfl, ?_⟩) (by assumption) ?_
  rotate_left
  · (intro w hSw; (try dsimp only at hSw); obtain ⟨c0, c1, c2, c3, c4, c5⟩ := (HX1.out.below hSw).cells; go_simp; (try with_reducible rfl))
  simp only [Act.put, List.getElem_toArray, List.getElem_cons_zero, List.getElem_cons_succ, List.setIfInBounds_toArray, List.set_cons_zero, List.set_cons_succ]
  refine wpAnyH_take (i := 12) (v := ?_) rfl (by kernel_rfl) (by kernel_rfl) (by kernel_rfl) (fun _ _ _ h => h) (Or.inl ⟨by rfl, ?_⟩) (by assumption) ?_
  rotate_left
  · (intro w hSw; (try dsimp only at hSw); go_simp; (try with_reducible rfl))
  simp only [Act.put, List.getElem_toArray, List.getElem_cons_zero, List.getElem_cons_succ, List.setIfInBounds_toArray, List.set_cons_zero, List.set_cons_succ]
  refine wpAnyH_take (i := 13) (v := ?_) rfl (by kernel_rfl) (by kernel_rfl) (by kernel_rfl) (fun _ _ _ h => h) (Or.inl ⟨by rfl, ?_⟩) (by assumption) ?_
  rotate_left
  · (intro w hSw; (try dsimp only at hSw); obtain ⟨c0, c1, c2, c3, c4, c5⟩ := (HX1.out.below hSw).cells; go_simp; (try with_reducible rfl))
  simp only [Act.put, List.getElem_toArray, List.getElem_cons_zero, List.getElem_cons_succ, List.setIfInBounds_toArray, List.set_cons_zero, List.set_cons_succ]
  refine wpAnyH_take (i := 14) (v := ?_) rfl (by kernel_rfl) (by kernel_rfl) (by kernel_rfl) (fun _ _ _ h => h) (Or.inl ⟨by rfl, ?_⟩) (by assumption) ?_
  rotate_left
  · (intro w hSw; (try dsimp only at hSw); go_simp; (try with_reducible rfl))
  simp only [Act.put, List.getElem_toArray, List.getElem_cons_zero, List.getElem_cons_succ, List.setIfInBounds_toArray, List.set_cons_zero, List.set_cons_succ]
  refine wpAnyH_take (i := 15) (v := ?_) rfl (by kernel_rfl) (by kernel_rfl) (by kernel_rfl) (fun _ _ _ h => h) (Or.inl ⟨by rfl, ?_⟩) (by assumption) ?_
  rotate_left
  · (intro w hSw; (try dsimp only at hSw); obtain ⟨c0, c1, c2, c3, c4, c5⟩ := (HX1.out.below hSw).cells; go_simp; (try with_reducible rfl))
  simp only [Act.put, List.getElem_toArray, List.getElem_cons_zero, List.getElem_cons_succ, List.setIfInBounds_toArray, List.set_cons_zero, List.set_cons_succ]
  refine wpAnyH_take (i := 18) (v := ?_) rfl (by kernel_rfl) (by kernel_rfl) (by kernel_rfl) (fun _ _ _ h => h) (Or.inl ⟨by rfl, ?_⟩) (by assumption) ?_
  rotate_left
  · (intro w hSw; (try dsimp only at hSw); obtain ⟨c0, c1, c2⟩ := (HP1.out.below hSw).cells; go_simp; (try with_reducible rfl))
  simp only [Act.put, List.getElem_toArray, List.getElem_cons_zero, List.getElem_cons_succ, List.setIfInBounds_toArray, List.set_cons_zero, List.set_cons_succ]
  refine wpAnyH_take (i := 19) (v := ?_) rfl (by kernel_rfl) (by kernel_rfl) (by kernel_rfl) (fun _ _ _ h => h) (Or.inl ⟨by rfl, ?_⟩) (by assumption) ?_
  rotate_left
  · (intro w hSw; (try dsimp only at hSw); go_simp; (try with_reducible rfl))
  simp only [Act.put, List.getElem_toArray, List.getElem_cons_zero, List.getElem_cons_succ, List.setIfInBounds_toArray, List.set_cons_zero, List.set_cons_succ]
  refine wpAnyH_take (i := 20) (v := ?_) rfl (by kernel_rfl) (by kernel_rfl) (by kernel_rfl) (fun _ _ _ h => h) (Or.inl ⟨by rfl, ?_⟩) (by assumption) ?_
  rotate_left
  · (intro w hSw; (try dsimp only at hSw); obtain ⟨c0, c1, c2, c3, c4, c5⟩ := (HX1.out.below hSw).cells; go_simp; (try with_reducible rfl))
  simp only [Act.put, List.getElem_toArray, List.getElem_cons_zero, List.getElem_cons_succ, List.setIfInBounds_toArray, List.set_cons_zero, List.set_cons_succ]
  refine wpAnyH_take (i := 21) (v := ?_) rfl (by kernel_rfl) (by kernel_rfl) (by kernel_rfl) (fun _ _ _ h => h) (Or.inl ⟨by rfl, ?_⟩) (by assumption) ?_
  rotate_left
  · (intro w hSw; (try dsimp only at hSw); go_simp; (try with_reducible rfl))
  simp only [Act.put, List.getElem_toArray, List.getElem_cons_zero, List.getElem_cons_succ, List.setIfInBounds_toArray, List.set_cons_zero, List.set_cons_succ]
  refine wpAnyH_take (i := 22) (v := ?_) rfl (by kernel_rfl) (by kernel_rfl) (by kernel_rfl) (fun _ _ _ h => h) (Or.inl ⟨by rfl, ?_⟩) (by assumption) ?_
  rotate_left
  · (intro w hSw; (try dsimp only at hSw); obtain ⟨c0, c1, c2, c3, c4, c5⟩ := (HX1.out.below hSw).cells; go_simp; (try with_reducible rfl))
  simp only [Act.put, List.getElem_toArray, List.getElem_cons_zero, List.getElem_cons_succ, List.setIfInBounds_toArray, List.set_cons_zero, List.set_cons_succ]
  refine wpAnyH_take (i := 23) (v := ?_) rfl (by kernel_rfl) (by kernel_rfl) (by kernel_rfl) (fun _ _ _ h => h) (Or.inl ⟨by rfl, ?_⟩) (by assumption) ?_
  rotate_left
  · (intro w hSw; (try dsimp only at hSw); go_simp; (try with_reducible rfl))
  simp only [Act.put, List.getElem_toArray, List.getElem_cons_zero, List.getElem_cons_succ, List.setIfInBounds_toArray, List.set_cons_zero, List.set_cons_succ]
  refine wpAnyH_take (i := 24) (v := ?_) rfl (by kernel_rfl) (by kernel_rfl) (by kernel_rfl) (fun _ _ _ h => h) (Or.inl ⟨by rfl, ?_⟩) (by assumption) ?_
  rotate_left
  · (intro w hSw; (try dsimp only at hSw); obtain ⟨c0, c1, c2, c3, c4, c5⟩ := (HX1.out.below hSw).cells; go_simp; (try with_reducible rfl))
  simp only [Act.put, List.getElem_toArray, List.getElem_cons_zero, List.getElem_cons_succ, List.setIfInBounds_toArray, List.set_cons_zero, List.set_cons_succ]
  refine wpAnyH_take (i := 29) (v := ?_) rfl (by kernel_rfl) (by kernel_rfl) (by kernel_rfl) (fun _ _ _ h => h) (Or.inl ⟨by rfl, ?_⟩) (by assumption) ?_
  rotate_left
  · (intro w hSw; (try dsimp only at hSw); go_simp; (try with_reducible rfl))
  simp only [Act.put, List.getElem_toArray, List.getElem_cons_zero, List.getElem_cons_succ, List.setIfInBounds_toArray, List.set_cons_zero, List.set_cons_succ]
  refine wpAnyH_ready (rs := [9]) (by kernel_rfl) (by simp) ?_
  refine AllReadyH.cons rfl (fun K hK => ?_) AllReadyH.nil
  rw [if_pos (by rfl)]
  go_simp
  ((with_reducible refine (qa _).mono ?_); rintro e w' ⟨rfl, bq⟩)
  refine hK.out _ _ (bch hHeld bq) (fun hHeld2 => ?_)
  clear hK K hHeld
  have hHeld := hHeld2; clear hHeld2
  refine wpAnyH_ready (rs := [16]) (by kernel_rfl) (by simp) ?_
  refine AllReadyH.cons rfl (fun K hK => ?_) AllReadyH.nil
  rw [if_pos (by rfl)]
  go_simp
  ((with_reducible refine (qb _).mono ?_); rintro e w' ⟨rfl, bq⟩)
  refine hK.out _ _ (bch hHeld bq) (fun hHeld2 => ?_)
  clear hK K hHeld
  have hHeld := hHeld2; clear hHeld2
  refine wpAnyH_take (i := 17) (v := ?_) rfl (by kernel_rfl) (by kernel_rfl) (by kernel_rfl) (fun _ _ _ h => h) (Or.inl ⟨by rfl, ?_⟩) (by assumption) ?_
  rotate_left
  · (intro w hSw; (try dsimp only at hSw); go_simp; (try with_reducible rfl))
  simp only [Act.put, List.getElem_toArray, List.getElem_cons_zero, List.getElem_cons_succ, List.setIfInBounds_toArray, List.set_cons_zero, List.set_cons_succ]
  refine wpAnyH_ready (rs := [25]) (by kernel_rfl) (by simp) ?_
  refine AllReadyH.cons rfl (fun K hK => ?_) AllReadyH.nil
  rw [if_pos (by rfl)]
  go_simp
  ((with_reducible refine (qa _).mono ?_); rintro e w' ⟨rfl, bq⟩)
  refine hK.out _ _ (bch hHeld bq) (fun hHeld2 => ?_)
  clear hK K hHeld
  have hHeld := hHeld2; clear hHeld2
  refine wpAnyH_take (i := 26) (v := ?_) rfl (by kernel_rfl) (by kernel_rfl) (by kernel_rfl) (fun _ _ _ h => h) (Or.inl ⟨by rfl, ?_⟩) (by assumption) ?_
  rotate_left
  · (intro w hSw; (try dsimp only at hSw); go_simp; (try with_reducible rfl))
  simp only [Act.put, List.getElem_toArray, List.getElem_cons_zero, List.getElem_cons_succ, List.setIfInBounds_toArray, List.set_cons_zero, List.set_cons_succ]
  refine wpAnyH_ready (rs := [27]) (by kernel_rfl) (by simp) ?_
  refine AllReadyH.cons rfl (fun K hK => ?_) AllReadyH.nil
  rw [if_pos (by rfl)]
  go_simp
  have hpr := Pr3.new w' a b A B a A
  refine hK.out _ _ (hHeld.alloc hHeld.size _) (fun hHeld2 => ?_)
  clear hK K hHeld
  have hHeld := hHeld2; clear hHeld2
  refine wpAnyH_take (i := 28) (v := ?_) rfl (by kernel_rfl) (by kernel_rfl) (by kernel_rfl) (fun _ _ _ h => h) (Or.inl ⟨by rfl, ?_⟩) (by assumption) ?_
  rotate_left
  · (intro w hSw; (try dsimp only at hSw); go_simp; (try with_reducible rfl))
  simp only [Act.put, List.getElem_toArray, List.getElem_cons_zero, List.getElem_cons_succ, List.setIfInBounds_toArray, List.set_cons_zero, List.set_cons_succ]
  refine wpAnyH_done (by kernel_rfl) ?_ _
  refine NoPanic.normal ?_
  obtain ⟨V2, hV2⟩ : ∃ W, w'.alloc (.cells #[.int .i64 a.low, .int .i64 a.high, .int .i64 a.feat, .int .i64 b.low, .int .i64 b.high, .int .i64 b.feat, .int .i64 A.low, .int .i64 A.high, .int .i64 A.feat, .int .i64 B.low, .int .i64 B.high, .int .i64 B.feat, .int .i64 a.low, .int .i64 a.high, .int .i64 a.feat, .int .i64 A.low, .int .i64 A.high, .int .i64 A.feat] 26) = W := ⟨_, rfl⟩
  rw [hV2] at hpr hHeld ⊢
  clear hV2
  generalize w'.heap.size = g at *
  have HB2 := Lib.hid (bch HB1.out hHeld)
  have HPR := Lib.hid hpr
  clear hpr hHeld bq qa qb
  go_wp2_with fail
  go_loopw [48] (fun i wy => ∃ (j : Nat) (wq : World), wq = wy ∧ j ≤ 3 ∧ i = .int .i64 j ∧ Below V2.heap.size V2 wq) (fun i _ => 3 - (intOf i).toNat)
  case atStart => exact ⟨0, _, rfl, by omega, rfl, Below.refl _ _⟩
  case round =>
    obtain ⟨j, wq, rfl, hj3, rfl, hbq⟩ := hrel
    by_cases hj : j < 3
    · obtain ⟨x, y, hxy, e0, e1, e2, e3, e4, e5⟩ := (HPR.out.below hbq).at hj
      obtain ⟨wx, wy⟩ := HW.out x y hxy
      have HBQ := Lib.hid hbq; clear hbq hxy
      have j0 : (0 : Int) ≤ (j : Int) := by omega
      have j1 : (j : Int) < (3 : Int) := by omega
      have pg := fun W => HA.out x y wx wy W
      have rg := fun W => refagree9_any x y W
      have rp := fun W => HR.out x wx W
      have rr := fun W => refright9_any x W
      unfold hlV at pg rp
      generalize agH x y = D at pg rg
      obtain ⟨v, f, n⟩ := D
      simp only at pg rg
      generalize rightH x = t at rp rr
      have ed := fun W => eqDl v f v f W
      have bb : ((v : Int) == (v : Int) && (f : Int) == (f : Int)) = true := by simp
      have nn : ((n : Int) != (n : Int)) = false := by simp
      have tt : (t != t) = false := by simp
      clear wx wy
      go_upto_region 5 with fail
      clear e0 e1 e2 e3 e4 e5
      have hb := HBQ.out.alloc HBQ.out.size (.cells #[.int .i64 x.low, .int .i64 x.high, .int .i64 x.feat, .int .i64 y.low, .int .i64 y.high, .int .i64 y.feat] 26)
      have ht := Tw.new wq x y
      obtain ⟨V3, hV3⟩ : ∃ W, wq.alloc (.cells #[.int .i64 x.low, .int .i64 x.high, .int .i64 x.feat, .int .i64 y.low, .int .i64 y.high, .int .i64 y.feat] 26) = W := ⟨_, rfl⟩
      rw [hV3] at hb ht ⊢
      clear hV3
      generalize wq.heap.size = g3 at *
      obtain ⟨c0, c1, c2, c3, c4, c5⟩ := ht.cells
      have HB3 := Lib.hid hb; clear hb HBQ
      have HT3 := Lib.hid ht; clear ht
      go_wp2_with fail
      ((with_reducible refine (pg _).mono ?_); rintro e W4 ⟨rfl, b4⟩)
      clear c0 c1 c2 c3 c4 c5
      go_upto_region 6 with fail
      have hb := (bch HB3.out b4).alloc (bch HB3.out b4).size (.cells #[.int .i64 (v : Int), .int .i64 (f : Int)] 30)
      have ht := (HT3.out.below b4).below ((Below.refl _ _).alloc (Nat.le_refl _) (.cells #[.int .i64 (v : Int), .int .i64 (f : Int)] 30))
      have hd := DlBlk.new W4 v f
      obtain ⟨V4, hV4⟩ : ∃ W, W4.alloc (.cells #[.int .i64 (v : Int), .int .i64 (f : Int)] 30) = W := ⟨_, rfl⟩
      rw [hV4] at hb ht hd ⊢
      clear hV4 b4 pg
      obtain ⟨c0, c1, c2, c3, c4, c5⟩ := ht.cells
      have HB4 := Lib.hid hb; clear hb
      have HT4 := Lib.hid ht; clear ht
      have HD4 := Lib.hid hd; clear hd
      go_wp2_with fail
      ((with_reducible refine (rg _).mono ?_); rintro e W5 ⟨rfl, b5⟩)
      clear c0 c1 c2 c3 c4 c5
      go_upto_region 7 with fail
      have hb := (bch HB4.out b5).alloc (bch HB4.out b5).size (.cells #[.int .i64 (v : Int), .int .i64 (f : Int)] 30)
      have ht := (HT4.out.below b5).below ((Below.refl _ _).alloc (Nat.le_refl _) (.cells #[.int .i64 (v : Int), .int .i64 (f : Int)] 30))
      have hd := (HD4.out.below b5).below ((Below.refl _ _).alloc (Nat.le_refl _) (.cells #[.int .i64 (v : Int), .int .i64 (f : Int)] 30))
      have he := DlBlk.new W5 v f
      obtain ⟨V7, hV7⟩ : ∃ W, W5.alloc (.cells #[.int .i64 (v : Int), .int .i64 (f : Int)] 30) = W := ⟨_, rfl⟩
      rw [hV7] at hb ht hd he ⊢
      clear hV7 b5 rg
      have HB7 := Lib.hid hb; clear hb
      have HT7 := Lib.hid ht; clear ht
      have HD7 := Lib.hid hd; clear hd
      have HE7 := Lib.hid he; clear he
      refine wp_region_noPanic ?_
      refine wp_region_held_drew (S := fun W => Below V7.heap.size V7 W) (by kernel_rfl) ((Below.refl _ _).drew) (fun hHeld => ?_)
      refine wpAnyH_take (i := 0) (v := ?_) rfl (by kernel_rfl) (by kernel_rfl) (by kernel_rfl) (fun _ _ _ h => h) (Or.inl ⟨by rfl, ?_⟩) (by assumption) ?_
      rotate_left
      · (intro w hSw; (try dsimp only at hSw); obtain ⟨c0, c1⟩ := (HD7.out.below hSw).cells; go_simp; (try with_reducible rfl))
      simp only [Act.put, List.getElem_toArray, List.getElem_cons_zero, List.setIfInBounds_toArray, List.set_cons_zero, List.set_cons_succ]
      refine wpAnyH_take (i := 1) (v := ?_) rfl (by kernel_rfl) (by kernel_rfl) (by kernel_rfl) (fun _ _ _ h => h) (Or.inl ⟨by rfl, ?_⟩) (by assumption) ?_
      rotate_left
      · (intro w hSw; (try dsimp only at hSw); obtain ⟨c0, c1⟩ := (HE7.out.below hSw).cells; go_simp; (try with_reducible rfl))
      simp only [Act.put, List.getElem_toArray, List.getElem_cons_zero, List.getElem_cons_succ, List.setIfInBounds_toArray, List.set_cons_zero, List.set_cons_succ]
      refine wpAnyH_take (i := 2) (v := ?_) rfl (by kernel_rfl) (by kernel_rfl) (by kernel_rfl) (fun _ _ _ h => h) (Or.inl ⟨by rfl, ?_⟩) (by assumption) ?_
      rotate_left
      · (intro w hSw; (try dsimp only at hSw); go_simp; (try with_reducible rfl))
      simp only [Act.put, List.getElem_toArray, List.getElem_cons_zero, List.getElem_cons_succ, List.setIfInBounds_toArray, List.set_cons_zero, List.set_cons_succ]
      refine wpAnyH_take (i := 3) (v := ?_) rfl (by kernel_rfl) (by kernel_rfl) (by kernel_rfl) (fun _ _ _ h => h) (Or.inl ⟨by rfl, ?_⟩) (by assumption) ?_
      rotate_left
      · (intro w hSw; (try dsimp only at hSw); go_simp; (try with_reducible rfl))
      simp only [Act.put, List.getElem_toArray, List.getElem_cons_zero, List.getElem_cons_succ, List.setIfInBounds_toArray, List.set_cons_zero, List.set_cons_succ]
      refine wpAnyH_take (i := 4) (v := ?_) rfl (by kernel_rfl) (by kernel_rfl) (by kernel_rfl) (fun _ _ _ h => h) (Or.inl ⟨by rfl, ?_⟩) (by assumption) ?_
      rotate_left
      · (intro w hSw; (try dsimp only at hSw); go_simp; (try with_reducible rfl))
      simp only [Act.put, List.getElem_toArray, List.getElem_cons_zero, List.getElem_cons_succ, List.setIfInBounds_toArray, List.set_cons_zero, List.set_cons_succ]
      refine wpAnyH_take (i := 5) (v := ?_) rfl (by kernel_rfl) (by kernel_rfl) (by kernel_rfl) (fun _ _ _ h => h) (Or.inl ⟨by rfl, ?_⟩) (by assumption) ?_
      rotate_left
      · (intro w hSw; (try dsimp only at hSw); go_simp; (try with_reducible rfl))
      simp only [Act.put, List.getElem_toArray, List.getElem_cons_zero, List.getElem_cons_succ, List.setIfInBounds_toArray, List.set_cons_zero, List.set_cons_succ]
      refine wpAnyH_take (i := 6) (v := ?_) rfl (by kernel_rfl) (by kernel_rfl) (by kernel_rfl) (fun _ _ _ h => h) (Or.inl ⟨by rfl, ?_⟩) (by assumption) ?_
      rotate_left
      · (intro w hSw; (try dsimp only at hSw); go_simp; (try with_reducible rfl))
      simp only [Act.put, List.getElem_toArray, List.getElem_cons_zero, List.getElem_cons_succ, List.setIfInBounds_toArray, List.set_cons_zero, List.set_cons_succ]
      refine wpAnyH_take (i := 7) (v := ?_) rfl (by kernel_rfl) (by kernel_rfl) (by kernel_rfl) (fun _ _ _ h => h) (Or.inl ⟨by rfl, ?_⟩) (by assumption) ?_
      rotate_left
      · (intro w hSw; (try dsimp only at hSw); go_simp; (try with_reducible rfl))
      simp only [Act.put, List.getElem_toArray, List.getElem_cons_zero, List.getElem_cons_succ, List.setIfInBounds_toArray, List.set_cons_zero, List.set_cons_succ]
      refine wpAnyH_take (i := 8) (v := ?_) rfl (by kernel_rfl) (by kernel_rfl) (by kernel_rfl) (fun _ _ _ h => h) (Or.inl ⟨by rfl, ?_⟩) (by assumption) ?_
      rotate_left
      · (intro w hSw; (try dsimp only at hSw); go_simp; (try with_reducible rfl))
      simp only [Act.put, List.getElem_toArray, List.getElem_cons_zero, List.getElem_cons_succ, List.setIfInBounds_toArray, List.set_cons_zero, List.set_cons_succ]
      refine wpAnyH_take (i := 9) (v := ?_) rfl (by kernel_rfl) (by kernel_rfl) (by kernel_rfl) (fun _ _ _ h => h) (Or.inl ⟨by rfl, ?_⟩) (by assumption) ?_
      rotate_left
      · (intro w hSw; (try dsimp only at hSw); go_simp; (try with_reducible rfl))
      simp only [Act.put, List.getElem_toArray, List.getElem_cons_zero, List.getElem_cons_succ, List.setIfInBounds_toArray, List.set_cons_zero, List.set_cons_succ]
      refine wpAnyH_take (i := 10) (v := ?_) rfl (by kernel_rfl) (by kernel_rfl) (by kernel_rfl) (fun _ _ _ h => h) (Or.inl ⟨by rfl, ?_⟩) (by assumption) ?_
      rotate_left
      · (intro w hSw; (try dsimp only at hSw); obtain ⟨c0, c1, c2, c3, c4, c5⟩ := (HT7.out.below hSw).cells; go_simp; (try with_reducible rfl))
      simp only [Act.put, List.getElem_toArray, List.getElem_cons_zero, List.getElem_cons_succ, List.setIfInBounds_toArray, List.set_cons_zero, List.set_cons_succ]
      refine wpAnyH_take (i := 12) (v := ?_) rfl (by kernel_rfl) (by kernel_rfl) (by kernel_rfl) (fun _ _ _ h => h) (Or.inl ⟨by rfl, ?_⟩) (by assumption) ?_
      rotate_left
      · (intro w hSw; (try dsimp only at hSw); go_simp; (try with_reducible rfl))
      simp only [Act.put, List.getElem_toArray, List.getElem_cons_zero, List.getElem_cons_succ, List.setIfInBounds_toArray, List.set_cons_zero, List.set_cons_succ]
      refine wpAnyH_take (i := 13) (v := ?_) rfl (by kernel_rfl) (by kernel_rfl) (by kernel_rfl) (fun _ _ _ h => h) (Or.inl ⟨by rfl, ?_⟩) (by assumption) ?_
      rotate_left
      · (intro w hSw; (try dsimp only at hSw); obtain ⟨c0, c1, c2, c3, c4, c5⟩ := (HT7.out.below hSw).cells; go_simp; (try with_reducible rfl))
      simp only [Act.put, List.getElem_toArray, List.getElem_cons_zero, List.getElem_cons_succ, List.setIfInBounds_toArray, List.set_cons_zero, List.set_cons_succ]
      refine wpAnyH_ready (rs := [11]) (by kernel_rfl) (by simp) ?_
      refine AllReadyH.cons rfl (fun K hK => ?_) AllReadyH.nil
      rw [if_pos (by rfl)]
      go_simp
      ((with_reducible refine (rp _).mono ?_); rintro e w' ⟨rfl, bq⟩)
      refine hK.out _ _ (bch hHeld bq) (fun hHeld2 => ?_)
      clear hK K hHeld
      have hHeld := hHeld2; clear hHeld2
      refine wpAnyH_ready (rs := [14]) (by kernel_rfl) (by simp) ?_
      refine AllReadyH.cons rfl (fun K hK => ?_) AllReadyH.nil
      rw [if_pos (by rfl)]
      go_simp
      ((with_reducible refine (rr _).mono ?_); rintro e w' ⟨rfl, bq⟩)
      refine hK.out _ _ (bch hHeld bq) (fun hHeld2 => ?_)
      clear hK K hHeld
      have hHeld := hHeld2; clear hHeld2
      refine wpAnyH_take (i := 15) (v := ?_) rfl (by kernel_rfl) (by kernel_rfl) (by kernel_rfl) (fun _ _ _ h => h) (Or.inl ⟨by rfl, ?_⟩) (by assumption) ?_
      rotate_left
      · (intro w hSw; (try dsimp only at hSw); go_simp; (try with_reducible rfl))
      simp only [Act.put, List.getElem_toArray, List.getElem_cons_zero, List.getElem_cons_succ, List.setIfInBounds_toArray, List.set_cons_zero, List.set_cons_succ]
      refine wpAnyH_take (i := 16) (v := ?_) rfl (by kernel_rfl) (by kernel_rfl) (by kernel_rfl) (fun _ _ _ h => h) (Or.inl ⟨by rfl, ?_⟩) (by assumption) ?_
      rotate_left
      · (intro w hSw; (try dsimp only at hSw); go_simp; (try with_reducible rfl))
      simp only [Act.put, List.getElem_toArray, List.getElem_cons_zero, List.getElem_cons_succ, List.setIfInBounds_toArray, List.set_cons_zero, List.set_cons_succ]
      refine wpAnyH_done (by kernel_rfl) ?_ _
      refine NoPanic.normal ?_
      have hb8 := bch HB7.out hHeld
      clear hHeld rp rr bq
      have HB8 := Lib.hid hb8; clear hb8
      go_wp2_with fail
      go_roundw
      case rel => exact ⟨j + 1, _, rfl, by omega, by go_num, HB8.out⟩
      case measure => simp [intOf]; omega
    · have hje : j = 3 := by omega
      subst hje
      have HBQ := Lib.hid (bch HB2.out hbq); clear hbq
      have o1 := O1H.out
      have r1 := R1H.out
      have o2 := O2H.out
      have r2 := R2H.out
      have qp := QPH.out
      have qq := QQH.out
      go_wp2_with fail
      ((with_reducible refine (o1 _ HBQ.out).mono ?_); rintro e X1 ⟨rfl, x1⟩)
      have HX_1 := Lib.hid (bch HBQ.out x1); clear x1
      go_wp2_with fail
      ((with_reducible refine (r1 _).mono ?_); rintro e X2 ⟨rfl, x2⟩)
      have HX_2 := Lib.hid (bch HX_1.out x2); clear x2
      go_wp2_with fail
      ((with_reducible refine (qp _).mono ?_); rintro e Y1 ⟨rfl, rfl⟩)
      go_wp2_with fail
      ((with_reducible refine (qq _).mono ?_); rintro e Y1 ⟨rfl, rfl⟩)
      go_wp2_with fail
      ((with_reducible refine (o2 _ HX_2.out).mono ?_); rintro e X3 ⟨rfl, x3⟩)
      have HX_3 := Lib.hid (bch HX_2.out x3); clear x3
      go_wp2_with fail
      ((with_reducible refine (qp _).mono ?_); rintro e Y1 ⟨rfl, rfl⟩)
      go_wp2_with fail
      ((with_reducible refine (qq _).mono ?_); rintro e Y1 ⟨rfl, rfl⟩)
      go_wp2_with fail
      ((with_reducible refine (r2 _).mono ?_); rintro e X4 ⟨rfl, x4⟩)
      have HX_4 := Lib.hid (bch HX_3.out x4); clear x4
      go_wp2_with fail
      go_ret
      exact ⟨rfl, HX_4.out⟩
end Go.Proofs.YtfnkgldfgciplaaDoor
