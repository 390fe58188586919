import Derived.Test.YtjdpihppniibjaaWireRows
import Derived.Test.YtjdpihppniibjaaWireDec
/-
  The walk of the law WireTells, over what is asked of the program (stage 8).
-/
namespace Go.Proofs.Ytjdpihppniibjaa
open Go.RowKit
set_option linter.unusedVariables false
set_option linter.unusedSimpArgs false

/-- Five texts in a block; three numbers. -/
def Tx5 (W : World) (b : Nat) (x y z u v : ByteArray) : Prop := W.heap[b]? = some (.cells #[.string x, .string y, .string z, .string u, .string v] 9 (0, 0))
theorem Tx5.below {w w' : World} {b : Nat} {x y z u v : ByteArray} (h : Tx5 w b x y z u v) (hb : Below w.heap.size w w') : Tx5 w' b x y z u v := Eq.trans (hb.block b (lt_of_blk h)) h
theorem Tx5.new (W : World) (x y z u v : ByteArray) : Tx5 (W.alloc (.cells #[.string x, .string y, .string z, .string u, .string v] 9)) W.heap.size x y z u v := World.alloc_heap_new W _
theorem Tx5.at {W : World} {b : Nat} {x y z u v : ByteArray} (h : Tx5 W b x y z u v) {i : Nat} (hi : i < 5) : ∃ m, (m = x ∨ m = y ∨ m = z ∨ m = u ∨ m = v) ∧ W.cell? ⟨b, i, none⟩ = some (.string m) := by
  rcases (by omega : i = 0 ∨ i = 1 ∨ i = 2 ∨ i = 3 ∨ i = 4) with rfl | rfl | rfl | rfl | rfl
  · exact ⟨x, by simp, cell_blk h 0⟩
  · exact ⟨y, by simp, cell_blk h 1⟩
  · exact ⟨z, by simp, cell_blk h 2⟩
  · exact ⟨u, by simp, cell_blk h 3⟩
  · exact ⟨v, by simp, cell_blk h 4⟩
def In3 (W : World) (b : Nat) (x y z : Int) : Prop := W.heap[b]? = some (.cells #[.int .i64 x, .int .i64 y, .int .i64 z] 3 (0, 0))
theorem In3.below {w w' : World} {b : Nat} {x y z : Int} (h : In3 w b x y z) (hb : Below w.heap.size w w') : In3 w' b x y z := Eq.trans (hb.block b (lt_of_blk h)) h
theorem In3.new (W : World) (x y z : Int) : In3 (W.alloc (.cells #[.int .i64 x, .int .i64 y, .int .i64 z] 3)) W.heap.size x y z := World.alloc_heap_new W _
theorem In3.at {W : World} {b : Nat} {x y z : Int} (h : In3 W b x y z) {i : Nat} (hi : i < 3) : ∃ m, (m = x ∨ m = y ∨ m = z) ∧ W.cell? ⟨b, i, none⟩ = some (.int .i64 m) := by
  rcases (by omega : i = 0 ∨ i = 1 ∨ i = 2) with rfl | rfl | rfl
  · exact ⟨x, .inl rfl, cell_blk h 0⟩
  · exact ⟨y, .inr (.inl rfl), cell_blk h 1⟩
  · exact ⟨z, .inr (.inr rfl), cell_blk h 2⟩

set_option maxRecDepth 100000 in
set_option maxHeartbeats 8000000 in
theorem wireTells_core (hR : RightW) (hE : EncW) (hD : DecW) (M : Mg) (v0 : Int) (a0 a1 a2 a3 a4 : Int) (t s : ByteArray) (at0 : Int) (more : ByteArray) (w : World)
    (hM : WfM M) (zM : M.body.size ≤ 140737488355328) (hv0 : (Lit.int .i64 v0).wf = true) (h0 : (Lit.int .i64 a0).wf = true) (h1 : (Lit.int .i64 a1).wf = true) (h2 : (Lit.int .i64 a2).wf = true) (h3 : (Lit.int .i64 a3).wf = true) (h4 : (Lit.int .i64 a4).wf = true)
    (ht : t.size ≤ 140737488351232) (hs : s.size ≤ 140737488351232) (hat : (Lit.int .i64 at0).wf = true) (hmo : more.size ≤ 140737488351232) :
    Calls Try.prog 3 #[mgV M, .int .i64 v0, .agg #[.int .i64 a0, .int .i64 a1, .int .i64 a2, .int .i64 a3, .int .i64 a4], .string t, .string s, .int .i64 at0, .string more] w fun e w' => e = .returned (.bool true) ∧ Below w.heap.size w w' := by
  unfold mgV
  have qw := awake8_any hR hE hD
  have qa := fun v W => message_any v a0 a1 a2 a3 a4 t (by omega) h0 h1 h2 h3 h4 W
  have QA := Lib.hid qa; clear qa
  have HE := Lib.hid hE
  have HR := Lib.hid hR
  have HD := Lib.hid hD
  have HAT := Lib.hid hat
  have HS := Lib.hid hs
  have HMW : Hid (WfM M ∧ M.body.size ≤ 140737488355328) := ⟨hM, zM⟩
  have HV : Hid (∀ x : Int, x = v0 ∨ x = 1 ∨ x = 2 → (Lit.int .i64 x).wf = true) := by
    rintro x (rfl | rfl | rfl)
    · exact hv0
    · decide
    · decide
  clear hR hE hD h0 h1 h2 h3 h4 ht hat hs hM zM hv0
  have hb0 : Below w.heap.size w ((w.alloc (.cells #[.int .i64 M.kind, .int .i64 M.frm, .int .i64 M.to, .int .i64 M.seq, .string M.body, .int .i64 M.trace] 23)).alloc (.cells #[.int .i64 a0, .int .i64 a1, .int .i64 a2, .int .i64 a3, .int .i64 a4] 24)) := ((Below.refl _ _).alloc (Nat.le_refl _) _).alloc (by simp) _
  have hx : MgBlk ((w.alloc (.cells #[.int .i64 M.kind, .int .i64 M.frm, .int .i64 M.to, .int .i64 M.seq, .string M.body, .int .i64 M.trace] 23)).alloc (.cells #[.int .i64 a0, .int .i64 a1, .int .i64 a2, .int .i64 a3, .int .i64 a4] 24)) w.heap.size M := (MgBlk.new w M).below ((Below.refl _ _).alloc (Nat.le_refl _) _)
  have ha : A5Blk ((w.alloc (.cells #[.int .i64 M.kind, .int .i64 M.frm, .int .i64 M.to, .int .i64 M.seq, .string M.body, .int .i64 M.trace] 23)).alloc (.cells #[.int .i64 a0, .int .i64 a1, .int .i64 a2, .int .i64 a3, .int .i64 a4] 24)) (w.heap.size + 1) a0 a1 a2 a3 a4 := by
    have h := A5Blk.new (w.alloc (.cells #[.int .i64 M.kind, .int .i64 M.frm, .int .i64 M.to, .int .i64 M.seq, .string M.body, .int .i64 M.trace] 23)) a0 a1 a2 a3 a4
    rw [World.size_alloc] at h
    exact h
  obtain ⟨W0, hW0⟩ : ∃ W, (w.alloc (.cells #[.int .i64 M.kind, .int .i64 M.frm, .int .i64 M.to, .int .i64 M.seq, .string M.body, .int .i64 M.trace] 23)).alloc (.cells #[.int .i64 a0, .int .i64 a1, .int .i64 a2, .int .i64 a3, .int .i64 a4] 24) = W := ⟨_, rfl⟩
  rw [hW0] at hb0 ha hx
  have H_hb0 := Lib.hid hb0; clear hb0
  have H_ha := Lib.hid ha; clear ha
  have H_hx := Lib.hid hx; clear hx
  go_enter Try.func3, Try.ntmps3
  go_wp2_with fail
  ((with_reducible refine (qw _).mono ?_); rintro e W1 ⟨rfl, hb⟩)
  clear hW0 qw
  go_upto_region 3 with fail
  have hb1 := (bch H_hb0.out hb).alloc (bch H_hb0.out hb).size (.cells #[.int .i64 v0, .int .i64 1, .int .i64 2] 3)
  have ha := (H_ha.out.below hb).below ((Below.refl _ _).alloc (Nat.le_refl _) (.cells #[.int .i64 v0, .int .i64 1, .int .i64 2] 3))
  have hx := (H_hx.out.below hb).below ((Below.refl _ _).alloc (Nat.le_refl _) (.cells #[.int .i64 v0, .int .i64 1, .int .i64 2] 3))
  have hi := In3.new W1 v0 1 2
  clear hb H_ha H_hx H_hb0
  obtain ⟨V1, hV1⟩ : ∃ W, W1.alloc (.cells #[.int .i64 v0, .int .i64 1, .int .i64 2] 3) = W := ⟨_, rfl⟩
  rw [hV1] at hb1 ha hx hi ⊢
  clear hV1
  generalize W1.heap.size = g1 at *
  have H_hb1 := Lib.hid hb1; clear hb1
  have H_ha := Lib.hid ha; clear ha
  have H_hx := Lib.hid hx; clear hx
  have H_hi := Lib.hid hi; clear hi
  go_wp2_with fail
  go_loopw [40] (fun i wy => ∃ (j : Nat) (wq : World), wq = wy ∧ j ≤ 3 ∧ i = .int .i64 j ∧ Below V1.heap.size V1 wq) (fun i _ => 3 - (intOf i).toNat)
  case atStart => exact ⟨0, _, rfl, by omega, rfl, Below.refl _ _⟩
  case round =>
    obtain ⟨j, wq, rfl, hj3, rfl, hby⟩ := hrel
    have ha1 := H_ha.out.below hby
    have hx1 := H_hx.out.below hby
    by_cases hj : j < 3
    · obtain ⟨x, hxx, e0⟩ := (H_hi.out.below hby).at hj
      have hxw := HV.out x hxx
      have H_hby := Lib.hid hby; clear hby hxx
      have H_ha0 := H_ha
      have H_hx0 := H_hx
      clear H_ha H_hx
      have H_ha := Lib.hid ha1; clear ha1
      have H_hx := Lib.hid hx1; clear hx1
      have hj0 : (0 : Int) ≤ (j : Int) := by omega
      have hj1 : (j : Int) < (3 : Int) := by omega
      have qp := pickW_nat x 2 (by omega) (by omega) hxw
      have kp := pickN_lt x 2 (by omega)
      generalize pickN x 2 = p at qp kp
      have wp1 : IntKind.i64.wrap (1 + (p : Int)) = 1 + (p : Int) := IntWalk.i64_in _ (by omega)
      obtain ⟨A, hA⟩ : ∃ A, msgR (1 + (p : Int)) a0 a1 a2 a3 a4 t = A := ⟨_, rfl⟩
      have qa := QA.out (1 + (p : Int))
      have ra := msgR_right (v := 1 + (p : Int)) (by omega) a0 a1 a2 a3 a4 t
      have za := msgR_size (1 + (p : Int)) a0 a1 a2 a3 a4 t
      rw [hA] at qa ra za
      unfold mgV at qa
      clear hA
      have RA := Lib.hid ra; clear ra
      have ZA := Lib.hid za; clear za
      have HXW := Lib.hid hxw; clear hxw
      have KP := Lib.hid kp; clear kp
      go_upto_region 5 with fail
      clear e0
      go_cut [18] (fun s18 wx => MgMid wq wx s18 A)
      case first =>
        refine wp_region_noPanic ?_
        refine wp_region_held_drew (S := fun W => Below wq.heap.size wq W) (by kernel_rfl) ((Below.refl _ _).drew) (fun hHeld => ?_)
        refine wpAnyH_take (i := 0) (v := ?_) rfl (by kernel_rfl) (by kernel_rfl) (by kernel_rfl) (fun _ _ _ h => h) (Or.inl ⟨by rfl, ?_⟩) (by assumption) ?_
        rotate_left
        · (intro w hSw; (try dsimp only at hSw); go_simp; (try with_reducible rfl))
        simp only [Act.put, List.getElem_toArray, List.getElem_cons_zero, List.setIfInBounds_toArray, List.set_cons_zero, List.set_cons_succ]
        refine wpAnyH_take (i := 3) (v := ?_) rfl (by kernel_rfl) (by kernel_rfl) (by kernel_rfl) (fun _ _ _ h => h) (Or.inl ⟨by rfl, ?_⟩) (by assumption) ?_
        rotate_left
        · (intro w hSw; (try dsimp only at hSw); obtain ⟨c0, c1, c2, c3, c4⟩ := (H_ha.out.below hSw).cells; go_simp; (try with_reducible rfl))
        simp only [Act.put, List.getElem_toArray, List.getElem_cons_zero, List.getElem_cons_succ, List.setIfInBounds_toArray, List.set_cons_zero, List.set_cons_succ]
        refine wpAnyH_take (i := 4) (v := ?_) rfl (by kernel_rfl) (by kernel_rfl) (by kernel_rfl) (fun _ _ _ h => h) (Or.inl ⟨by rfl, ?_⟩) (by assumption) ?_
        rotate_left
        · (intro w hSw; (try dsimp only at hSw); go_simp; (try with_reducible rfl))
        simp only [Act.put, List.getElem_toArray, List.getElem_cons_zero, List.getElem_cons_succ, List.setIfInBounds_toArray, List.set_cons_zero, List.set_cons_succ]
        refine wpAnyH_ready (rs := [1, 6]) (by kernel_rfl) (by simp) ?_
        refine AllReadyH.cons rfl (fun K hK => ?_) ?_
        · rw [if_pos (by rfl)]
          go_simp
          ((with_reducible refine (qp _).mono ?_); rintro e w' ⟨rfl, rfl⟩)
          refine hK.out _ _ (hHeld) (fun hHeld2 => ?_)
          clear hK K hHeld
          have hHeld := hHeld2; clear hHeld2
          refine wpAnyH_take (i := 2) (v := ?_) rfl (by kernel_rfl) (by kernel_rfl) (by kernel_rfl) (fun _ _ _ h => h) (Or.inl ⟨by rfl, ?_⟩) (by assumption) ?_
          rotate_left
          · (intro w hSw; (try dsimp only at hSw); go_simp; (try with_reducible rfl))
          simp only [Act.put, List.getElem_toArray, List.getElem_cons_zero, List.getElem_cons_succ, List.setIfInBounds_toArray, List.set_cons_zero, List.set_cons_succ]
          refine wpAnyH_ready (rs := [5, 6]) (by kernel_rfl) (by simp) ?_
          refine AllReadyH.cons rfl (fun K hK => ?_) ?_
          · rw [if_pos (by rfl)]
            go_simp
            ((with_reducible refine (qa _).mono ?_); rintro e w' ⟨rfl, bq⟩)
            refine hK.out _ _ (bch hHeld bq) (fun hHeld2 => ?_)
            clear hK K hHeld
            have hHeld := hHeld2; clear hHeld2
            refine wpAnyH_ready (rs := [6]) (by kernel_rfl) (by simp) ?_
            refine AllReadyH.cons rfl (fun K hK => ?_) AllReadyH.nil
            rw [if_pos (by rfl)]
            go_simp
            have HBW := Lib.hid hHeld
            refine hK.out _ _ (hHeld.alloc hHeld.size _) (fun hHeld2 => ?_)
            clear hK K hHeld
            have hHeld := hHeld2; clear hHeld2
            refine wpAnyH_ready (rs := [7]) (by kernel_rfl) (by simp) ?_
            refine AllReadyH.cons rfl (fun K hK => ?_) AllReadyH.nil
            rw [if_pos (by rfl)]
            go_simp
            refine hK.out _ _ (HBW.out.alloc HBW.out.size _) (fun hHeld2 => ?_)
            clear hK K hHeld
            have hHeld := hHeld2; clear hHeld2
            refine wpAnyH_done (by kernel_rfl) ?_ _
            refine NoPanic.normal ?_
            go_wp2_with fail
            go_meet
            exact ⟨_, rfl, HBW.out.size, MgBlk.new w' A, hHeld⟩
          refine AllReadyH.cons rfl (fun K hK => ?_) ?_
          · rw [if_pos (by rfl)]
            go_simp
            have hg : MgBlk (wq.drew.alloc (.cells #[.int .i64 0, .int .i64 0, .int .i64 0, .int .i64 0, .string ⟨#[]⟩, .int .i64 0] 23)) wq.heap.size zeroM := MgBlk.new wq.drew zeroM
            refine hK.out _ _ (hHeld.alloc hHeld.size _) (fun hHeld2 => ?_)
            clear hK K hHeld
            have hHeld := hHeld2; clear hHeld2
            refine wpAnyH_ready (rs := [5]) (by kernel_rfl) (by simp) ?_
            refine AllReadyH.cons rfl (fun K hK => ?_) AllReadyH.nil
            rw [if_pos (by rfl)]
            go_simp
            ((with_reducible refine (qa _).mono ?_); rintro e w' ⟨rfl, bq⟩)
            have hg2 := hg.below bq; clear hg
            have hg := hg2; clear hg2
            refine hK.out _ _ (bch hHeld bq) (fun hHeld2 => ?_)
            clear hK K hHeld
            have hHeld := hHeld2; clear hHeld2
            obtain ⟨d0, d1, d2, d3, d4, d5⟩ := hg.cells
            simp only [zeroM] at d0 d1 d2 d3 d4 d5
            have f0 := hg.frozen 0
            have f1 := hg.frozen 1
            have f2 := hg.frozen 2
            have f3 := hg.frozen 3
            have f4 := hg.frozen 4
            have f5 := hg.frozen 5
            have HGG := Lib.hid hg; clear hg
            refine wpAnyH_ready (rs := [7]) (by kernel_rfl) (by simp) ?_
            refine AllReadyH.cons rfl (fun K hK => ?_) AllReadyH.nil
            rw [if_pos (by rfl)]
            go_simp
            refine hK.out _ _ (below_put6 hHeld (Nat.le_refl _) _ _ _ _ _ _) (fun hHeld2 => ?_)
            clear hK K hHeld
            have hHeld := hHeld2; clear hHeld2
            refine wpAnyH_done (by kernel_rfl) ?_ _
            refine NoPanic.normal ?_
            go_wp2_with fail
            go_meet
            exact ⟨_, rfl, Nat.le_refl _, HGG.out.put A, hHeld⟩
          exact AllReadyH.nil
        refine AllReadyH.cons rfl (fun K hK => ?_) ?_
        · rw [if_pos (by rfl)]
          go_simp
          have hg : MgBlk (wq.drew.alloc (.cells #[.int .i64 0, .int .i64 0, .int .i64 0, .int .i64 0, .string ⟨#[]⟩, .int .i64 0] 23)) wq.heap.size zeroM := MgBlk.new wq.drew zeroM
          refine hK.out _ _ (hHeld.alloc hHeld.size _) (fun hHeld2 => ?_)
          clear hK K hHeld
          have hHeld := hHeld2; clear hHeld2
          refine wpAnyH_ready (rs := [1]) (by kernel_rfl) (by simp) ?_
          refine AllReadyH.cons rfl (fun K hK => ?_) AllReadyH.nil
          rw [if_pos (by rfl)]
          go_simp
          ((with_reducible refine (qp _).mono ?_); rintro e w' ⟨rfl, rfl⟩)
          refine hK.out _ _ (hHeld) (fun hHeld2 => ?_)
          clear hK K hHeld
          have hHeld := hHeld2; clear hHeld2
          refine wpAnyH_take (i := 2) (v := ?_) rfl (by kernel_rfl) (by kernel_rfl) (by kernel_rfl) (fun _ _ _ h => h) (Or.inl ⟨by rfl, ?_⟩) (by assumption) ?_
          rotate_left
          · (intro w hSw; (try dsimp only at hSw); go_simp; (try with_reducible rfl))
          simp only [Act.put, List.getElem_toArray, List.getElem_cons_zero, List.getElem_cons_succ, List.setIfInBounds_toArray, List.set_cons_zero, List.set_cons_succ]
          refine wpAnyH_ready (rs := [5]) (by kernel_rfl) (by simp) ?_
          refine AllReadyH.cons rfl (fun K hK => ?_) AllReadyH.nil
          rw [if_pos (by rfl)]
          go_simp
          ((with_reducible refine (qa _).mono ?_); rintro e w' ⟨rfl, bq⟩)
          have hg2 := hg.below bq; clear hg
          have hg := hg2; clear hg2
          refine hK.out _ _ (bch hHeld bq) (fun hHeld2 => ?_)
          clear hK K hHeld
          have hHeld := hHeld2; clear hHeld2
          obtain ⟨d0, d1, d2, d3, d4, d5⟩ := hg.cells
          simp only [zeroM] at d0 d1 d2 d3 d4 d5
          have f0 := hg.frozen 0
          have f1 := hg.frozen 1
          have f2 := hg.frozen 2
          have f3 := hg.frozen 3
          have f4 := hg.frozen 4
          have f5 := hg.frozen 5
          have HGG := Lib.hid hg; clear hg
          refine wpAnyH_ready (rs := [7]) (by kernel_rfl) (by simp) ?_
          refine AllReadyH.cons rfl (fun K hK => ?_) AllReadyH.nil
          rw [if_pos (by rfl)]
          go_simp
          refine hK.out _ _ (below_put6 hHeld (Nat.le_refl _) _ _ _ _ _ _) (fun hHeld2 => ?_)
          clear hK K hHeld
          have hHeld := hHeld2; clear hHeld2
          refine wpAnyH_done (by kernel_rfl) ?_ _
          refine NoPanic.normal ?_
          go_wp2_with fail
          go_meet
          exact ⟨_, rfl, Nat.le_refl _, HGG.out.put A, hHeld⟩
        exact AllReadyH.nil
      case rest =>
        obtain ⟨gA, rfl, hgl, hgb, hbm⟩ := hcut
        have hx2 := H_hx.out.below hbm
        have hb2 := bch H_hby.out hbm
        clear hbm hgl qa
        have H_hgA := Lib.hid hgb; clear hgb
        have H_hx2 := Lib.hid hx2; clear hx2
        have H_hb2 := Lib.hid hb2; clear hb2
        obtain ⟨c0, c1, c2, c3, c4, c5⟩ := H_hx2.out.cells
        obtain ⟨d0, d1, d2, d3, d4, d5⟩ := H_hgA.out.cells
        go_upto_region 7 with fail
        clear c0 c1 c2 c3 c4 c5 d0 d1 d2 d3 d4 d5
        have hb3 := H_hb2.out.alloc H_hb2.out.size (.cells #[.int .i64 M.kind, .int .i64 M.frm, .int .i64 M.to, .int .i64 M.seq, .string M.body, .int .i64 M.trace, .int .i64 A.kind, .int .i64 A.frm, .int .i64 A.to, .int .i64 A.seq, .string A.body, .int .i64 A.trace] 23)
        have hms := Ms2.new wc M A
        have hgA := H_hgA.out.below ((Below.refl _ _).alloc (Nat.le_refl _) (.cells #[.int .i64 M.kind, .int .i64 M.frm, .int .i64 M.to, .int .i64 M.seq, .string M.body, .int .i64 M.trace, .int .i64 A.kind, .int .i64 A.frm, .int .i64 A.to, .int .i64 A.seq, .string A.body, .int .i64 A.trace] 23))
        obtain ⟨V3, hV3⟩ : ∃ W, wc.alloc (.cells #[.int .i64 M.kind, .int .i64 M.frm, .int .i64 M.to, .int .i64 M.seq, .string M.body, .int .i64 M.trace, .int .i64 A.kind, .int .i64 A.frm, .int .i64 A.to, .int .i64 A.seq, .string A.body, .int .i64 A.trace] 23) = W := ⟨_, rfl⟩
        rw [hV3] at hb3 hms hgA ⊢
        clear hV3
        generalize wc.heap.size = g3 at *
        have H_hb3 := Lib.hid hb3; clear hb3
        have H_hms := Lib.hid hms; clear hms
        have H_hgA := Lib.hid hgA; clear hgA
        go_wp2_with fail
        go_loopw [54] (fun i wy => ∃ (j2 : Nat) (wp : World), wp = wy ∧ j2 ≤ 2 ∧ i = .int .i64 j2 ∧ Below V3.heap.size V3 wp) (fun i _ => 2 - (intOf i).toNat)
        case atStart => exact ⟨0, _, rfl, by omega, rfl, Below.refl _ _⟩
        case round =>
          obtain ⟨j2, wp, rfl, hj2, rfl, hbp⟩ := hrel
          by_cases hk2 : j2 < 2
          · obtain ⟨m, hm, e0, e1, e2, e3, e4, e5⟩ := (H_hms.out.below hbp).at hk2
            have hmw : WfM m ∧ m.body.size ≤ 140737488355328 := by
              rcases hm with rfl | rfl
              · exact HMW.out
              · exact ⟨RA.out.wf, by have := ZA.out; omega⟩
            have H_hbp := Lib.hid hbp; clear hbp hm
            have k0 : (0 : Int) ≤ (j2 : Int) := by omega
            have k1 : (j2 : Int) < (2 : Int) := by omega
            obtain ⟨Q, hQ⟩ : ∃ Q, wE x m = Q := ⟨_, rfl⟩
            obtain ⟨l, n⟩ := Q
            obtain ⟨rb, hrb⟩ : ∃ b, rightM x m = b := ⟨_, rfl⟩
            have eE := EncW.at (S := bs l) HE.out rfl hQ rfl hmw.2 HXW.out hmw.1
            have rE := fun W => refencodeW_any x m hmw.2 W
            rw [hQ] at rE
            have eR := RightW.at HR.out rfl hrb hmw.2 HXW.out hmw.1
            have rR := fun W => refrightW_any x m hmw.2 W
            rw [hrb] at rR
            unfold mgV at eE rE eR rR
            simp only at rE
            generalize bs l = S at eE rE
            have ss : (S.toList != S.toList) = false := by simp
            have bb : (rb != rb) = false := by simp
            have nn : ((n : Int) != (n : Int)) = false := by simp
            clear hQ hrb hmw
            go_upto_region 9 with fail
            clear e0 e1 e2 e3 e4 e5
            have hb4 := H_hbp.out.alloc H_hbp.out.size (.cells #[.int .i64 m.kind, .int .i64 m.frm, .int .i64 m.to, .int .i64 m.seq, .string m.body, .int .i64 m.trace] 23)
            have hm4 := MgBlk.new wp m
            obtain ⟨V4, hV4⟩ : ∃ W, wp.alloc (.cells #[.int .i64 m.kind, .int .i64 m.frm, .int .i64 m.to, .int .i64 m.seq, .string m.body, .int .i64 m.trace] 23) = W := ⟨_, rfl⟩
            rw [hV4] at hb4 hm4 ⊢
            clear hV4
            generalize wp.heap.size = g4 at *
            clear H_hbp
            have H_hb4 := Lib.hid hb4; clear hb4
            have H_hm4 := Lib.hid hm4; clear hm4
            obtain ⟨c0, c1, c2, c3, c4, c5⟩ := H_hm4.out.cells
            go_wp2_with fail
            ((with_reducible refine (eE _).mono ?_); rintro e Y1 ⟨rfl, b1⟩)
            clear c0 c1 c2 c3 c4 c5
            have hb6 := bch H_hb4.out b1
            have hm6 := H_hm4.out.below b1
            clear b1 eE
            have H_hb6 := Lib.hid hb6; clear hb6
            have H_hm6 := Lib.hid hm6; clear hm6
            obtain ⟨c0, c1, c2, c3, c4, c5⟩ := H_hm6.out.cells
            go_wp2_with fail
            ((with_reducible refine (rE _).mono ?_); rintro e Y2 ⟨rfl, b2⟩)
            clear c0 c1 c2 c3 c4 c5
            have hb7 := bch H_hb6.out b2
            have hm5 := H_hm6.out.below b2
            clear b2 rE
            have H_hb7 := Lib.hid hb7; clear hb7
            have H_hm5 := Lib.hid hm5; clear hm5
            go_upto_region 11 with fail
            refine wp_region_noPanic ?_
            refine wp_region_held_drew (S := fun W => Below Y2.heap.size Y2 W) (by kernel_rfl) ((Below.refl _ _).drew) (fun hHeld => ?_)
            refine wpAnyH_take (i := 0) (v := ?_) rfl (by kernel_rfl) (by kernel_rfl) (by kernel_rfl) (fun _ _ _ h => h) (Or.inl ⟨by rfl, ?_⟩) (by assumption) ?_
            rotate_left
            · (intro w hSw; (try dsimp only at hSw); go_simp; (try with_reducible rfl))
            simp only [Act.put, List.getElem_toArray, List.getElem_cons_zero, List.setIfInBounds_toArray, List.set_cons_zero, List.set_cons_succ]
            refine wpAnyH_take (i := 1) (v := ?_) rfl (by kernel_rfl) (by kernel_rfl) (by kernel_rfl) (fun _ _ _ h => h) (Or.inl ⟨by rfl, ?_⟩) (by assumption) ?_
            rotate_left
            · (intro w hSw; (try dsimp only at hSw); go_simp; (try with_reducible rfl))
            simp only [Act.put, List.getElem_toArray, List.getElem_cons_zero, List.getElem_cons_succ, List.setIfInBounds_toArray, List.set_cons_zero, List.set_cons_succ]
            refine wpAnyH_take (i := 2) (v := ?_) rfl (by kernel_rfl) (by kernel_rfl) (by kernel_rfl) (fun _ _ _ h => h) (Or.inl ⟨by rfl, ?_⟩) (by assumption) ?_
            rotate_left
            · (intro w hSw; (try dsimp only at hSw); go_simp; (try with_reducible rfl))
            simp only [Act.put, List.getElem_toArray, List.getElem_cons_zero, List.getElem_cons_succ, List.setIfInBounds_toArray, List.set_cons_zero, List.set_cons_succ]
            refine wpAnyH_take (i := 3) (v := ?_) rfl (by kernel_rfl) (by kernel_rfl) (by kernel_rfl) (fun _ _ _ h => h) (Or.inl ⟨by rfl, ?_⟩) (by assumption) ?_
            rotate_left
            · (intro w hSw; (try dsimp only at hSw); go_simp; (try with_reducible rfl))
            simp only [Act.put, List.getElem_toArray, List.getElem_cons_zero, List.getElem_cons_succ, List.setIfInBounds_toArray, List.set_cons_zero, List.set_cons_succ]
            refine wpAnyH_take (i := 4) (v := ?_) rfl (by kernel_rfl) (by kernel_rfl) (by kernel_rfl) (fun _ _ _ h => h) (Or.inl ⟨by rfl, ?_⟩) (by assumption) ?_
            rotate_left
            · (intro w hSw; (try dsimp only at hSw); go_simp; (try with_reducible rfl))
            simp only [Act.put, List.getElem_toArray, List.getElem_cons_zero, List.getElem_cons_succ, List.setIfInBounds_toArray, List.set_cons_zero, List.set_cons_succ]
            refine wpAnyH_take (i := 5) (v := ?_) rfl (by kernel_rfl) (by kernel_rfl) (by kernel_rfl) (fun _ _ _ h => h) (Or.inl ⟨by rfl, ?_⟩) (by assumption) ?_
            rotate_left
            · (intro w hSw; (try dsimp only at hSw); go_simp; (try with_reducible rfl))
            simp only [Act.put, List.getElem_toArray, List.getElem_cons_zero, List.getElem_cons_succ, List.setIfInBounds_toArray, List.set_cons_zero, List.set_cons_succ]
            refine wpAnyH_take (i := 6) (v := ?_) rfl (by kernel_rfl) (by kernel_rfl) (by kernel_rfl) (fun _ _ _ h => h) (Or.inl ⟨by rfl, ?_⟩) (by assumption) ?_
            rotate_left
            · (intro w hSw; (try dsimp only at hSw); go_simp; (try with_reducible rfl))
            simp only [Act.put, List.getElem_toArray, List.getElem_cons_zero, List.getElem_cons_succ, List.setIfInBounds_toArray, List.set_cons_zero, List.set_cons_succ]
            refine wpAnyH_take (i := 7) (v := ?_) rfl (by kernel_rfl) (by kernel_rfl) (by kernel_rfl) (fun _ _ _ h => h) (Or.inl ⟨by rfl, ?_⟩) (by assumption) ?_
            rotate_left
            · (intro w hSw; (try dsimp only at hSw); go_simp; (try with_reducible rfl))
            simp only [Act.put, List.getElem_toArray, List.getElem_cons_zero, List.getElem_cons_succ, List.setIfInBounds_toArray, List.set_cons_zero, List.set_cons_succ]
            refine wpAnyH_take (i := 8) (v := ?_) rfl (by kernel_rfl) (by kernel_rfl) (by kernel_rfl) (fun _ _ _ h => h) (Or.inl ⟨by rfl, ?_⟩) (by assumption) ?_
            rotate_left
            · (intro w hSw; (try dsimp only at hSw); go_simp; (try with_reducible rfl))
            simp only [Act.put, List.getElem_toArray, List.getElem_cons_zero, List.getElem_cons_succ, List.setIfInBounds_toArray, List.set_cons_zero, List.set_cons_succ]
            refine wpAnyH_take (i := 9) (v := ?_) rfl (by kernel_rfl) (by kernel_rfl) (by kernel_rfl) (fun _ _ _ h => h) (Or.inl ⟨by rfl, ?_⟩) (by assumption) ?_
            rotate_left
            · (intro w hSw; (try dsimp only at hSw); go_simp; (try with_reducible rfl))
            simp only [Act.put, List.getElem_toArray, List.getElem_cons_zero, List.getElem_cons_succ, List.setIfInBounds_toArray, List.set_cons_zero, List.set_cons_succ]
            refine wpAnyH_take (i := 10) (v := ?_) rfl (by kernel_rfl) (by kernel_rfl) (by kernel_rfl) (fun _ _ _ h => h) (Or.inl ⟨by rfl, ?_⟩) (by assumption) ?_
            rotate_left
            · (intro w hSw; (try dsimp only at hSw); obtain ⟨c0, c1, c2, c3, c4, c5⟩ := (H_hm5.out.below hSw).cells; go_simp; (try with_reducible rfl))
            simp only [Act.put, List.getElem_toArray, List.getElem_cons_zero, List.getElem_cons_succ, List.setIfInBounds_toArray, List.set_cons_zero, List.set_cons_succ]
            refine wpAnyH_take (i := 12) (v := ?_) rfl (by kernel_rfl) (by kernel_rfl) (by kernel_rfl) (fun _ _ _ h => h) (Or.inl ⟨by rfl, ?_⟩) (by assumption) ?_
            rotate_left
            · (intro w hSw; (try dsimp only at hSw); go_simp; (try with_reducible rfl))
            simp only [Act.put, List.getElem_toArray, List.getElem_cons_zero, List.getElem_cons_succ, List.setIfInBounds_toArray, List.set_cons_zero, List.set_cons_succ]
            refine wpAnyH_take (i := 13) (v := ?_) rfl (by kernel_rfl) (by kernel_rfl) (by kernel_rfl) (fun _ _ _ h => h) (Or.inl ⟨by rfl, ?_⟩) (by assumption) ?_
            rotate_left
            · (intro w hSw; (try dsimp only at hSw); obtain ⟨c0, c1, c2, c3, c4, c5⟩ := (H_hm5.out.below hSw).cells; go_simp; (try with_reducible rfl))
            simp only [Act.put, List.getElem_toArray, List.getElem_cons_zero, List.getElem_cons_succ, List.setIfInBounds_toArray, List.set_cons_zero, List.set_cons_succ]
            refine wpAnyH_ready (rs := [11]) (by kernel_rfl) (by simp) ?_
            refine AllReadyH.cons rfl (fun K hK => ?_) AllReadyH.nil
            rw [if_pos (by rfl)]
            go_simp
            ((with_reducible refine (eR _).mono ?_); rintro e w' ⟨rfl, bq⟩)
            refine hK.out _ _ (bch hHeld bq) (fun hHeld2 => ?_)
            clear hK K hHeld
            have hHeld := hHeld2; clear hHeld2
            refine wpAnyH_ready (rs := [14]) (by kernel_rfl) (by simp) ?_
            refine AllReadyH.cons rfl (fun K hK => ?_) AllReadyH.nil
            rw [if_pos (by rfl)]
            go_simp
            ((with_reducible refine (rR _).mono ?_); rintro e w' ⟨rfl, bq⟩)
            refine hK.out _ _ (bch hHeld bq) (fun hHeld2 => ?_)
            clear hK K hHeld
            have hHeld := hHeld2; clear hHeld2
            refine wpAnyH_take (i := 15) (v := ?_) rfl (by kernel_rfl) (by kernel_rfl) (by kernel_rfl) (fun _ _ _ h => h) (Or.inl ⟨by rfl, ?_⟩) (by assumption) ?_
            rotate_left
            · (intro w hSw; (try dsimp only at hSw); go_simp; (try with_reducible rfl))
            simp only [Act.put, List.getElem_toArray, List.getElem_cons_zero, List.getElem_cons_succ, List.setIfInBounds_toArray, List.set_cons_zero, List.set_cons_succ]
            refine wpAnyH_take (i := 16) (v := ?_) rfl (by kernel_rfl) (by kernel_rfl) (by kernel_rfl) (fun _ _ _ h => h) (Or.inl ⟨by rfl, ?_⟩) (by assumption) ?_
            rotate_left
            · (intro w hSw; (try dsimp only at hSw); go_simp; (try with_reducible rfl))
            simp only [Act.put, List.getElem_toArray, List.getElem_cons_zero, List.getElem_cons_succ, List.setIfInBounds_toArray, List.set_cons_zero, List.set_cons_succ]
            refine wpAnyH_done (by kernel_rfl) ?_ _
            refine NoPanic.normal ?_
            have hb8 := bch H_hb7.out hHeld
            clear hHeld eR rR bq
            have H_hb8 := Lib.hid hb8; clear hb8
            go_wp2_with fail
            go_roundw
            case rel => exact ⟨j2 + 1, _, rfl, by omega, by go_num, H_hb8.out⟩
            case measure => simp [intOf]; omega
          · have hje : j2 = 2 := by omega
            subst hje
            have hb5 := bch H_hb3.out hbp
            have hm8 := H_hgA.out.below hbp
            have H_hm8 := Lib.hid hm8; clear hm8
            have H_hb5 := Lib.hid hb5; clear hb5 hbp
            have rS := fun W => refencodeW_any (1 + (p : Int)) A (by have := ZA.out; omega) W
            rw [wE_ok (rightM_iff.2 RA.out)] at rS
            unfold mgV at rS
            simp only at rS
            have zL := (fields_right RA.out).2.2
            have zS : (bs (UInt8.ofNat (1 + (p : Int)).toNat :: encL (fieldsM A))).size ≤ 6031 := by rw [bs_size, List.length_cons]; omega
            generalize bs (UInt8.ofNat (1 + (p : Int)).toNat :: encL (fieldsM A)) = S at rS zS
            clear zL
            have hq := pickW_nat at0 ((S.size : Int) + 1) (by omega) (by omega) HAT.out
            have kq := pickN_lt at0 ((S.size : Int) + 1) (by omega)
            generalize pickN at0 ((S.size : Int) + 1) = k at hq kq
            have hpS : k ≤ S.size := by omega
            obtain ⟨q, hqd⟩ : ∃ q, min (k + more.size) S.size = q := ⟨_, rfl⟩
            have hqS : q ≤ S.size := by omega
            obtain ⟨T1, hT1⟩ : ∃ T, S.extract 0 k = T := ⟨_, rfl⟩
            obtain ⟨T2, hT2⟩ : ∃ T, S.extract q S.size = T := ⟨_, rfl⟩
            obtain ⟨T3, hT3⟩ : ∃ T, S.extract k S.size = T := ⟨_, rfl⟩
            have z1 : T1.size = k := by rw [← hT1, ByteArray.size_extract]; omega
            have z2 : T2.size = S.size - q := by rw [← hT2, ByteArray.size_extract]; omega
            have z3 : T3.size = S.size - k := by rw [← hT3, ByteArray.size_extract]; omega
            obtain ⟨U1', hU1⟩ : ∃ T, T1 ++ more = T := ⟨_, rfl⟩
            obtain ⟨X2, hX2⟩ : ∃ T, U1' ++ T2 = T := ⟨_, rfl⟩
            obtain ⟨X3, hX3⟩ : ∃ T, U1' ++ T3 = T := ⟨_, rfl⟩
            have zU : U1'.size = T1.size + more.size := by rw [← hU1, ByteArray.size_append]
            have zX2 : X2.size = U1'.size + T2.size := by rw [← hX2, ByteArray.size_append]
            have zX3 : X3.size = U1'.size + T3.size := by rw [← hX3, ByteArray.size_append]
            have HTX : Hid (∀ m : ByteArray, m = s ∨ m = S ∨ m = T1 ∨ m = X2 ∨ m = X3 → m.size ≤ 140737488365000) := by
              have := HS.out
              rintro m (rfl | rfl | rfl | rfl | rfl) <;> omega
            have s1 := fun W => slice_to hT1 hpS W
            have s2 := fun W => slice_from hT2 hqS W
            have s3 := fun W => slice_from hT3 hpS W
            have d1 : ∀ W : World, (Op.stringOp .add T1 more).run Try.prog W = .ok (.string U1') W := fun W => by rw [← hU1]; exact str_add (by omega) W
            have d2 : ∀ W : World, (Op.stringOp .add U1' T2).run Try.prog W = .ok (.string X2) W := fun W => by rw [← hX2]; exact str_add (by omega) W
            have d3 : ∀ W : World, (Op.stringOp .add U1' T3).run Try.prog W = .ok (.string X3) W := fun W => by rw [← hX3]; exact str_add (by omega) W
            have m1 : (if (S.size : Int) < (k : Int) + (more.size : Int) then (S.size : Int) else (k : Int) + (more.size : Int)) = (q : Int) := by split <;> omega
            have m2 : min ((k : Int) + (more.size : Int)) (S.size : Int) = (q : Int) := by omega
            have p0 : (0 : Int) ≤ (k : Int) := by omega
            have p1 : (k : Int) ≤ (S.size : Int) := by omega
            have q0 : (0 : Int) ≤ (q : Int) := by omega
            have q1 : (q : Int) ≤ (S.size : Int) := by omega
            have n1 : ((k : Int) + (more.size : Int)) ≤ 140737488365000 := by omega
            have n2 : IntKind.i64.wrap ((k : Int) + (more.size : Int)) = (k : Int) + (more.size : Int) := IntWalk.i64_in _ (by omega)
            have n3 : (S.size : Int) ≤ 6031 := by omega
            clear hqd z1 z2 z3 zU zX2 zX3 hU1 hX2 hX3 kq hpS hqS zS
            go_upto_region 14 with fail
            refine wp_region_noPanic ?_
            refine wp_region_held_drew (S := fun W => Below wp.heap.size wp W) (by kernel_rfl) ((Below.refl _ _).drew) (fun hHeld => ?_)
            refine wpAnyH_take (i := 0) (v := ?_) rfl (by kernel_rfl) (by kernel_rfl) (by kernel_rfl) (fun _ _ _ h => h) (Or.inl ⟨by rfl, ?_⟩) (by assumption) ?_
            rotate_left
            · (intro w hSw; (try dsimp only at hSw); go_simp; (try with_reducible rfl))
            simp only [Act.put, List.getElem_toArray, List.getElem_cons_zero, List.setIfInBounds_toArray, List.set_cons_zero, List.set_cons_succ]
            refine wpAnyH_take (i := 3) (v := ?_) rfl (by kernel_rfl) (by kernel_rfl) (by kernel_rfl) (fun _ _ _ h => h) (Or.inl ⟨by rfl, ?_⟩) (by assumption) ?_
            rotate_left
            · (intro w hSw; (try dsimp only at hSw); obtain ⟨c0, c1, c2, c3, c4, c5⟩ := (H_hm8.out.below hSw).cells; go_simp; (try with_reducible rfl))
            simp only [Act.put, List.getElem_toArray, List.getElem_cons_zero, List.getElem_cons_succ, List.setIfInBounds_toArray, List.set_cons_zero, List.set_cons_succ]
            refine wpAnyH_ready (rs := [1]) (by kernel_rfl) (by simp) ?_
            refine AllReadyH.cons rfl (fun K hK => ?_) AllReadyH.nil
            rw [if_pos (by rfl)]
            go_simp
            ((with_reducible refine (qp _).mono ?_); rintro e w' ⟨rfl, rfl⟩)
            refine hK.out _ _ (hHeld) (fun hHeld2 => ?_)
            clear hK K hHeld
            have hHeld := hHeld2; clear hHeld2
            refine wpAnyH_take (i := 2) (v := ?_) rfl (by kernel_rfl) (by kernel_rfl) (by kernel_rfl) (fun _ _ _ h => h) (Or.inl ⟨by rfl, ?_⟩) (by assumption) ?_
            rotate_left
            · (intro w hSw; (try dsimp only at hSw); go_simp; (try with_reducible rfl))
            simp only [Act.put, List.getElem_toArray, List.getElem_cons_zero, List.getElem_cons_succ, List.setIfInBounds_toArray, List.set_cons_zero, List.set_cons_succ]
            refine wpAnyH_ready (rs := [4]) (by kernel_rfl) (by simp) ?_
            refine AllReadyH.cons rfl (fun K hK => ?_) AllReadyH.nil
            rw [if_pos (by rfl)]
            go_simp
            ((with_reducible refine (rS _).mono ?_); rintro e w' ⟨rfl, bq⟩)
            refine hK.out _ _ (bch hHeld bq) (fun hHeld2 => ?_)
            clear hK K hHeld
            have hHeld := hHeld2; clear hHeld2
            refine wpAnyH_take (i := 5) (v := ?_) rfl (by kernel_rfl) (by kernel_rfl) (by kernel_rfl) (fun _ _ _ h => h) (Or.inl ⟨by rfl, ?_⟩) (by assumption) ?_
            rotate_left
            · (intro w hSw; (try dsimp only at hSw); go_simp; (try with_reducible rfl))
            simp only [Act.put, List.getElem_toArray, List.getElem_cons_zero, List.getElem_cons_succ, List.setIfInBounds_toArray, List.set_cons_zero, List.set_cons_succ]
            refine wpAnyH_take (i := 6) (v := ?_) rfl (by kernel_rfl) (by kernel_rfl) (by kernel_rfl) (fun _ _ _ h => h) (Or.inl ⟨by rfl, ?_⟩) (by assumption) ?_
            rotate_left
            · (intro w hSw; (try dsimp only at hSw); go_simp; (try with_reducible rfl))
            simp only [Act.put, List.getElem_toArray, List.getElem_cons_zero, List.getElem_cons_succ, List.setIfInBounds_toArray, List.set_cons_zero, List.set_cons_succ]
            refine wpAnyH_take (i := 7) (v := ?_) rfl (by kernel_rfl) (by kernel_rfl) (by kernel_rfl) (fun _ _ _ h => h) (Or.inl ⟨by rfl, ?_⟩) (by assumption) ?_
            rotate_left
            · (intro w hSw; (try dsimp only at hSw); go_simp; (try with_reducible rfl))
            simp only [Act.put, List.getElem_toArray, List.getElem_cons_zero, List.getElem_cons_succ, List.setIfInBounds_toArray, List.set_cons_zero, List.set_cons_succ]
            refine wpAnyH_take (i := 8) (v := ?_) rfl (by kernel_rfl) (by kernel_rfl) (by kernel_rfl) (fun _ _ _ h => h) (Or.inl ⟨by rfl, ?_⟩) (by assumption) ?_
            rotate_left
            · (intro w hSw; (try dsimp only at hSw); go_simp; (try with_reducible rfl))
            simp only [Act.put, List.getElem_toArray, List.getElem_cons_zero, List.getElem_cons_succ, List.setIfInBounds_toArray, List.set_cons_zero, List.set_cons_succ]
            refine wpAnyH_take (i := 9) (v := ?_) rfl (by kernel_rfl) (by kernel_rfl) (by kernel_rfl) (fun _ _ _ h => h) (Or.inl ⟨by rfl, ?_⟩) (by assumption) ?_
            rotate_left
            · (intro w hSw; (try dsimp only at hSw); go_simp; (try with_reducible rfl))
            simp only [Act.put, List.getElem_toArray, List.getElem_cons_zero, List.getElem_cons_succ, List.setIfInBounds_toArray, List.set_cons_zero, List.set_cons_succ]
            refine wpAnyH_done (by kernel_rfl) ?_ _
            refine NoPanic.normal ?_
            have hb6 := bch H_hb5.out hHeld
            clear hHeld rS qp bq
            have H_hb6 := Lib.hid hb6; clear hb6
            go_wp2_with fail
            ((with_reducible refine (hq _).mono ?_); rintro e U2 ⟨rfl, rfl⟩)
            clear hq
            go_upto_region 16 with fail
            refine wp_region_noPanic ?_
            refine wp_region_held_drew (S := fun W => Below w'.heap.size w' W) (by kernel_rfl) ((Below.refl _ _).drew) (fun hHeld => ?_)
            refine wpAnyH_take (i := 0) (v := ?_) rfl (by kernel_rfl) (by kernel_rfl) (by kernel_rfl) (fun _ _ _ h => h) (Or.inl ⟨by rfl, ?_⟩) (by assumption) ?_
            rotate_left
            · (intro w hSw; (try dsimp only at hSw); go_simp; (try with_reducible rfl))
            simp only [Act.put, List.getElem_toArray, List.getElem_cons_zero, List.setIfInBounds_toArray, List.set_cons_zero, List.set_cons_succ]
            refine wpAnyH_take (i := 1) (v := ?_) rfl (by kernel_rfl) (by kernel_rfl) (by kernel_rfl) (fun _ _ _ h => h) (Or.inl ⟨by rfl, ?_⟩) (by assumption) ?_
            rotate_left
            · (intro w hSw; (try dsimp only at hSw); go_simp; (try with_reducible rfl))
            simp only [Act.put, List.getElem_toArray, List.getElem_cons_zero, List.getElem_cons_succ, List.setIfInBounds_toArray, List.set_cons_zero, List.set_cons_succ]
            refine wpAnyH_take (i := 2) (v := ?_) rfl (by kernel_rfl) (by kernel_rfl) (by kernel_rfl) (fun _ _ _ h => h) (Or.inl ⟨by rfl, ?_⟩) (by assumption) ?_
            rotate_left
            · (intro w hSw; (try dsimp only at hSw); go_simp; (try with_reducible rfl))
            simp only [Act.put, List.getElem_toArray, List.getElem_cons_zero, List.getElem_cons_succ, List.setIfInBounds_toArray, List.set_cons_zero, List.set_cons_succ]
            refine wpAnyH_take (i := 3) (v := ?_) rfl (by kernel_rfl) (by kernel_rfl) (by kernel_rfl) (fun _ _ _ h => h) (Or.inl ⟨by rfl, ?_⟩) (by assumption) ?_
            rotate_left
            · (intro w hSw; (try dsimp only at hSw); go_simp; (try with_reducible rfl))
            simp only [Act.put, List.getElem_toArray, List.getElem_cons_zero, List.getElem_cons_succ, List.setIfInBounds_toArray, List.set_cons_zero, List.set_cons_succ]
            refine wpAnyH_take (i := 4) (v := ?_) rfl (by kernel_rfl) (by kernel_rfl) (by kernel_rfl) (fun _ _ _ h => h) (Or.inl ⟨by rfl, ?_⟩) (by assumption) ?_
            rotate_left
            · (intro w hSw; (try dsimp only at hSw); go_simp; (try with_reducible rfl))
            simp only [Act.put, List.getElem_toArray, List.getElem_cons_zero, List.getElem_cons_succ, List.setIfInBounds_toArray, List.set_cons_zero, List.set_cons_succ]
            refine wpAnyH_take (i := 5) (v := ?_) rfl (by kernel_rfl) (by kernel_rfl) (by kernel_rfl) (fun _ _ _ h => h) (Or.inl ⟨by rfl, ?_⟩) (by assumption) ?_
            rotate_left
            · (intro w hSw; (try dsimp only at hSw); go_simp; (try with_reducible rfl))
            simp only [Act.put, List.getElem_toArray, List.getElem_cons_zero, List.getElem_cons_succ, List.setIfInBounds_toArray, List.set_cons_zero, List.set_cons_succ]
            refine wpAnyH_take (i := 6) (v := ?_) rfl (by kernel_rfl) (by kernel_rfl) (by kernel_rfl) (fun _ _ _ h => h) (Or.inl ⟨by rfl, ?_⟩) (by assumption) ?_
            rotate_left
            · (intro w hSw; (try dsimp only at hSw); go_simp; (try with_reducible rfl))
            simp only [Act.put, List.getElem_toArray, List.getElem_cons_zero, List.getElem_cons_succ, List.setIfInBounds_toArray, List.set_cons_zero, List.set_cons_succ]
            refine wpAnyH_take (i := 7) (v := ?_) rfl (by kernel_rfl) (by kernel_rfl) (by kernel_rfl) (fun _ _ _ h => h) (Or.inl ⟨by rfl, ?_⟩) (by assumption) ?_
            rotate_left
            · (intro w hSw; (try dsimp only at hSw); go_simp; (try with_reducible rfl))
            simp only [Act.put, List.getElem_toArray, List.getElem_cons_zero, List.getElem_cons_succ, List.setIfInBounds_toArray, List.set_cons_zero, List.set_cons_succ]
            refine wpAnyH_take (i := 8) (v := ?_) rfl (by kernel_rfl) (by kernel_rfl) (by kernel_rfl) (fun _ _ _ h => h) (Or.inl ⟨by rfl, ?_⟩) (by assumption) ?_
            rotate_left
            · (intro w hSw; (try dsimp only at hSw); go_simp; (try with_reducible rfl))
            simp only [Act.put, List.getElem_toArray, List.getElem_cons_zero, List.getElem_cons_succ, List.setIfInBounds_toArray, List.set_cons_zero, List.set_cons_succ]
            refine wpAnyH_take (i := 9) (v := ?_) rfl (by kernel_rfl) (by kernel_rfl) (by kernel_rfl) (fun _ _ _ h => h) (Or.inl ⟨by rfl, ?_⟩) (by assumption) ?_
            rotate_left
            · (intro w hSw; (try dsimp only at hSw); go_simp; (try with_reducible rfl))
            simp only [Act.put, List.getElem_toArray, List.getElem_cons_zero, List.getElem_cons_succ, List.setIfInBounds_toArray, List.set_cons_zero, List.set_cons_succ]
            refine wpAnyH_take (i := 10) (v := ?_) rfl (by kernel_rfl) (by kernel_rfl) (by kernel_rfl) (fun _ _ _ h => h) (Or.inl ⟨by rfl, ?_⟩) (by assumption) ?_
            rotate_left
            · (intro w hSw; (try dsimp only at hSw); go_simp; (try with_reducible rfl))
            simp only [Act.put, List.getElem_toArray, List.getElem_cons_zero, List.getElem_cons_succ, List.setIfInBounds_toArray, List.set_cons_zero, List.set_cons_succ]
            refine wpAnyH_take (i := 11) (v := ?_) rfl (by kernel_rfl) (by kernel_rfl) (by kernel_rfl) (fun _ _ _ h => h) (Or.inl ⟨by rfl, ?_⟩) (by assumption) ?_
            rotate_left
            · (intro w hSw; (try dsimp only at hSw); go_simp; (try with_reducible rfl))
            simp only [Act.put, List.getElem_toArray, List.getElem_cons_zero, List.getElem_cons_succ, List.setIfInBounds_toArray, List.set_cons_zero, List.set_cons_succ]
            refine wpAnyH_take (i := 12) (v := ?_) rfl (by kernel_rfl) (by kernel_rfl) (by kernel_rfl) (fun _ _ _ h => h) (Or.inl ⟨by rfl, ?_⟩) (by assumption) ?_
            rotate_left
            · (intro w hSw; (try dsimp only at hSw); go_simp; (try with_reducible rfl))
            simp only [Act.put, List.getElem_toArray, List.getElem_cons_zero, List.getElem_cons_succ, List.setIfInBounds_toArray, List.set_cons_zero, List.set_cons_succ]
            refine wpAnyH_take (i := 13) (v := ?_) rfl (by kernel_rfl) (by kernel_rfl) (by kernel_rfl) (fun _ _ _ h => h) (Or.inl ⟨by rfl, ?_⟩) (by assumption) ?_
            rotate_left
            · (intro w hSw; (try dsimp only at hSw); go_simp; (try with_reducible rfl))
            simp only [Act.put, List.getElem_toArray, List.getElem_cons_zero, List.getElem_cons_succ, List.setIfInBounds_toArray, List.set_cons_zero, List.set_cons_succ]
            refine wpAnyH_take (i := 14) (v := ?_) rfl (by kernel_rfl) (by kernel_rfl) (by kernel_rfl) (fun _ _ _ h => h) (Or.inl ⟨by rfl, ?_⟩) (by assumption) ?_
            rotate_left
            · (intro w hSw; (try dsimp only at hSw); go_simp; (try with_reducible rfl))
            simp only [Act.put, List.getElem_toArray, List.getElem_cons_zero, List.getElem_cons_succ, List.setIfInBounds_toArray, List.set_cons_zero, List.set_cons_succ]
            refine wpAnyH_take (i := 15) (v := ?_) rfl (by kernel_rfl) (by kernel_rfl) (by kernel_rfl) (fun _ _ _ h => h) (Or.inl ⟨by rfl, ?_⟩) (by assumption) ?_
            rotate_left
            · (intro w hSw; (try dsimp only at hSw); go_simp; (try with_reducible rfl))
            simp only [Act.put, List.getElem_toArray, List.getElem_cons_zero, List.getElem_cons_succ, List.setIfInBounds_toArray, List.set_cons_zero, List.set_cons_succ]
            refine wpAnyH_take (i := 16) (v := ?_) rfl (by kernel_rfl) (by kernel_rfl) (by kernel_rfl) (fun _ _ _ h => h) (Or.inl ⟨by rfl, ?_⟩) (by assumption) ?_
            rotate_left
            · (intro w hSw; (try dsimp only at hSw); go_simp; (try with_reducible rfl))
            simp only [Act.put, List.getElem_toArray, List.getElem_cons_zero, List.getElem_cons_succ, List.setIfInBounds_toArray, List.set_cons_zero, List.set_cons_succ]
            refine wpAnyH_take (i := 17) (v := ?_) rfl (by kernel_rfl) (by kernel_rfl) (by kernel_rfl) (fun _ _ _ h => h) (Or.inl ⟨by rfl, ?_⟩) (by assumption) ?_
            rotate_left
            · (intro w hSw; (try dsimp only at hSw); go_simp; (try with_reducible rfl))
            simp only [Act.put, List.getElem_toArray, List.getElem_cons_zero, List.getElem_cons_succ, List.setIfInBounds_toArray, List.set_cons_zero, List.set_cons_succ]
            refine wpAnyH_take (i := 18) (v := ?_) rfl (by kernel_rfl) (by kernel_rfl) (by kernel_rfl) (fun _ _ _ h => h) (Or.inl ⟨by rfl, ?_⟩) (by assumption) ?_
            rotate_left
            · (intro w hSw; (try dsimp only at hSw); go_simp; (try with_reducible rfl))
            simp only [Act.put, List.getElem_toArray, List.getElem_cons_zero, List.getElem_cons_succ, List.setIfInBounds_toArray, List.set_cons_zero, List.set_cons_succ]
            refine wpAnyH_take (i := 19) (v := ?_) rfl (by kernel_rfl) (by kernel_rfl) (by kernel_rfl) (fun _ _ _ h => h) (Or.inl ⟨by rfl, ?_⟩) (by assumption) ?_
            rotate_left
            · (intro w hSw; (try dsimp only at hSw); go_simp; (try with_reducible rfl))
            simp only [Act.put, List.getElem_toArray, List.getElem_cons_zero, List.getElem_cons_succ, List.setIfInBounds_toArray, List.set_cons_zero, List.set_cons_succ]
            refine wpAnyH_take (i := 20) (v := ?_) rfl (by kernel_rfl) (by kernel_rfl) (by kernel_rfl) (fun _ _ _ h => h) (Or.inl ⟨by rfl, ?_⟩) (by assumption) ?_
            rotate_left
            · (intro w hSw; (try dsimp only at hSw); go_simp; (try with_reducible rfl))
            simp only [Act.put, List.getElem_toArray, List.getElem_cons_zero, List.getElem_cons_succ, List.setIfInBounds_toArray, List.set_cons_zero, List.set_cons_succ]
            refine wpAnyH_take (i := 21) (v := ?_) rfl (by kernel_rfl) (by kernel_rfl) (by kernel_rfl) (fun _ _ _ h => h) (Or.inl ⟨by rfl, ?_⟩) (by assumption) ?_
            rotate_left
            · (intro w hSw; (try dsimp only at hSw); go_simp; (try with_reducible rfl))
            simp only [Act.put, List.getElem_toArray, List.getElem_cons_zero, List.getElem_cons_succ, List.setIfInBounds_toArray, List.set_cons_zero, List.set_cons_succ]
            refine wpAnyH_take (i := 22) (v := ?_) rfl (by kernel_rfl) (by kernel_rfl) (by kernel_rfl) (fun _ _ _ h => h) (Or.inl ⟨by rfl, ?_⟩) (by assumption) ?_
            rotate_left
            · (intro w hSw; (try dsimp only at hSw); go_simp; (try with_reducible rfl))
            simp only [Act.put, List.getElem_toArray, List.getElem_cons_zero, List.getElem_cons_succ, List.setIfInBounds_toArray, List.set_cons_zero, List.set_cons_succ]
            refine wpAnyH_take (i := 23) (v := ?_) rfl (by kernel_rfl) (by kernel_rfl) (by kernel_rfl) (fun _ _ _ h => h) (Or.inl ⟨by rfl, ?_⟩) (by assumption) ?_
            rotate_left
            · (intro w hSw; (try dsimp only at hSw); go_simp; (try with_reducible rfl))
            simp only [Act.put, List.getElem_toArray, List.getElem_cons_zero, List.getElem_cons_succ, List.setIfInBounds_toArray, List.set_cons_zero, List.set_cons_succ]
            refine wpAnyH_take (i := 24) (v := ?_) rfl (by kernel_rfl) (by kernel_rfl) (by kernel_rfl) (fun _ _ _ h => h) (Or.inl ⟨by rfl, ?_⟩) (by assumption) ?_
            rotate_left
            · (intro w hSw; (try dsimp only at hSw); go_simp; (try with_reducible rfl))
            simp only [Act.put, List.getElem_toArray, List.getElem_cons_zero, List.getElem_cons_succ, List.setIfInBounds_toArray, List.set_cons_zero, List.set_cons_succ]
            refine wpAnyH_take (i := 25) (v := ?_) rfl (by kernel_rfl) (by kernel_rfl) (by kernel_rfl) (fun _ _ _ h => h) (Or.inl ⟨by rfl, ?_⟩) (by assumption) ?_
            rotate_left
            · (intro w hSw; (try dsimp only at hSw); go_simp; (try with_reducible rfl))
            simp only [Act.put, List.getElem_toArray, List.getElem_cons_zero, List.getElem_cons_succ, List.setIfInBounds_toArray, List.set_cons_zero, List.set_cons_succ]
            refine wpAnyH_take (i := 26) (v := ?_) rfl (by kernel_rfl) (by kernel_rfl) (by kernel_rfl) (fun _ _ _ h => h) (Or.inl ⟨by rfl, ?_⟩) (by assumption) ?_
            rotate_left
            · (intro w hSw; (try dsimp only at hSw); go_simp; (try with_reducible rfl))
            simp only [Act.put, List.getElem_toArray, List.getElem_cons_zero, List.getElem_cons_succ, List.setIfInBounds_toArray, List.set_cons_zero, List.set_cons_succ]
            refine wpAnyH_take (i := 27) (v := ?_) rfl (by kernel_rfl) (by kernel_rfl) (by kernel_rfl) (fun _ _ _ h => h) (Or.inl ⟨by rfl, ?_⟩) (by assumption) ?_
            rotate_left
            · (intro w hSw; (try dsimp only at hSw); go_simp; (try with_reducible rfl))
            simp only [Act.put, List.getElem_toArray, List.getElem_cons_zero, List.getElem_cons_succ, List.setIfInBounds_toArray, List.set_cons_zero, List.set_cons_succ]
            refine wpAnyH_take (i := 28) (v := ?_) rfl (by kernel_rfl) (by kernel_rfl) (by kernel_rfl) (fun _ _ _ h => h) (Or.inl ⟨by rfl, ?_⟩) (by assumption) ?_
            rotate_left
            · (intro w hSw; (try dsimp only at hSw); go_simp; (try with_reducible rfl))
            simp only [Act.put, List.getElem_toArray, List.getElem_cons_zero, List.getElem_cons_succ, List.setIfInBounds_toArray, List.set_cons_zero, List.set_cons_succ]
            refine wpAnyH_take (i := 31) (v := ?_) rfl (by kernel_rfl) (by kernel_rfl) (by kernel_rfl) (fun _ _ _ h => h) (Or.inl ⟨by rfl, ?_⟩) (by assumption) ?_
            rotate_left
            · (intro w hSw; (try dsimp only at hSw); go_simp; (try with_reducible rfl))
            simp only [Act.put, List.getElem_toArray, List.getElem_cons_zero, List.getElem_cons_succ, List.setIfInBounds_toArray, List.set_cons_zero, List.set_cons_succ]
            refine wpAnyH_ready (rs := [29]) (by kernel_rfl) (by simp) ?_
            refine AllReadyH.cons rfl (fun K hK => ?_) AllReadyH.nil
            rw [if_pos (by rfl)]
            go_simp
            have hts : Tx5 (w'.alloc (.cells #[.string s, .string S, .string T1, .string X2, .string X3] 9)).drew w'.heap.size s S T1 X2 X3 := Tx5.new w' s S T1 X2 X3
            refine hK.out _ _ (hHeld.alloc hHeld.size _) (fun hHeld2 => ?_)
            clear hK K hHeld
            have hHeld := hHeld2; clear hHeld2
            refine wpAnyH_take (i := 30) (v := ?_) rfl (by kernel_rfl) (by kernel_rfl) (by kernel_rfl) (fun _ _ _ h => h) (Or.inl ⟨by rfl, ?_⟩) (by assumption) ?_
            rotate_left
            · (intro w hSw; (try dsimp only at hSw); go_simp; (try with_reducible rfl))
            simp only [Act.put, List.getElem_toArray, List.getElem_cons_zero, List.getElem_cons_succ, List.setIfInBounds_toArray, List.set_cons_zero, List.set_cons_succ]
            refine wpAnyH_done (by kernel_rfl) ?_ _
            refine NoPanic.normal ?_
            obtain ⟨V4, hV4⟩ : ∃ W, (w'.alloc (.cells #[.string s, .string S, .string T1, .string X2, .string X3] 9)).drew = W := ⟨_, rfl⟩
            rw [hV4] at hts hHeld ⊢
            clear hV4
            generalize w'.heap.size = g5 at hts ⊢
            have hb7 := bch H_hb6.out hHeld
            clear hHeld s1 s2 s3 d1 d2 d3 m1 m2 p0 p1 q0 q1 n1 n2 n3
            have H_hts := Lib.hid hts; clear hts
            have H_hb7 := Lib.hid hb7; clear hb7
            clear H_hb6
            go_wp2_with fail
            go_loopw [132] (fun i wy => ∃ (j5 : Nat) (wp : World), wp = wy ∧ j5 ≤ 5 ∧ i = .int .i64 j5 ∧ Below V4.heap.size V4 wp) (fun i _ => 5 - (intOf i).toNat)
            case atStart => exact ⟨0, _, rfl, by omega, rfl, Below.refl _ _⟩
            case round =>
              obtain ⟨j5, wz, rfl, hj5, rfl, hbz⟩ := hrel
              by_cases hk5 : j5 < 5
              · obtain ⟨y, hy, e0⟩ := (H_hts.out.below hbz).at hk5
                have zy := HTX.out y hy
                have H_hbz := Lib.hid hbz; clear hbz hy
                have k0 : (0 : Int) ≤ (j5 : Int) := by omega
                have k1 : (j5 : Int) < (5 : Int) := by omega
                obtain ⟨R, hR⟩ : ∃ R, wD y.data.toList = R := ⟨_, rfl⟩
                have rD := fun W => refdecodeW_any y zy W
                rw [hR] at rD
                obtain ⟨v, m, n⟩ := R
                have eD := DecW.at HD.out rfl hR rfl zy
                have heq := eqMg m m
                rw [eqM_self] at heq
                unfold WdPost at rD
                unfold mgV at eD rD heq
                simp only at rD
                have hgu := guardMg
                have nn : ((n : Int) != (n : Int)) = false := by simp
                have vv : ((v : Int) != (v : Int)) = false := by simp
                clear hR
                go_wp2_with fail
                ((with_reducible refine (eD _).mono ?_); rintro e Y1 ⟨rfl, b1⟩)
                clear e0
                go_upto_region 20 with fail
                have hb8 := (bch H_hbz.out b1).alloc (bch H_hbz.out b1).size (.cells #[.int .i64 m.kind, .int .i64 m.frm, .int .i64 m.to, .int .i64 m.seq, .string m.body, .int .i64 m.trace] 23)
                have hm8 := MgBlk.new Y1 m
                clear b1 eD
                obtain ⟨V8, hV8⟩ : ∃ W, Y1.alloc (.cells #[.int .i64 m.kind, .int .i64 m.frm, .int .i64 m.to, .int .i64 m.seq, .string m.body, .int .i64 m.trace] 23) = W := ⟨_, rfl⟩
                rw [hV8] at hb8 hm8 ⊢
                clear hV8
                have H_hb8 := Lib.hid hb8; clear hb8
                have H_hm9 := Lib.hid hm8; clear hm8
                go_wp2_with fail
                ((with_reducible refine (rD _).mono ?_); rintro e Y2 ⟨rfl, b2⟩)
                go_upto_region 21 with fail
                have hb9 := (bch H_hb8.out b2).alloc (bch H_hb8.out b2).size (.cells #[.int .i64 m.kind, .int .i64 m.frm, .int .i64 m.to, .int .i64 m.seq, .string m.body, .int .i64 m.trace] 23)
                have hm9 := (H_hm9.out.below b2).below ((Below.refl _ _).alloc (Nat.le_refl _) (.cells #[.int .i64 m.kind, .int .i64 m.frm, .int .i64 m.to, .int .i64 m.seq, .string m.body, .int .i64 m.trace] 23))
                have hn9 := MgBlk.new Y2 m
                clear b2 rD
                obtain ⟨V9, hV9⟩ : ∃ W, Y2.alloc (.cells #[.int .i64 m.kind, .int .i64 m.frm, .int .i64 m.to, .int .i64 m.seq, .string m.body, .int .i64 m.trace] 23) = W := ⟨_, rfl⟩
                rw [hV9] at hb9 hm9 hn9 ⊢
                clear hV9
                obtain ⟨c0, c1, c2, c3, c4, c5⟩ := hm9.cells
                obtain ⟨d0, d1, d2, d3, d4, d5⟩ := hn9.cells
                have H_hb9 := Lib.hid hb9; clear hb9 hm9 hn9
                go_wp2_with fail
                go_roundw
                case rel => exact ⟨j5 + 1, _, rfl, by omega, by go_num, H_hb9.out⟩
                case measure => simp [intOf]; omega
              · have hje5 : j5 = 5 := by omega
                subst hje5
                go_wp2_with fail
                go_roundw
                case rel => exact ⟨j + 1, _, rfl, by omega, by go_num, bch H_hb7.out hbz⟩
                case measure => simp [intOf]; omega
    · have hje : j = 3 := by omega
      subst hje
      go_wp2_with fail
      go_ret
      exact ⟨rfl, bch H_hb1.out hby⟩
end Go.Proofs.Ytjdpihppniibjaa
