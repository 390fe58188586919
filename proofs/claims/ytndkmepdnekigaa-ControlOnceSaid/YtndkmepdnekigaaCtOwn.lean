import Derived.Test.YtndkmepdnekigaaCtRefL
import Derived.Deep.RegionHeld3
/-
  The contract of the document's own 'own' of controllers (stage 18).
-/
namespace Go.Proofs.Ytndkmepdnekigaa
open Go.RowKit
set_option linter.unusedVariables false
set_option linter.unusedSimpArgs false

/-- A controller in memory of the call's own. -/
def OwnPost (w : World) (c : CtR) (e : Ending) (w' : World) : Prop :=
  ∃ A n cap B m cm, e = .returned (ctV c A n cap B m cm) ∧ RowG s2 45 w' w.heap.size (.slice A n cap) c.mem ∧ RowG s3 48 w' w.heap.size (.slice B m cm) c.pl ∧ (0 < n → 0 < m → A ≠ B) ∧ Below w.heap.size w w'
/-- What comes out of a command, in memory of the call's own. -/
def CtOwnP (w : World) (r : CtR × Int) (e : Ending) (w' : World) : Prop :=
  ∃ A n cap B m cm, e = .returned (.tuple #[ctV r.1 A n cap B m cm, .int .i64 r.2]) ∧ RowG s2 45 w' w.heap.size (.slice A n cap) r.1.mem ∧ RowG s3 48 w' w.heap.size (.slice B m cm) r.1.pl ∧ (0 < n → 0 < m → A ≠ B) ∧ Below w.heap.size w w'
theorem CtOwnP.post {w : World} {c : CtR} {r : CtR × Int} {e : Ending} {w' : World} (h : CtOwnP w r e w') : CtPost w c r e w' := by
  obtain ⟨A, n, cap, B, m, cm, rfl, h1, h2, _, hb⟩ := h
  obtain ⟨_, _, e1, hc1, i1⟩ := h1.parts
  obtain ⟨rfl, rfl, rfl⟩ := slice_eqG e1
  obtain ⟨_, _, e2, hc2, i2⟩ := h2.parts
  obtain ⟨rfl, rfl, rfl⟩ := slice_eqG e2
  exact ⟨_, _, _, _, _, _, rfl, hc1, hc2, ⟨i1, i2⟩, hb⟩
theorem keep9 {w W V : World} {o : Obj} {g : Nat} (h : Blk W g o ∧ Below w.heap.size w W) (hb : Below W.heap.size W V) : Blk V g o ∧ Below w.heap.size w V :=
  ⟨Blk.below h.1 hb, bch h.2 hb⟩
set_option maxRecDepth 100000 in
set_option maxHeartbeats 8000000 in
theorem refown9_any (c : CtR) (A B : Option Addr) (n cap m cm : Nat) (w : World) (hc : IsCt w c A n B m) (hn16 : n * 16 ≤ 140737488351232) (hm24 : m * 24 ≤ 140737488351232) :
    Calls Try.prog 43 #[ctV c A n cap B m cm] w (OwnPost w c) := by
  have HX0 := Blk.below (Blk.new w (ctB c A n cap B m cm)) (ba9 (w.alloc (ctB c A n cap B m cm)) (.cells #[.int .i64 0, .slice none 0 0, .slice none 0 0] 26))
  have HZ0 := Blk.new (w.alloc (ctB c A n cap B m cm)) (.cells #[.int .i64 0, .slice none 0 0, .slice none 0 0] 26)
  rw [World.size_alloc] at HZ0
  have HB0 := (ba9 w (ctB c A n cap B m cm)).alloc (ba9 w (ctB c A n cap B m cm)).size (.cells #[.int .i64 0, .slice none 0 0, .slice none 0 0] 26)
  have HC0 := hc.below HB0
  obtain ⟨W1, hW⟩ : ∃ W, (w.alloc (ctB c A n cap B m cm)).alloc (.cells #[.int .i64 0, .slice none 0 0, .slice none 0 0] 26) = W := ⟨_, rfl⟩
  rw [hW] at HX0 HZ0 HB0 HC0
  have HX := Lib.hid HX0; clear HX0
  have HZ := Lib.hid HZ0; clear HZ0
  have HB := Lib.hid HB0; clear HB0
  have HCM := Lib.hid HC0.1
  have HCP := Lib.hid HC0.2
  clear hc HC0
  go_enter Try.func43, Try.ntmps43
  go_upto_region 1 with fail
  try rw [hW]
  clear hW
  refine wp_region_noPanic ?_
  refine wp_region_held_drew (S := fun W_ => Blk W_ w.heap.size (ctB c A n cap B m cm) ∧ Below w.heap.size w W_) (by kernel_rfl) (⟨HX.out.drew, HB.out.drew⟩) (fun hHeld => ?_)
  refine wpAnyH_take (i := 0) (v := ?_) rfl (by kernel_rfl) (by kernel_rfl) (by kernel_rfl) (fun _ _ _ h => h) (Or.inl ⟨by rfl, ?_⟩) (by assumption) ?_
  rotate_left
  · (intro w hSw; (try dsimp only at hSw); go_simp; (try with_reducible rfl))
  simp only [Act.put, List.getElem_toArray, List.getElem_cons_zero, List.setIfInBounds_toArray, List.set_cons_zero, List.set_cons_succ]
  refine wpAnyH_take (i := 1) (v := ?_) rfl (by kernel_rfl) (by kernel_rfl) (by kernel_rfl) (fun _ _ _ h => h) (Or.inl ⟨by rfl, ?_⟩) (by assumption) ?_
  rotate_left
  · (intro w hSw; (try dsimp only at hSw); (have v0 := Blk.cell hSw.1 0); simp only [List.getElem?_toArray, List.getElem?_cons_zero, List.getElem?_cons_succ] at v0; go_simp; (try with_reducible rfl))
  simp only [Act.put, List.getElem_toArray, List.getElem_cons_zero, List.getElem_cons_succ, List.setIfInBounds_toArray, List.set_cons_zero, List.set_cons_succ]
  refine wpAnyH_take (i := 2) (v := ?_) rfl (by kernel_rfl) (by kernel_rfl) (by kernel_rfl) (fun _ _ _ h => h) (Or.inl ⟨by rfl, ?_⟩) (by assumption) ?_
  rotate_left
  · (intro w hSw; (try dsimp only at hSw); go_simp; (try with_reducible rfl))
  simp only [Act.put, List.getElem_toArray, List.getElem_cons_zero, List.getElem_cons_succ, List.setIfInBounds_toArray, List.set_cons_zero, List.set_cons_succ]
  refine wpAnyH_take (i := 3) (v := ?_) rfl (by kernel_rfl) (by kernel_rfl) (by kernel_rfl) (fun _ _ _ h => h) (Or.inl ⟨by rfl, ?_⟩) (by assumption) ?_
  rotate_left
  · (intro w hSw; (try dsimp only at hSw); (have v0 := Blk.cell hSw.1 1); simp only [List.getElem?_toArray, List.getElem?_cons_zero, List.getElem?_cons_succ] at v0; go_simp; (try with_reducible rfl))
  simp only [Act.put, List.getElem_toArray, List.getElem_cons_zero, List.getElem_cons_succ, List.setIfInBounds_toArray, List.set_cons_zero, List.set_cons_succ]
  refine wpAnyH_take (i := 5) (v := ?_) rfl (by kernel_rfl) (by kernel_rfl) (by kernel_rfl) (fun _ _ _ h => h) (Or.inl ⟨by rfl, ?_⟩) (by assumption) ?_
  rotate_left
  · (intro w hSw; (try dsimp only at hSw); go_simp; (try with_reducible rfl))
  simp only [Act.put, List.getElem_toArray, List.getElem_cons_zero, List.getElem_cons_succ, List.setIfInBounds_toArray, List.set_cons_zero, List.set_cons_succ]
  refine wpAnyH_take (i := 6) (v := ?_) rfl (by kernel_rfl) (by kernel_rfl) (by kernel_rfl) (fun _ _ _ h => h) (Or.inl ⟨by rfl, ?_⟩) (by assumption) ?_
  rotate_left
  · (intro w hSw; (try dsimp only at hSw); (have v0 := Blk.cell hSw.1 2); simp only [List.getElem?_toArray, List.getElem?_cons_zero, List.getElem?_cons_succ] at v0; go_simp; (try with_reducible rfl))
  simp only [Act.put, List.getElem_toArray, List.getElem_cons_zero, List.getElem_cons_succ, List.setIfInBounds_toArray, List.set_cons_zero, List.set_cons_succ]
  refine wpAnyH_ready (rs := [4]) (by kernel_rfl) (by simp) ?_
  refine AllReadyH.cons rfl (fun K hK => ?_) AllReadyH.nil
  rw [if_pos (by rfl)]
  refine wp_append_g (S := s2) (T := 45) Try.underlying23 infoM rfl _ _ rfl W1.heap.size _ [] rfl (rowG_nil _ _) A n cap c.mem rfl HCM.out.drew (by unfold maxLen; simp; omega) (by simp; omega) (Nat.le_refl _) ?_
  intro vm Vm hrm hgrm hom
  have bbm := below_grownG hgrm (fun g hg => by cases hg)
  have hHeld2 := keep9 hHeld bbm
  clear hgrm
  refine hK.out _ _ hHeld2 (fun hHeld3 => ?_)
  clear hK K hHeld hHeld2
  have hHeld := hHeld3; clear hHeld3
  refine wpAnyH_ready (rs := [7]) (by kernel_rfl) (by simp) ?_
  refine AllReadyH.cons rfl (fun K hK => ?_) AllReadyH.nil
  rw [if_pos (by rfl)]
  refine wp_append_g (S := s3) (T := 48) Try.underlying24 infoP9 rfl _ _ rfl W1.heap.size _ [] rfl (rowG_nil _ _) B m cm c.pl rfl (IsG.below HCP.out.drew bbm) (by unfold maxLen; simp; omega) (by simp; omega) bbm.size ?_
  intro vp Vp hrp hgrp hop
  have bbp := below_grownG hgrp (fun g hg => by cases hg)
  have hHeld2 := keep9 hHeld bbp
  clear hgrp
  refine hK.out _ _ hHeld2 (fun hHeld3 => ?_)
  clear hK K hHeld hHeld2
  have hHeld := hHeld3; clear hHeld3
  have hrm0 := hrm
  have hrm := hrm.below bbp
  obtain ⟨Am, capm, rfl, hcm, him⟩ := hrm0.parts
  obtain ⟨Ap, capp, rfl, hcp, hip⟩ := hrp.parts
  have hop : (Value.slice Ap c.pl.length capp).ownBlock = none ∨ (Value.slice Ap c.pl.length capp).ownBlock = some Vm.heap.size := hop
  refine wpAnyH_take (i := 8) (v := ?_) rfl (by kernel_rfl) (by kernel_rfl) (by kernel_rfl) (fun _ _ _ h => h) (Or.inl ⟨by rfl, ?_⟩) (by assumption) ?_
  rotate_left
  · (intro w hSw; (try dsimp only at hSw); go_simp; (try with_reducible rfl))
  simp only [Act.put, List.getElem_toArray, List.getElem_cons_zero, List.getElem_cons_succ, List.setIfInBounds_toArray, List.set_cons_zero, List.set_cons_succ]
  refine wpAnyH_ready (rs := [9]) (by kernel_rfl) (by simp) ?_
  refine AllReadyH.cons rfl (fun K hK => ?_) AllReadyH.nil
  rw [if_pos (by rfl)]
  have hzr := Blk.below (Blk.below HZ.out.drew bbm) bbp
  have x0 := Blk.cell hzr 0
  have x1 := Blk.cell hzr 1
  have x2 := Blk.cell hzr 2
  simp only [List.getElem?_toArray, List.getElem?_cons_zero, List.getElem?_cons_succ] at x0 x1 x2
  have f0 := Blk.frozen hzr 0
  have f1 := Blk.frozen hzr 1
  have f2 := Blk.frozen hzr 2
  go_simp
  have hz3 := Blk.set (Blk.set (Blk.set hzr 0 (.int .i64 c.level) #[.int .i64 c.level, .slice none 0 0, .slice none 0 0] rfl) 1 (.slice Am c.mem.length capm) #[.int .i64 c.level, .slice Am c.mem.length capm, .slice none 0 0] rfl) 2 (.slice Ap c.pl.length capp) #[.int .i64 c.level, .slice Am c.mem.length capm, .slice Ap c.pl.length capp] rfl
  have hs1 : w.heap.size + 1 < W1.heap.size := Blk.lt HZ.out
  have hx3 := Blk.far (Blk.far (Blk.far hHeld.1 (show w.heap.size ≠ w.heap.size + 1 by omega) 0 (.int .i64 c.level)) (show w.heap.size ≠ w.heap.size + 1 by omega) 1 (.slice Am c.mem.length capm)) (show w.heap.size ≠ w.heap.size + 1 by omega) 2 (.slice Ap c.pl.length capp)
  have hb3 := ((hHeld.2.setCell (p := ⟨w.heap.size + 1, 0, none⟩) (Nat.le_succ _) (.int .i64 c.level)).setCell (p := ⟨w.heap.size + 1, 1, none⟩) (Nat.le_succ _) (.slice Am c.mem.length capm)).setCell (p := ⟨w.heap.size + 1, 2, none⟩) (Nat.le_succ _) (.slice Ap c.pl.length capp)
  have hrm3 := ((((hrm.farB (j := 0) hs1 (.int .i64 c.level)).farB (j := 1) hs1 (.slice Am c.mem.length capm)).farB (j := 2) hs1 (.slice Ap c.pl.length capp)).mono (base2 := w.heap.size) (by omega))
  have hrp3 := ((((hrp.farB (j := 0) hs1 (.int .i64 c.level)).farB (j := 1) hs1 (.slice Am c.mem.length capm)).farB (j := 2) hs1 (.slice Ap c.pl.length capp)).mono (base2 := w.heap.size) (by omega))
  have hne : 0 < c.mem.length → 0 < c.pl.length → Am ≠ Ap := fun h1 h2 e => by
    obtain ⟨g, cg, hv, hg1, hg2, _⟩ := hrm0.own h1
    obtain ⟨rfl, _, _⟩ := slice_eqG hv
    subst e
    rcases hop with h | h
    · cases h
    · have := Option.some.inj h; have h9 : g = Vm.heap.size := this; omega
  refine hK.out _ _ ⟨hx3, hb3⟩ (fun hHeld3 => ?_)
  clear hK K
  refine wpAnyH_done (by kernel_rfl) ?_ _
  refine NoPanic.normal ?_
  have e0 := Blk.cell hz3 0
  have e1 := Blk.cell hz3 1
  have e2 := Blk.cell hz3 2
  simp only [List.getElem?_toArray, List.getElem?_cons_zero, List.getElem?_cons_succ] at e0 e1 e2
  clear x0 x1 x2 f0 f1 f2 hzr hx3
  go_wp2_with fail
  refine bodyPost_ret (v := ctV c Am c.mem.length capm Ap c.pl.length capp) (by simp [results, Try.results43, go_sem, e0, e1, e2]) rfl ⟨Am, c.mem.length, capm, Ap, c.pl.length, capp, rfl, hrm3, hrp3, hne, hb3⟩
end Go.Proofs.Ytndkmepdnekigaa
