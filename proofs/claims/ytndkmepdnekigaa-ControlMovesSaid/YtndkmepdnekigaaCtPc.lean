import Derived.Test.YtndkmepdnekigaaCtPb
import Derived.Test.YtndkmepdnekigaaCtOwn
import Derived.Test.YtndkmepdnekigaaTill
import Derived.Lib.SliceRun
/-
  The contracts of slices.Clone of members and of places, of the program's own owned and Finalise (stage 18).
-/
namespace Go.Proofs.Ytndkmepdnekigaa
open Go.RowKit Go.Lib
set_option linter.unusedVariables false
set_option linter.unusedSimpArgs false

set_option maxRecDepth 100000 in
set_option maxHeartbeats 8000000 in
theorem cloneM9_any (A : Option Addr) (n cap : Nat) (l : List MbR) (w : World) (h : IsG s2 w A n l) (h8 : n * 16 ≤ 140737488351232) :
    Calls Try.prog 66 #[.slice A n cap] w fun e w' => ∃ A' cap', e = .returned (.slice A' l.length cap') ∧ RowG s2 45 w' w.heap.size (.slice A' l.length cap') l ∧ Below w.heap.size w w' := by
  have q22 : ∀ (w : World) (a : Option Addr) (n c n' c' : Nat), (binOp .eql 23 (.slice a n c) (.slice none n' c')).run Try.prog w = .ok (.bool a.isNone) w := fun w a n c n' c' => Lib.run_eql_slice_nil w _ _ a n c n' c' Try.underlying23
  have HN := Lib.hid h.1
  have hnm := h.2.1
  unfold maxLen at hnm
  have HPS := Lib.hid h; clear h
  go_enter Try.func66, Try.ntmps66
  cases A with
  | none =>
    have hn0 : n = 0 := by
      rcases Nat.eq_zero_or_pos n with h | h
      · exact h
      · obtain ⟨b, off, e, _⟩ := HPS.out.2.2 h; cases e
    have hl : l = [] := List.eq_nil_of_length_eq_zero (by rw [← HN.out, hn0])
    subst hl
    clear hn0
    go_wp2_with fail
    go_ret
    exact ⟨_, _, rfl, rowG_nil _ _, Below.refl _ _⟩
  | some a =>
    go_wp2_with (at_builtin; refine wpList_append_g (S := s2) rfl infoM rfl rfl _ _ rfl w.heap.size _ [] rfl (World.ownsRow_made w #[] 0 (Nat.le_refl _) (Nat.zero_le _) rfl) (some a) n cap l rfl (HPS.out.below ((Below.refl _ w).alloc (Nat.le_refl _) _)) (by simp; unfold maxLen; omega) (by simp; omega) (by simp) ?_)
    intro v1 w1 hrow hgrow _
    have hb : Below w.heap.size w w1 := ((Below.refl _ w).alloc (Nat.le_refl _) _).grown hgrow (by simp) (by intro k hk; simp [Value.ownBlock] at hk; omega)
    obtain ⟨A', cap', rfl, _, _⟩ := hrow.parts
    have HR : Hid (RowG s2 45 w1 w.heap.size (.slice A' l.length cap') l) := hrow
    clear hrow hgrow
    go_wp2_with fail
    go_ret
    exact ⟨_, _, rfl, HR.out, hb⟩
set_option maxRecDepth 100000 in
set_option maxHeartbeats 8000000 in
theorem cloneP9_any (A : Option Addr) (n cap : Nat) (l : List PlR) (w : World) (h : IsG s3 w A n l) (h8 : n * 24 ≤ 140737488351232) :
    Calls Try.prog 67 #[.slice A n cap] w fun e w' => ∃ A' cap', e = .returned (.slice A' l.length cap') ∧ RowG s3 48 w' w.heap.size (.slice A' l.length cap') l ∧ Below w.heap.size w w' := by
  have q22 : ∀ (w : World) (a : Option Addr) (n c n' c' : Nat), (binOp .eql 24 (.slice a n c) (.slice none n' c')).run Try.prog w = .ok (.bool a.isNone) w := fun w a n c n' c' => Lib.run_eql_slice_nil w _ _ a n c n' c' Try.underlying24
  have HN := Lib.hid h.1
  have hnm := h.2.1
  unfold maxLen at hnm
  have HPS := Lib.hid h; clear h
  go_enter Try.func67, Try.ntmps67
  cases A with
  | none =>
    have hn0 : n = 0 := by
      rcases Nat.eq_zero_or_pos n with h | h
      · exact h
      · obtain ⟨b, off, e, _⟩ := HPS.out.2.2 h; cases e
    have hl : l = [] := List.eq_nil_of_length_eq_zero (by rw [← HN.out, hn0])
    subst hl
    clear hn0
    go_wp2_with fail
    go_ret
    exact ⟨_, _, rfl, rowG_nil _ _, Below.refl _ _⟩
  | some a =>
    go_wp2_with (at_builtin; refine wpList_append_g (S := s3) rfl infoP9 rfl rfl _ _ rfl w.heap.size _ [] rfl (World.ownsRow_made w #[] 0 (Nat.le_refl _) (Nat.zero_le _) rfl) (some a) n cap l rfl (HPS.out.below ((Below.refl _ w).alloc (Nat.le_refl _) _)) (by simp; unfold maxLen; omega) (by simp; omega) (by simp) ?_)
    intro v1 w1 hrow hgrow _
    have hb : Below w.heap.size w w1 := ((Below.refl _ w).alloc (Nat.le_refl _) _).grown hgrow (by simp) (by intro k hk; simp [Value.ownBlock] at hk; omega)
    obtain ⟨A', cap', rfl, _, _⟩ := hrow.parts
    have HR : Hid (RowG s3 48 w1 w.heap.size (.slice A' l.length cap') l) := hrow
    clear hrow hgrow
    go_wp2_with fail
    go_ret
    exact ⟨_, _, rfl, HR.out, hb⟩
theorem own9_cells {W : World} {g : Nat} {c : CtR} {A B : Option Addr} {n cap m cm : Nat} (h : Blk W g (ctB c A n cap B m cm)) : W.cell? ⟨g, 0, none⟩ = some (.int .i64 c.level) ∧ W.cell? ⟨g, 1, none⟩ = some (.slice A n cap) ∧ W.cell? ⟨g, 2, none⟩ = some (.slice B m cm) := ⟨Blk.cell h 0, Blk.cell h 1, Blk.cell h 2⟩
/-- A controller in memory of a call's own. -/
def OwnC9 (w : World) (c : CtR) (e : Ending) (w' : World) : Prop :=
  ∃ A cap B cm, e = .returned (ctV c A c.mem.length cap B c.pl.length cm) ∧ RowG s2 45 w' w.heap.size (.slice A c.mem.length cap) c.mem ∧ RowG s3 48 w' w.heap.size (.slice B c.pl.length cm) c.pl ∧
    (∀ g, (Value.slice A c.mem.length cap).ownBlock = some g → (Value.slice B c.pl.length cm).ownBlock ≠ some g) ∧ Below w.heap.size w w'
set_option maxRecDepth 100000 in
set_option maxHeartbeats 8000000 in
theorem owned9_any (c : CtR) (A B : Option Addr) (n cap m cm : Nat) (w : World) (h : IsCt w c A n B m) (hn16 : n * 16 ≤ 140737488351232) (hm24 : m * 24 ≤ 140737488351232) :
    Calls Try.prog 42 #[ctV c A n cap B m cm] w (OwnC9 w c) := by
  have HX := Blk.below (Blk.new w (ctB c A n cap B m cm)) (ba9 (w.alloc (ctB c A n cap B m cm)) (.cells #[.int .i64 0, .slice none 0 0, .slice none 0 0] 26))
  have HZ := Blk.new (w.alloc (ctB c A n cap B m cm)) (.cells #[.int .i64 0, .slice none 0 0, .slice none 0 0] 26)
  rw [World.size_alloc] at HZ
  have HB := (ba9 w (ctB c A n cap B m cm)).alloc (ba9 w (ctB c A n cap B m cm)).size (.cells #[.int .i64 0, .slice none 0 0, .slice none 0 0] 26)
  have HI : IsG s2 _ A n c.mem ∧ IsG s3 _ B m c.pl := h.below HB
  obtain ⟨W, hW⟩ : ∃ W, (w.alloc (ctB c A n cap B m cm)).alloc (.cells #[.int .i64 0, .slice none 0 0, .slice none 0 0] 26) = W := ⟨_, rfl⟩
  rw [hW] at HX HZ HB HI
  have HXX := Lib.hid HX; clear HX
  have HZZ := Lib.hid HZ; clear HZ
  have HBB := Lib.hid HB; clear HB
  have HII := Lib.hid HI; clear HI
  have HN16 := Lib.hid hn16; clear hn16
  have HN24 := Lib.hid hm24; clear hm24
  have HZW : Hid (w.heap.size + 1 < W.heap.size) := Blk.lt HZZ.out
  clear h
  go_enter Try.func42, Try.ntmps42
  go_upto_region 1 with fail
  try rw [hW]
  clear hW
  refine wp_region_noPanic ?_
  refine wp_region_till (S := (fun V => Below W.heap.size W V)) [7, 9] (by kernel_rfl) ((Below.refl _ _).drew) (fun hHeld => ?_)
  refine wpTill_take (i := 0) (v := ?_) rfl (by kernel_rfl) (by kernel_rfl) (by kernel_rfl) (by kernel_rfl) (fun _ _ _ h => h) (Or.inl ⟨by rfl, ?_⟩) (by assumption) ?_
  rotate_left
  · (intro w hSw; (try dsimp only at hSw); go_simp; (try with_reducible rfl))
  simp only [Act.put, List.getElem_toArray, List.getElem_cons_zero, List.setIfInBounds_toArray, List.set_cons_zero, List.set_cons_succ]
  refine wpTill_take (i := 1) (v := ?_) rfl (by kernel_rfl) (by kernel_rfl) (by kernel_rfl) (by kernel_rfl) (fun _ _ _ h => h) (Or.inl ⟨by rfl, ?_⟩) (by assumption) ?_
  rotate_left
  · (intro w hSw; (try dsimp only at hSw); obtain ⟨c0, c1, c2⟩ := own9_cells (Blk.below HXX.out hSw); go_simp; (try with_reducible rfl))
  simp only [Act.put, List.getElem_toArray, List.getElem_cons_zero, List.getElem_cons_succ, List.setIfInBounds_toArray, List.set_cons_zero, List.set_cons_succ]
  refine wpTill_take (i := 3) (v := ?_) rfl (by kernel_rfl) (by kernel_rfl) (by kernel_rfl) (by kernel_rfl) (fun _ _ _ h => h) (Or.inl ⟨by rfl, ?_⟩) (by assumption) ?_
  rotate_left
  · (intro w hSw; (try dsimp only at hSw); go_simp; (try with_reducible rfl))
  simp only [Act.put, List.getElem_toArray, List.getElem_cons_zero, List.getElem_cons_succ, List.setIfInBounds_toArray, List.set_cons_zero, List.set_cons_succ]
  refine wpTill_take (i := 4) (v := ?_) rfl (by kernel_rfl) (by kernel_rfl) (by kernel_rfl) (by kernel_rfl) (fun _ _ _ h => h) (Or.inl ⟨by rfl, ?_⟩) (by assumption) ?_
  rotate_left
  · (intro w hSw; (try dsimp only at hSw); obtain ⟨c0, c1, c2⟩ := own9_cells (Blk.below HXX.out hSw); go_simp; (try with_reducible rfl))
  simp only [Act.put, List.getElem_toArray, List.getElem_cons_zero, List.getElem_cons_succ, List.setIfInBounds_toArray, List.set_cons_zero, List.set_cons_succ]
  have HVW := Lib.hid hHeld
  refine wpTill_ready (rs := [2]) (by kernel_rfl) (by simp) ?_
  refine AllReadyT.cons rfl (fun K hK => ?_) AllReadyT.nil
  rw [if_pos (by rfl)]
  go_simp
  ((with_reducible refine (cloneM9_any A n cap c.mem _ (HII.out.1.below hHeld) HN16.out).mono ?_); rintro e V1 ⟨Am, capm, rfl, hr1, b1⟩)
  have HSZ0 : Hid (W.heap.size ≤ _) := hHeld.size
  have HSZ : Hid (W.heap.size ≤ V1.heap.size) := (bch hHeld b1).size
  have HR1 := Lib.hid hr1; clear hr1
  refine hK.out _ _ (bch hHeld b1) (fun hHeld2 => ?_)
  clear hK K hHeld
  have hHeld := hHeld2; clear hHeld2
  refine wpTill_pure (i := 6) (v := ?_) rfl (by kernel_rfl) (by kernel_rfl) (by kernel_rfl) (by kernel_rfl) (fun _ _ _ h => h) (Or.inl ⟨by rfl, ?_⟩) (by assumption) ?_
  rotate_left
  · (intro w hSw; (try dsimp only at hSw); go_simp; (try with_reducible rfl))
  simp only [Act.put, List.getElem_toArray, List.getElem_cons_zero, List.getElem_cons_succ, List.setIfInBounds_toArray, List.set_cons_zero, List.set_cons_succ]
  refine wpTill_ready (rs := [5]) (by kernel_rfl) (by simp) ?_
  refine AllReadyT.cons rfl (fun K hK => ?_) AllReadyT.nil
  rw [if_pos (by rfl)]
  go_simp
  ((with_reducible refine (cloneP9_any B m cm c.pl _ (HII.out.2.below hHeld) HN24.out).mono ?_); rintro e V2 ⟨Bp, capp, rfl, hr2, b2⟩)
  have HLT : Hid (∀ g, (Value.slice Am c.mem.length capm).ownBlock = some g → g < V1.heap.size) := fun g h => (HR1.out.lt g h).2
  have HR1 := Lib.hid (HR1.out.below b2)
  have HR2 := Lib.hid hr2; clear hr2
  refine hK.out _ _ (bch hHeld b2) (fun hHeld2 => ?_)
  clear hK K hHeld
  have hHeld := hHeld2; clear hHeld2
  have hx9 := Blk.below HXX.out hHeld
  obtain ⟨c0, c1, c2⟩ := own9_cells hx9
  have f1 := Blk.frozen hx9 1
  have f2 := Blk.frozen hx9 2
  have HS := Lib.hid hHeld
  refine wpTill_ready (rs := [7]) (by kernel_rfl) (by simp) ?_
  refine AllReadyT.last rfl (by kernel_rfl) (fun K hK => ?_) AllReadyT.nil
  rw [if_pos (by rfl)]
  go_simp
  refine hK.out _ _ (trivial) (fun hHeld2 => ?_)
  clear hK K hHeld
  have hHeld := hHeld2; clear hHeld2
  refine wpTill_behind (i := 8) (v := ?_) rfl (by kernel_rfl) (by kernel_rfl) (by kernel_rfl) (by kernel_rfl) (fun _ _ _ h => h) (Or.inl ⟨by rfl, ?_⟩) (by kernel_rfl) ?_
  rotate_left
  · (intro w hSw; (try dsimp only at hSw); go_simp; (try with_reducible rfl))
  simp only [Act.put, List.getElem_toArray, List.getElem_cons_zero, List.getElem_cons_succ, List.setIfInBounds_toArray, List.set_cons_zero, List.set_cons_succ]
  refine wpTill_ready (rs := [9]) (by kernel_rfl) (by simp) ?_
  refine AllReadyT.last rfl (by kernel_rfl) (fun K hK => ?_) AllReadyT.nil
  rw [if_pos (by rfl)]
  go_simp
  refine hK.out _ _ (trivial) (fun hHeld2 => ?_)
  clear hK K hHeld
  have hHeld := hHeld2; clear hHeld2
  refine wpTill_done (by kernel_rfl) ?_ _
  refine NoPanic.normal ?_
  skip
  go_upto_region 2 with fail
  have hl9 : w.heap.size < W.heap.size := by have := HZW.out; omega
  have hb9 := ((bch HBB.out HS.out).setCell (p := ⟨w.heap.size, 1, none⟩) (Nat.le_refl _) (.slice Am c.mem.length capm)).setCell (p := ⟨w.heap.size, 2, none⟩) (Nat.le_refl _) (.slice Bp c.pl.length capp)
  have hp9 := ((HR1.out.mono HSZ0.out).farB (j := 1) hl9 (.slice Am c.mem.length capm)).farB (j := 2) hl9 (.slice Bp c.pl.length capp)
  have hq9 := ((HR2.out.mono HSZ.out).farB (j := 1) hl9 (.slice Am c.mem.length capm)).farB (j := 2) hl9 (.slice Bp c.pl.length capp)
  have hx9 := Blk.set (Blk.set (Blk.below HXX.out HS.out) 1 (.slice Am c.mem.length capm) #[.int .i64 c.level, .slice Am c.mem.length capm, .slice B m cm] rfl) 2 (.slice Bp c.pl.length capp) #[.int .i64 c.level, .slice Am c.mem.length capm, .slice Bp c.pl.length capp] rfl
  have hz9 := Blk.far (Blk.far (Blk.below HZZ.out HS.out) (show w.heap.size + 1 ≠ w.heap.size by omega) 1 (.slice Am c.mem.length capm)) (show w.heap.size + 1 ≠ w.heap.size by omega) 2 (.slice Bp c.pl.length capp)
  obtain ⟨V9, hV9⟩ : ∃ V, (V2.setCell ⟨w.heap.size, 1, none⟩ (.slice Am c.mem.length capm)).setCell ⟨w.heap.size, 2, none⟩ (.slice Bp c.pl.length capp) = V := ⟨_, rfl⟩
  rw [hV9] at hb9 hp9 hq9 hx9 hz9 ⊢
  have HNE : Hid (∀ g, (Value.slice Am c.mem.length capm).ownBlock = some g → (Value.slice Bp c.pl.length capp).ownBlock ≠ some g) := fun g e1 e2 => by
    have h1 := HLT.out g e1
    have h2 := (HR2.out.lt g e2).1
    omega
  clear hV9 HR1 HR2 HS HSZ HLT c0 c1 c2 f1 f2
  obtain ⟨z0, z1, z2⟩ := own9_cells hx9
  have x0 := Blk.cell hz9 0
  have x1 := Blk.cell hz9 1
  have x2 := Blk.cell hz9 2
  simp only [List.getElem?_toArray, List.getElem?_cons_zero, List.getElem?_cons_succ] at x0 x1 x2
  have f0 := Blk.frozen hz9 0
  have f1 := Blk.frozen hz9 1
  have f2 := Blk.frozen hz9 2
  have hz3 := Blk.set (Blk.set (Blk.set hz9 0 (.int .i64 c.level) #[.int .i64 c.level, .slice none 0 0, .slice none 0 0] rfl) 1 (.slice Am c.mem.length capm) #[.int .i64 c.level, .slice Am c.mem.length capm, .slice none 0 0] rfl) 2 (.slice Bp c.pl.length capp) #[.int .i64 c.level, .slice Am c.mem.length capm, .slice Bp c.pl.length capp] rfl
  have hb3 := ((hb9.setCell (p := ⟨w.heap.size + 1, 0, none⟩) (Nat.le_succ _) (.int .i64 c.level)).setCell (p := ⟨w.heap.size + 1, 1, none⟩) (Nat.le_succ _) (.slice Am c.mem.length capm)).setCell (p := ⟨w.heap.size + 1, 2, none⟩) (Nat.le_succ _) (.slice Bp c.pl.length capp)
  have hp3 := ((hp9.farB (j := 0) HZW.out (.int .i64 c.level)).farB (j := 1) HZW.out (.slice Am c.mem.length capm)).farB (j := 2) HZW.out (.slice Bp c.pl.length capp)
  have hq3 := ((hq9.farB (j := 0) HZW.out (.int .i64 c.level)).farB (j := 1) HZW.out (.slice Am c.mem.length capm)).farB (j := 2) HZW.out (.slice Bp c.pl.length capp)
  have HZ3 := Lib.hid hz3; clear hz3
  have HB3 := Lib.hid hb3; clear hb3
  have HP3 := Lib.hid (hp3.mono (base2 := w.heap.size) (by omega)); clear hp3
  have HQ3 := Lib.hid (hq3.mono (base2 := w.heap.size) (by omega)); clear hq3
  clear hb9 hp9 hq9 hx9 hz9 hl9
  go_wp2_with fail
  have e0 := Blk.cell HZ3.out 0
  have e1 := Blk.cell HZ3.out 1
  have e2 := Blk.cell HZ3.out 2
  simp only [List.getElem?_toArray, List.getElem?_cons_zero, List.getElem?_cons_succ] at e0 e1 e2
  refine bodyPost_ret (v := ctV c Am c.mem.length capm Bp c.pl.length capp) (by simp [results, Try.results42, go_sem, e0, e1, e2]) rfl ?_
  exact ⟨_, _, _, _, rfl, HP3.out, HQ3.out, HNE.out, HB3.out⟩
end Go.Proofs.Ytndkmepdnekigaa
