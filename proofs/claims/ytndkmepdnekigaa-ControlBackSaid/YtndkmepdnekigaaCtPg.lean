import Derived.Test.YtndkmepdnekigaaCtPf
import Derived.Deep.DeepCutAuto
import Derived.Laws.EntriesVeiled
/-
  The contract of the program's own Balance (stage 18).
-/
namespace Go.Proofs.Ytndkmepdnekigaa
open Go.RowKit Go.Lib
set_option linter.unusedVariables false
set_option linter.unusedSimpArgs false

set_option maxRecDepth 100000 in
set_option maxHeartbeats 8000000 in
theorem bal3_any (g : Nat) (mn mb ow ep tz : Int) (w : World) (hg : Blk w g (.cells #[.int .i64 mn, .int .i64 mb] 45 (0, 0))) :
    Calls Try.prog 51 #[.agg #[.int .i64 ow, .int .i64 ep, .int .i64 tz], .pointer (some ⟨g, 0, none⟩)] w fun e w' => e = .returned (.bool (freeP mn (ow, ep, tz))) ∧ Below w.heap.size w w' := by
  have hb0 := (Below.refl w.heap.size w).alloc (Nat.le_refl _) (.cells #[.int .i64 ow, .int .i64 ep, .int .i64 tz] 48)
  have g0 := Blk.cell (Blk.below hg hb0) 0
  simp only [List.getElem?_toArray, List.getElem?_cons_zero, List.getElem?_cons_succ] at g0
  have HE : Hid (freeP mn (ow, ep, tz) = (ow == mn && tz == 0)) := rfl
  have HB := Lib.hid hb0; clear hb0
  clear hg
  generalize freeP mn (ow, ep, tz) = R at *
  cases e1 : (ow == mn)
  · go_enter Try.func51, Try.ntmps51
    go_wp2_with fail
    go_ret
    exact ⟨ret_bool (by rw [HE.out, e1]; rfl), HB.out⟩
  · cases e2 : (tz == 0)
    · go_enter Try.func51, Try.ntmps51
      go_wp2_with fail
      go_ret
      exact ⟨ret_bool (by rw [HE.out, e1, e2]; rfl), HB.out⟩
    · go_enter Try.func51, Try.ntmps51
      go_wp2_with fail
      go_ret
      exact ⟨ret_bool (by rw [HE.out, e1, e2]; rfl), HB.out⟩
theorem cf9bal3 (args : Array Value) (w : World) : (callFunc 51 args).run Try.prog w = .ok (.enter 51 args) w := run_callFunc_body9 Try.func51 (by kernel_rfl) (by kernel_rfl) args w
/-- The most loaded member and the least loaded one lie in blocks of their own. -/
def BalM (W : World) (a b : MbR) (s7 s8 : Value) (wx : World) : Prop :=
  ∃ ga gb : Nat, s7 = .pointer (some ⟨ga, 0, none⟩) ∧ s8 = .pointer (some ⟨gb, 0, none⟩) ∧ Blk wx ga (.cells #[.int .i64 a.1, .int .i64 a.2] 45 (0, 0)) ∧ Blk wx gb (.cells #[.int .i64 b.1, .int .i64 b.2] 45 (0, 0)) ∧ Below W.heap.size W wx
theorem balC_is (c : CtR) (hr : RightC c) (a b : MbR) (ha : a = mostE (fun x => loadC c.pl x) (c.mem.drop 1) (atM9 c.mem 0)) (hb : b = leastE (fun x => loadC c.pl x) (c.mem.drop 1) (atM9 c.mem 0)) :
    balC c = if loadC c.pl a.1 < loadC c.pl b.1 + 2 then (0, 0, false) else match c.pl.findIdx? (freeP a.1) with
      | some i => ((i : Int), b.1, true)
      | none => (0, 0, false) := by
  have h1 : mostL (fun x => loadC c.pl x) c.mem.tail (c.mem.headD (0, 0)).1 = a.1 := by
    rw [ha, mostE_name, List.drop_one]
    congr 1
    unfold atM9
    cases c.mem <;> rfl
  have h2 : leastL (fun x => loadC c.pl x) c.mem.tail (c.mem.headD (0, 0)).1 = b.1 := by
    rw [hb, leastE_name, List.drop_one]
    congr 1
    unfold atM9
    cases c.mem <;> rfl
  unfold balC
  rw [if_neg (fun e => e hr)]
  show (if loadC c.pl (mostL (fun x => loadC c.pl x) c.mem.tail (c.mem.headD (0, 0)).1) < loadC c.pl (leastL (fun x => loadC c.pl x) c.mem.tail (c.mem.headD (0, 0)).1) + 2 then _ else match c.pl.findIdx? (freeP (mostL (fun x => loadC c.pl x) c.mem.tail (c.mem.headD (0, 0)).1)) with
      | some i => ((i : Int), leastL (fun x => loadC c.pl x) c.mem.tail (c.mem.headD (0, 0)).1, true)
      | none => (0, 0, false)) = _
  rw [h1, h2]
set_option maxRecDepth 100000 in
set_option maxHeartbeats 8000000 in
theorem balC9_any : BalC9 := by
  intro c A B n cap m cm w harg
  have h := harg.1
  have HX := Blk.new w (ctB c A n cap B m cm)
  have HB := ba9 w (ctB c A n cap B m cm)
  have HI := h.below HB
  obtain ⟨W, hW⟩ : ∃ W, w.alloc (ctB c A n cap B m cm) = W := ⟨_, rfl⟩
  rw [hW] at HX HB HI
  have HXX := Lib.hid HX; clear HX
  have HBB := Lib.hid HB; clear HB
  have HII := Lib.hid HI; clear HI
  have HNM : Hid (n = c.mem.length ∧ m = c.pl.length) := ⟨h.1.1, h.2.1⟩
  have q := rightC9_any c A B n cap m cm W ⟨HII.out, harg.2⟩
  have HNO : Hid (rightC c = false → balC c = (0, 0, false)) := fun h => if_pos (by unfold rightC at h; exact of_decide_eq_false h)
  clear h harg
  have z0 := Blk.cell HXX.out 0
  have z1 := Blk.cell HXX.out 1
  have z2 := Blk.cell HXX.out 2
  simp only [List.getElem?_toArray, List.getElem?_cons_zero, List.getElem?_cons_succ] at z0 z1 z2
  go_enter Try.func20, Try.ntmps20
  go_upto_region 1 with fail
  try rw [hW]
  clear hW
  go_wp2_with fail
  ((with_reducible refine (q).mono ?_); rintro e V ⟨rfl, b1⟩)
  clear q z0 z1 z2
  cases hr : rightC c with
  | false =>
    have HE := Lib.hid (HNO.out hr)
    have HB1 := Lib.hid (bch HBB.out b1)
    go_wp2_with fail
    refine bodyPost_ret (v := .tuple #[.int .i64 0, .int .i64 0, .bool false]) (by simp [results, Try.results20, go_sem]) rfl ?_
    exact ⟨by rw [HE.out], HB1.out⟩
  | true =>
    have hrc : RightC c := by unfold rightC at hr; exact of_decide_eq_true hr
    have HN8 : Hid (1 ≤ n ∧ n ≤ 8 ∧ m ≤ 8) := by have h1 := hrc.2.1; have h2 := hrc.2.2.1; have h3 := HNM.out; exact ⟨by omega, by omega, by omega⟩
    have HM : Hid (m ≤ 17592186044416) := by have := HN8.out; show _ ≤ _; omega
    obtain ⟨mx, hmx⟩ : ∃ a, a = mostE (fun x => loadC c.pl x) (c.mem.drop 1) (atM9 c.mem 0) := ⟨_, rfl⟩
    obtain ⟨mi, hmi⟩ : ∃ a, a = leastE (fun x => loadC c.pl x) (c.mem.drop 1) (atM9 c.mem 0) := ⟨_, rfl⟩
    have HE0 := Lib.hid (balC_is c hrc mx mi hmx hmi)
    have HMX := Lib.hid hmx; clear hmx
    have HMI := Lib.hid hmi; clear hmi
    clear hr hrc HNO
    have hx2 := Blk.below (Blk.below HXX.out b1) (ba9 V (.cells #[.func (.func 44) #[] #[.pointer (some ⟨w.heap.size, 0, none⟩)]] 61))
    have hl2 := Blk.new V (.cells #[.func (.func 44) #[] #[.pointer (some ⟨w.heap.size, 0, none⟩)]] 61)
    have hb2 := (bch HBB.out b1).alloc (bch HBB.out b1).size (.cells #[.func (.func 44) #[] #[.pointer (some ⟨w.heap.size, 0, none⟩)]] 61)
    have hi2 := (IsCt.below HII.out b1).below (ba9 V (.cells #[.func (.func 44) #[] #[.pointer (some ⟨w.heap.size, 0, none⟩)]] 61))
    go_upto_region 4 with fail
    obtain ⟨W2, hW2⟩ : ∃ X, V.alloc (.cells #[.func (.func 44) #[] #[.pointer (some ⟨w.heap.size, 0, none⟩)]] 61) = X := ⟨_, rfl⟩
    rw [hW2] at hx2 hl2 hb2 hi2
    try rw [hW2]
    clear hW2 b1
    generalize V.heap.size = gl at *
    have HX2 := Lib.hid hx2; clear hx2
    have HL2 := Lib.hid hl2; clear hl2
    have HB2 := Lib.hid hb2; clear hb2
    have HI2 := Lib.hid hi2; clear hi2
    have cf2 := cf9bal2
    have cf1 := cf9bal1
    have cf3 := cf9bal3
    have Q3 : Hid (∀ U, Below W2.heap.size W2 U → Calls Try.prog 48 #[.slice A n cap, .func (.func 46) #[] #[.pointer (some ⟨gl, 0, none⟩)]] U fun e w' => e = .returned (.agg #[.int .i64 mx.1, .int .i64 mx.2]) ∧ Below U.heap.size U w') := fun U hu => by
      have := maxM9_any c.mem (fun x => loadC c.pl x) 46 (.pointer (some ⟨gl, 0, none⟩)) A n cap U (HI2.out.1.below hu) HN8.out.1 HN8.out.2.1 cf9bal2 (fun x b y d X hx => bal2_any c A B n cap m cm w.heap.size gl x b y d X (Blk.below HX2.out (bch hu hx)) (Blk.below HL2.out (bch hu hx)) (HI2.out.2.below (bch hu hx)) HM.out)
      rw [← HMX.out] at this
      exact this
    have Q7 : Hid (∀ U, Below W2.heap.size W2 U → Calls Try.prog 49 #[.slice A n cap, .func (.func 46) #[] #[.pointer (some ⟨gl, 0, none⟩)]] U fun e w' => e = .returned (.agg #[.int .i64 mi.1, .int .i64 mi.2]) ∧ Below U.heap.size U w') := fun U hu => by
      have := minM9_any c.mem (fun x => loadC c.pl x) 46 (.pointer (some ⟨gl, 0, none⟩)) A n cap U (HI2.out.1.below hu) HN8.out.1 HN8.out.2.1 cf9bal2 (fun x b y d X hx => bal2_any c A B n cap m cm w.heap.size gl x b y d X (Blk.below HX2.out (bch hu hx)) (Blk.below HL2.out (bch hu hx)) (HI2.out.2.below (bch hu hx)) HM.out)
      rw [← HMI.out] at this
      exact this
    go_upto_region 5 with fail
    go_cut [7, 8] (fun s7 s8 wx => BalM W2 mx mi s7 s8 wx)
    case first =>
      refine wp_region_noPanic ?_
      refine wp_region_held_drew (S := (fun V => Below W2.heap.size W2 V)) (by kernel_rfl) ((Below.refl _ _).drew) (fun hHeld => ?_)
      refine wpAnyH_take (i := 0) (v := ?_) rfl (by kernel_rfl) (by kernel_rfl) (by kernel_rfl) (fun _ _ _ h => h) (Or.inl ⟨by rfl, ?_⟩) (by assumption) ?_
      rotate_left
      · (intro w hSw; (try dsimp only at hSw); go_simp; (try with_reducible rfl))
      simp only [Act.put, List.getElem_toArray, List.getElem_cons_zero, List.setIfInBounds_toArray, List.set_cons_zero, List.set_cons_succ]
      refine wpAnyH_take (i := 1) (v := ?_) rfl (by kernel_rfl) (by kernel_rfl) (by kernel_rfl) (fun _ _ _ h => h) (Or.inl ⟨by rfl, ?_⟩) (by assumption) ?_
      rotate_left
      · (intro w hSw; (try dsimp only at hSw); have z1 := Blk.cell (Blk.below HX2.out hSw) 1; simp only [List.getElem?_toArray, List.getElem?_cons_zero, List.getElem?_cons_succ] at z1; go_simp; (try with_reducible rfl))
      simp only [Act.put, List.getElem_toArray, List.getElem_cons_zero, List.getElem_cons_succ, List.setIfInBounds_toArray, List.set_cons_zero, List.set_cons_succ]
      refine wpAnyH_take (i := 2) (v := ?_) rfl (by kernel_rfl) (by kernel_rfl) (by kernel_rfl) (fun _ _ _ h => h) (Or.inl ⟨by rfl, ?_⟩) (by assumption) ?_
      rotate_left
      · (intro w hSw; (try dsimp only at hSw); go_simp; (try with_reducible rfl))
      simp only [Act.put, List.getElem_toArray, List.getElem_cons_zero, List.getElem_cons_succ, List.setIfInBounds_toArray, List.set_cons_zero, List.set_cons_succ]
      refine wpAnyH_take (i := 4) (v := ?_) rfl (by kernel_rfl) (by kernel_rfl) (by kernel_rfl) (fun _ _ _ h => h) (Or.inl ⟨by rfl, ?_⟩) (by assumption) ?_
      rotate_left
      · (intro w hSw; (try dsimp only at hSw); go_simp; (try with_reducible rfl))
      simp only [Act.put, List.getElem_toArray, List.getElem_cons_zero, List.getElem_cons_succ, List.setIfInBounds_toArray, List.set_cons_zero, List.set_cons_succ]
      refine wpAnyH_take (i := 5) (v := ?_) rfl (by kernel_rfl) (by kernel_rfl) (by kernel_rfl) (fun _ _ _ h => h) (Or.inl ⟨by rfl, ?_⟩) (by assumption) ?_
      rotate_left
      · (intro w hSw; (try dsimp only at hSw); have z1 := Blk.cell (Blk.below HX2.out hSw) 1; simp only [List.getElem?_toArray, List.getElem?_cons_zero, List.getElem?_cons_succ] at z1; go_simp; (try with_reducible rfl))
      simp only [Act.put, List.getElem_toArray, List.getElem_cons_zero, List.getElem_cons_succ, List.setIfInBounds_toArray, List.set_cons_zero, List.set_cons_succ]
      refine wpAnyH_take (i := 6) (v := ?_) rfl (by kernel_rfl) (by kernel_rfl) (by kernel_rfl) (fun _ _ _ h => h) (Or.inl ⟨by rfl, ?_⟩) (by assumption) ?_
      rotate_left
      · (intro w hSw; (try dsimp only at hSw); go_simp; (try with_reducible rfl))
      simp only [Act.put, List.getElem_toArray, List.getElem_cons_zero, List.getElem_cons_succ, List.setIfInBounds_toArray, List.set_cons_zero, List.set_cons_succ]
      refine wpAnyH_ready (rs := [3, 8, 9]) (by kernel_rfl) (by simp) ?_
      refine AllReadyH.cons rfl (fun K hK => ?_) ?_
      · rw [if_pos (by rfl)]
        go_simp
        ((with_reducible refine (Q3.out _ hHeld).mono ?_); rintro e V3 ⟨rfl, b3⟩)
        refine hK.out _ _ (bch hHeld b3) (fun hHeld2 => ?_)
        clear hK K hHeld
        have hHeld := hHeld2; clear hHeld2
        refine wpAnyH_ready (rs := [7, 8, 9]) (by kernel_rfl) (by simp) ?_
        refine AllReadyH.cons rfl (fun K hK => ?_) ?_
        · rw [if_pos (by rfl)]
          go_simp
          ((with_reducible refine (Q7.out _ hHeld).mono ?_); rintro e V7 ⟨rfl, b7⟩)
          refine hK.out _ _ (bch hHeld b7) (fun hHeld2 => ?_)
          clear hK K hHeld
          have hHeld := hHeld2; clear hHeld2
          refine wpAnyH_ready (rs := [8, 9]) (by kernel_rfl) (by simp) ?_
          refine AllReadyH.cons rfl (fun K hK => ?_) ?_
          · rw [if_pos (by rfl)]
            go_simp
            have G8 : W2.heap.size ≤ V7.heap.size := hHeld.size
            refine hK.out _ _ (hHeld.alloc hHeld.size _) (fun hHeld2 => ?_)
            clear hK K hHeld
            have hHeld := hHeld2; clear hHeld2
            have H8 : Blk (V7.alloc (.cells #[.int .i64 0, .int .i64 0] 45)) V7.heap.size (.cells #[.int .i64 0, .int .i64 0] 45 (0, 0)) := Blk.new V7 (.cells #[.int .i64 0, .int .i64 0] 45)
            obtain ⟨V8, hV⟩ : ∃ X, V7.alloc (.cells #[.int .i64 0, .int .i64 0] 45) = X := ⟨_, rfl⟩
            rw [hV] at hHeld H8 ⊢
            clear hV
            refine wpAnyH_ready (rs := [9]) (by kernel_rfl) (by simp) ?_
            refine AllReadyH.cons rfl (fun K hK => ?_) AllReadyH.nil
            rw [if_pos (by rfl)]
            go_simp
            have G9 : W2.heap.size ≤ V8.heap.size := hHeld.size
            refine hK.out _ _ (hHeld.alloc hHeld.size _) (fun hHeld2 => ?_)
            clear hK K hHeld
            have hHeld := hHeld2; clear hHeld2
            have H8_ := H8
            have H9 : Blk (V8.alloc (.cells #[.int .i64 0, .int .i64 0] 45)) V8.heap.size (.cells #[.int .i64 0, .int .i64 0] 45 (0, 0)) := Blk.new V8 (.cells #[.int .i64 0, .int .i64 0] 45)
            have H8 := Blk.below H8 (ba9 V8 (.cells #[.int .i64 0, .int .i64 0] 45))
            have NE : V7.heap.size ≠ V8.heap.size := Nat.ne_of_lt (Blk.lt H8_)
            obtain ⟨V9, hV⟩ : ∃ X, V8.alloc (.cells #[.int .i64 0, .int .i64 0] 45) = X := ⟨_, rfl⟩
            rw [hV] at hHeld H9 H8 ⊢
            clear hV H8_
            have x0 := Blk.cell H8 0
            have x1 := Blk.cell H8 1
            simp only [List.getElem?_toArray, List.getElem?_cons_zero, List.getElem?_cons_succ] at x0 x1
            have f0 := Blk.frozen H8 0
            have f1 := Blk.frozen H8 1
            have H8b := Blk.set (Blk.set H8 0 (.int .i64 mx.1) #[.int .i64 mx.1, .int .i64 0] rfl) 1 (.int .i64 mx.2) #[.int .i64 mx.1, .int .i64 mx.2] rfl
            have H9b := Blk.far (Blk.far H9 NE.symm 0 (.int .i64 mx.1)) NE.symm 1 (.int .i64 mx.2)
            have y0 := Blk.cell H9b 0
            have y1 := Blk.cell H9b 1
            simp only [List.getElem?_toArray, List.getElem?_cons_zero, List.getElem?_cons_succ] at y0 y1
            have g0 := Blk.frozen H9b 0
            have g1 := Blk.frozen H9b 1
            have H8c := Blk.far (Blk.far H8b NE 0 (.int .i64 mi.1)) NE 1 (.int .i64 mi.2)
            have H9c := Blk.set (Blk.set H9b 0 (.int .i64 mi.1) #[.int .i64 mi.1, .int .i64 0] rfl) 1 (.int .i64 mi.2) #[.int .i64 mi.1, .int .i64 mi.2] rfl
            have HL8 := Lib.hid H8c; clear H8c
            have HL9 := Lib.hid H9c; clear H9c
            clear H8 H9 H8b H9b
            have HG8 := Lib.hid G8; clear G8
            have HG9 := Lib.hid G9; clear G9
            have HNE := Lib.hid NE; clear NE
            refine wpAnyH_ready (rs := [10]) (by kernel_rfl) (by simp) ?_
            refine AllReadyH.cons rfl (fun K hK => ?_) AllReadyH.nil
            rw [if_pos (by rfl)]
            go_simp
            refine hK.out _ _ ((hHeld.setCell (p := ⟨V7.heap.size, 0, none⟩) HG8.out _).setCell (p := ⟨V7.heap.size, 1, none⟩) HG8.out _) (fun hHeld2 => ?_)
            clear hK K hHeld
            have hHeld := hHeld2; clear hHeld2
            refine wpAnyH_ready (rs := [11]) (by kernel_rfl) (by simp) ?_
            refine AllReadyH.cons rfl (fun K hK => ?_) AllReadyH.nil
            rw [if_pos (by rfl)]
            go_simp
            refine hK.out _ _ ((hHeld.setCell (p := ⟨V8.heap.size, 0, none⟩) HG9.out _).setCell (p := ⟨V8.heap.size, 1, none⟩) HG9.out _) (fun hHeld2 => ?_)
            clear hK K hHeld
            have hHeld := hHeld2; clear hHeld2
            refine wpAnyH_done (by kernel_rfl) ?_ _
            refine NoPanic.normal ?_
            have HS := Lib.hid hHeld
            clear hHeld
            go_wp2_with fail
            go_meet
            exact ⟨V7.heap.size, V8.heap.size, rfl, rfl, HL8.out, HL9.out, HS.out⟩
          refine AllReadyH.cons rfl (fun K hK => ?_) ?_
          · rw [if_pos (by rfl)]
            go_simp
            have G9 : W2.heap.size ≤ V7.heap.size := hHeld.size
            refine hK.out _ _ (hHeld.alloc hHeld.size _) (fun hHeld2 => ?_)
            clear hK K hHeld
            have hHeld := hHeld2; clear hHeld2
            have H9 : Blk (V7.alloc (.cells #[.int .i64 0, .int .i64 0] 45)) V7.heap.size (.cells #[.int .i64 0, .int .i64 0] 45 (0, 0)) := Blk.new V7 (.cells #[.int .i64 0, .int .i64 0] 45)
            obtain ⟨V9, hV⟩ : ∃ X, V7.alloc (.cells #[.int .i64 0, .int .i64 0] 45) = X := ⟨_, rfl⟩
            rw [hV] at hHeld H9 ⊢
            clear hV
            refine wpAnyH_ready (rs := [8]) (by kernel_rfl) (by simp) ?_
            refine AllReadyH.cons rfl (fun K hK => ?_) AllReadyH.nil
            rw [if_pos (by rfl)]
            go_simp
            have G8 : W2.heap.size ≤ V9.heap.size := hHeld.size
            refine hK.out _ _ (hHeld.alloc hHeld.size _) (fun hHeld2 => ?_)
            clear hK K hHeld
            have hHeld := hHeld2; clear hHeld2
            have H9_ := H9
            have H8 : Blk (V9.alloc (.cells #[.int .i64 0, .int .i64 0] 45)) V9.heap.size (.cells #[.int .i64 0, .int .i64 0] 45 (0, 0)) := Blk.new V9 (.cells #[.int .i64 0, .int .i64 0] 45)
            have H9 := Blk.below H9 (ba9 V9 (.cells #[.int .i64 0, .int .i64 0] 45))
            have NE : V9.heap.size ≠ V7.heap.size := Nat.ne_of_gt (Blk.lt H9_)
            obtain ⟨V8, hV⟩ : ∃ X, V9.alloc (.cells #[.int .i64 0, .int .i64 0] 45) = X := ⟨_, rfl⟩
            rw [hV] at hHeld H8 H9 ⊢
            clear hV H9_
            have x0 := Blk.cell H8 0
            have x1 := Blk.cell H8 1
            simp only [List.getElem?_toArray, List.getElem?_cons_zero, List.getElem?_cons_succ] at x0 x1
            have f0 := Blk.frozen H8 0
            have f1 := Blk.frozen H8 1
            have H8b := Blk.set (Blk.set H8 0 (.int .i64 mx.1) #[.int .i64 mx.1, .int .i64 0] rfl) 1 (.int .i64 mx.2) #[.int .i64 mx.1, .int .i64 mx.2] rfl
            have H9b := Blk.far (Blk.far H9 NE.symm 0 (.int .i64 mx.1)) NE.symm 1 (.int .i64 mx.2)
            have y0 := Blk.cell H9b 0
            have y1 := Blk.cell H9b 1
            simp only [List.getElem?_toArray, List.getElem?_cons_zero, List.getElem?_cons_succ] at y0 y1
            have g0 := Blk.frozen H9b 0
            have g1 := Blk.frozen H9b 1
            have H8c := Blk.far (Blk.far H8b NE 0 (.int .i64 mi.1)) NE 1 (.int .i64 mi.2)
            have H9c := Blk.set (Blk.set H9b 0 (.int .i64 mi.1) #[.int .i64 mi.1, .int .i64 0] rfl) 1 (.int .i64 mi.2) #[.int .i64 mi.1, .int .i64 mi.2] rfl
            have HL8 := Lib.hid H8c; clear H8c
            have HL9 := Lib.hid H9c; clear H9c
            clear H8 H9 H8b H9b
            have HG8 := Lib.hid G8; clear G8
            have HG9 := Lib.hid G9; clear G9
            have HNE := Lib.hid NE; clear NE
            refine wpAnyH_ready (rs := [10]) (by kernel_rfl) (by simp) ?_
            refine AllReadyH.cons rfl (fun K hK => ?_) AllReadyH.nil
            rw [if_pos (by rfl)]
            go_simp
            refine hK.out _ _ ((hHeld.setCell (p := ⟨V9.heap.size, 0, none⟩) HG8.out _).setCell (p := ⟨V9.heap.size, 1, none⟩) HG8.out _) (fun hHeld2 => ?_)
            clear hK K hHeld
            have hHeld := hHeld2; clear hHeld2
            refine wpAnyH_ready (rs := [11]) (by kernel_rfl) (by simp) ?_
            refine AllReadyH.cons rfl (fun K hK => ?_) AllReadyH.nil
            rw [if_pos (by rfl)]
            go_simp
            refine hK.out _ _ ((hHeld.setCell (p := ⟨V7.heap.size, 0, none⟩) HG9.out _).setCell (p := ⟨V7.heap.size, 1, none⟩) HG9.out _) (fun hHeld2 => ?_)
            clear hK K hHeld
            have hHeld := hHeld2; clear hHeld2
            refine wpAnyH_done (by kernel_rfl) ?_ _
            refine NoPanic.normal ?_
            have HS := Lib.hid hHeld
            clear hHeld
            go_wp2_with fail
            go_meet
            exact ⟨V9.heap.size, V7.heap.size, rfl, rfl, HL8.out, HL9.out, HS.out⟩
          exact AllReadyH.nil
        refine AllReadyH.cons rfl (fun K hK => ?_) ?_
        · rw [if_pos (by rfl)]
          go_simp
          have G8 : W2.heap.size ≤ V3.heap.size := hHeld.size
          refine hK.out _ _ (hHeld.alloc hHeld.size _) (fun hHeld2 => ?_)
          clear hK K hHeld
          have hHeld := hHeld2; clear hHeld2
          have H8 : Blk (V3.alloc (.cells #[.int .i64 0, .int .i64 0] 45)) V3.heap.size (.cells #[.int .i64 0, .int .i64 0] 45 (0, 0)) := Blk.new V3 (.cells #[.int .i64 0, .int .i64 0] 45)
          obtain ⟨V8, hV⟩ : ∃ X, V3.alloc (.cells #[.int .i64 0, .int .i64 0] 45) = X := ⟨_, rfl⟩
          rw [hV] at hHeld H8 ⊢
          clear hV
          refine wpAnyH_ready (rs := [7, 9]) (by kernel_rfl) (by simp) ?_
          refine AllReadyH.cons rfl (fun K hK => ?_) ?_
          · rw [if_pos (by rfl)]
            go_simp
            ((with_reducible refine (Q7.out _ hHeld).mono ?_); rintro e V7 ⟨rfl, b7⟩)
            have H8 := Blk.below H8 b7
            refine hK.out _ _ (bch hHeld b7) (fun hHeld2 => ?_)
            clear hK K hHeld
            have hHeld := hHeld2; clear hHeld2
            refine wpAnyH_ready (rs := [9]) (by kernel_rfl) (by simp) ?_
            refine AllReadyH.cons rfl (fun K hK => ?_) AllReadyH.nil
            rw [if_pos (by rfl)]
            go_simp
            have G9 : W2.heap.size ≤ V7.heap.size := hHeld.size
            refine hK.out _ _ (hHeld.alloc hHeld.size _) (fun hHeld2 => ?_)
            clear hK K hHeld
            have hHeld := hHeld2; clear hHeld2
            have H8_ := H8
            have H9 : Blk (V7.alloc (.cells #[.int .i64 0, .int .i64 0] 45)) V7.heap.size (.cells #[.int .i64 0, .int .i64 0] 45 (0, 0)) := Blk.new V7 (.cells #[.int .i64 0, .int .i64 0] 45)
            have H8 := Blk.below H8 (ba9 V7 (.cells #[.int .i64 0, .int .i64 0] 45))
            have NE : V3.heap.size ≠ V7.heap.size := Nat.ne_of_lt (Blk.lt H8_)
            obtain ⟨V9, hV⟩ : ∃ X, V7.alloc (.cells #[.int .i64 0, .int .i64 0] 45) = X := ⟨_, rfl⟩
            rw [hV] at hHeld H9 H8 ⊢
            clear hV H8_
            have x0 := Blk.cell H8 0
            have x1 := Blk.cell H8 1
            simp only [List.getElem?_toArray, List.getElem?_cons_zero, List.getElem?_cons_succ] at x0 x1
            have f0 := Blk.frozen H8 0
            have f1 := Blk.frozen H8 1
            have H8b := Blk.set (Blk.set H8 0 (.int .i64 mx.1) #[.int .i64 mx.1, .int .i64 0] rfl) 1 (.int .i64 mx.2) #[.int .i64 mx.1, .int .i64 mx.2] rfl
            have H9b := Blk.far (Blk.far H9 NE.symm 0 (.int .i64 mx.1)) NE.symm 1 (.int .i64 mx.2)
            have y0 := Blk.cell H9b 0
            have y1 := Blk.cell H9b 1
            simp only [List.getElem?_toArray, List.getElem?_cons_zero, List.getElem?_cons_succ] at y0 y1
            have g0 := Blk.frozen H9b 0
            have g1 := Blk.frozen H9b 1
            have H8c := Blk.far (Blk.far H8b NE 0 (.int .i64 mi.1)) NE 1 (.int .i64 mi.2)
            have H9c := Blk.set (Blk.set H9b 0 (.int .i64 mi.1) #[.int .i64 mi.1, .int .i64 0] rfl) 1 (.int .i64 mi.2) #[.int .i64 mi.1, .int .i64 mi.2] rfl
            have HL8 := Lib.hid H8c; clear H8c
            have HL9 := Lib.hid H9c; clear H9c
            clear H8 H9 H8b H9b
            have HG8 := Lib.hid G8; clear G8
            have HG9 := Lib.hid G9; clear G9
            have HNE := Lib.hid NE; clear NE
            refine wpAnyH_ready (rs := [10]) (by kernel_rfl) (by simp) ?_
            refine AllReadyH.cons rfl (fun K hK => ?_) AllReadyH.nil
            rw [if_pos (by rfl)]
            go_simp
            refine hK.out _ _ ((hHeld.setCell (p := ⟨V3.heap.size, 0, none⟩) HG8.out _).setCell (p := ⟨V3.heap.size, 1, none⟩) HG8.out _) (fun hHeld2 => ?_)
            clear hK K hHeld
            have hHeld := hHeld2; clear hHeld2
            refine wpAnyH_ready (rs := [11]) (by kernel_rfl) (by simp) ?_
            refine AllReadyH.cons rfl (fun K hK => ?_) AllReadyH.nil
            rw [if_pos (by rfl)]
            go_simp
            refine hK.out _ _ ((hHeld.setCell (p := ⟨V7.heap.size, 0, none⟩) HG9.out _).setCell (p := ⟨V7.heap.size, 1, none⟩) HG9.out _) (fun hHeld2 => ?_)
            clear hK K hHeld
            have hHeld := hHeld2; clear hHeld2
            refine wpAnyH_done (by kernel_rfl) ?_ _
            refine NoPanic.normal ?_
            have HS := Lib.hid hHeld
            clear hHeld
            go_wp2_with fail
            go_meet
            exact ⟨V3.heap.size, V7.heap.size, rfl, rfl, HL8.out, HL9.out, HS.out⟩
          refine AllReadyH.cons rfl (fun K hK => ?_) ?_
          · rw [if_pos (by rfl)]
            go_simp
            have G9 : W2.heap.size ≤ V8.heap.size := hHeld.size
            refine hK.out _ _ (hHeld.alloc hHeld.size _) (fun hHeld2 => ?_)
            clear hK K hHeld
            have hHeld := hHeld2; clear hHeld2
            have H8_ := H8
            have H9 : Blk (V8.alloc (.cells #[.int .i64 0, .int .i64 0] 45)) V8.heap.size (.cells #[.int .i64 0, .int .i64 0] 45 (0, 0)) := Blk.new V8 (.cells #[.int .i64 0, .int .i64 0] 45)
            have H8 := Blk.below H8 (ba9 V8 (.cells #[.int .i64 0, .int .i64 0] 45))
            have NE : V3.heap.size ≠ V8.heap.size := Nat.ne_of_lt (Blk.lt H8_)
            obtain ⟨V9, hV⟩ : ∃ X, V8.alloc (.cells #[.int .i64 0, .int .i64 0] 45) = X := ⟨_, rfl⟩
            rw [hV] at hHeld H9 H8 ⊢
            clear hV H8_
            refine wpAnyH_ready (rs := [7]) (by kernel_rfl) (by simp) ?_
            refine AllReadyH.cons rfl (fun K hK => ?_) AllReadyH.nil
            rw [if_pos (by rfl)]
            go_simp
            ((with_reducible refine (Q7.out _ hHeld).mono ?_); rintro e V7 ⟨rfl, b7⟩)
            have H8 := Blk.below H8 b7
            have H9 := Blk.below H9 b7
            refine hK.out _ _ (bch hHeld b7) (fun hHeld2 => ?_)
            clear hK K hHeld
            have hHeld := hHeld2; clear hHeld2
            have x0 := Blk.cell H8 0
            have x1 := Blk.cell H8 1
            simp only [List.getElem?_toArray, List.getElem?_cons_zero, List.getElem?_cons_succ] at x0 x1
            have f0 := Blk.frozen H8 0
            have f1 := Blk.frozen H8 1
            have H8b := Blk.set (Blk.set H8 0 (.int .i64 mx.1) #[.int .i64 mx.1, .int .i64 0] rfl) 1 (.int .i64 mx.2) #[.int .i64 mx.1, .int .i64 mx.2] rfl
            have H9b := Blk.far (Blk.far H9 NE.symm 0 (.int .i64 mx.1)) NE.symm 1 (.int .i64 mx.2)
            have y0 := Blk.cell H9b 0
            have y1 := Blk.cell H9b 1
            simp only [List.getElem?_toArray, List.getElem?_cons_zero, List.getElem?_cons_succ] at y0 y1
            have g0 := Blk.frozen H9b 0
            have g1 := Blk.frozen H9b 1
            have H8c := Blk.far (Blk.far H8b NE 0 (.int .i64 mi.1)) NE 1 (.int .i64 mi.2)
            have H9c := Blk.set (Blk.set H9b 0 (.int .i64 mi.1) #[.int .i64 mi.1, .int .i64 0] rfl) 1 (.int .i64 mi.2) #[.int .i64 mi.1, .int .i64 mi.2] rfl
            have HL8 := Lib.hid H8c; clear H8c
            have HL9 := Lib.hid H9c; clear H9c
            clear H8 H9 H8b H9b
            have HG8 := Lib.hid G8; clear G8
            have HG9 := Lib.hid G9; clear G9
            have HNE := Lib.hid NE; clear NE
            refine wpAnyH_ready (rs := [10]) (by kernel_rfl) (by simp) ?_
            refine AllReadyH.cons rfl (fun K hK => ?_) AllReadyH.nil
            rw [if_pos (by rfl)]
            go_simp
            refine hK.out _ _ ((hHeld.setCell (p := ⟨V3.heap.size, 0, none⟩) HG8.out _).setCell (p := ⟨V3.heap.size, 1, none⟩) HG8.out _) (fun hHeld2 => ?_)
            clear hK K hHeld
            have hHeld := hHeld2; clear hHeld2
            refine wpAnyH_ready (rs := [11]) (by kernel_rfl) (by simp) ?_
            refine AllReadyH.cons rfl (fun K hK => ?_) AllReadyH.nil
            rw [if_pos (by rfl)]
            go_simp
            refine hK.out _ _ ((hHeld.setCell (p := ⟨V8.heap.size, 0, none⟩) HG9.out _).setCell (p := ⟨V8.heap.size, 1, none⟩) HG9.out _) (fun hHeld2 => ?_)
            clear hK K hHeld
            have hHeld := hHeld2; clear hHeld2
            refine wpAnyH_done (by kernel_rfl) ?_ _
            refine NoPanic.normal ?_
            have HS := Lib.hid hHeld
            clear hHeld
            go_wp2_with fail
            go_meet
            exact ⟨V3.heap.size, V8.heap.size, rfl, rfl, HL8.out, HL9.out, HS.out⟩
          exact AllReadyH.nil
        refine AllReadyH.cons rfl (fun K hK => ?_) ?_
        · rw [if_pos (by rfl)]
          go_simp
          have G9 : W2.heap.size ≤ V3.heap.size := hHeld.size
          refine hK.out _ _ (hHeld.alloc hHeld.size _) (fun hHeld2 => ?_)
          clear hK K hHeld
          have hHeld := hHeld2; clear hHeld2
          have H9 : Blk (V3.alloc (.cells #[.int .i64 0, .int .i64 0] 45)) V3.heap.size (.cells #[.int .i64 0, .int .i64 0] 45 (0, 0)) := Blk.new V3 (.cells #[.int .i64 0, .int .i64 0] 45)
          obtain ⟨V9, hV⟩ : ∃ X, V3.alloc (.cells #[.int .i64 0, .int .i64 0] 45) = X := ⟨_, rfl⟩
          rw [hV] at hHeld H9 ⊢
          clear hV
          refine wpAnyH_ready (rs := [7, 8]) (by kernel_rfl) (by simp) ?_
          refine AllReadyH.cons rfl (fun K hK => ?_) ?_
          · rw [if_pos (by rfl)]
            go_simp
            ((with_reducible refine (Q7.out _ hHeld).mono ?_); rintro e V7 ⟨rfl, b7⟩)
            have H9 := Blk.below H9 b7
            refine hK.out _ _ (bch hHeld b7) (fun hHeld2 => ?_)
            clear hK K hHeld
            have hHeld := hHeld2; clear hHeld2
            refine wpAnyH_ready (rs := [8]) (by kernel_rfl) (by simp) ?_
            refine AllReadyH.cons rfl (fun K hK => ?_) AllReadyH.nil
            rw [if_pos (by rfl)]
            go_simp
            have G8 : W2.heap.size ≤ V7.heap.size := hHeld.size
            refine hK.out _ _ (hHeld.alloc hHeld.size _) (fun hHeld2 => ?_)
            clear hK K hHeld
            have hHeld := hHeld2; clear hHeld2
            have H9_ := H9
            have H8 : Blk (V7.alloc (.cells #[.int .i64 0, .int .i64 0] 45)) V7.heap.size (.cells #[.int .i64 0, .int .i64 0] 45 (0, 0)) := Blk.new V7 (.cells #[.int .i64 0, .int .i64 0] 45)
            have H9 := Blk.below H9 (ba9 V7 (.cells #[.int .i64 0, .int .i64 0] 45))
            have NE : V7.heap.size ≠ V3.heap.size := Nat.ne_of_gt (Blk.lt H9_)
            obtain ⟨V8, hV⟩ : ∃ X, V7.alloc (.cells #[.int .i64 0, .int .i64 0] 45) = X := ⟨_, rfl⟩
            rw [hV] at hHeld H8 H9 ⊢
            clear hV H9_
            have x0 := Blk.cell H8 0
            have x1 := Blk.cell H8 1
            simp only [List.getElem?_toArray, List.getElem?_cons_zero, List.getElem?_cons_succ] at x0 x1
            have f0 := Blk.frozen H8 0
            have f1 := Blk.frozen H8 1
            have H8b := Blk.set (Blk.set H8 0 (.int .i64 mx.1) #[.int .i64 mx.1, .int .i64 0] rfl) 1 (.int .i64 mx.2) #[.int .i64 mx.1, .int .i64 mx.2] rfl
            have H9b := Blk.far (Blk.far H9 NE.symm 0 (.int .i64 mx.1)) NE.symm 1 (.int .i64 mx.2)
            have y0 := Blk.cell H9b 0
            have y1 := Blk.cell H9b 1
            simp only [List.getElem?_toArray, List.getElem?_cons_zero, List.getElem?_cons_succ] at y0 y1
            have g0 := Blk.frozen H9b 0
            have g1 := Blk.frozen H9b 1
            have H8c := Blk.far (Blk.far H8b NE 0 (.int .i64 mi.1)) NE 1 (.int .i64 mi.2)
            have H9c := Blk.set (Blk.set H9b 0 (.int .i64 mi.1) #[.int .i64 mi.1, .int .i64 0] rfl) 1 (.int .i64 mi.2) #[.int .i64 mi.1, .int .i64 mi.2] rfl
            have HL8 := Lib.hid H8c; clear H8c
            have HL9 := Lib.hid H9c; clear H9c
            clear H8 H9 H8b H9b
            have HG8 := Lib.hid G8; clear G8
            have HG9 := Lib.hid G9; clear G9
            have HNE := Lib.hid NE; clear NE
            refine wpAnyH_ready (rs := [10]) (by kernel_rfl) (by simp) ?_
            refine AllReadyH.cons rfl (fun K hK => ?_) AllReadyH.nil
            rw [if_pos (by rfl)]
            go_simp
            refine hK.out _ _ ((hHeld.setCell (p := ⟨V7.heap.size, 0, none⟩) HG8.out _).setCell (p := ⟨V7.heap.size, 1, none⟩) HG8.out _) (fun hHeld2 => ?_)
            clear hK K hHeld
            have hHeld := hHeld2; clear hHeld2
            refine wpAnyH_ready (rs := [11]) (by kernel_rfl) (by simp) ?_
            refine AllReadyH.cons rfl (fun K hK => ?_) AllReadyH.nil
            rw [if_pos (by rfl)]
            go_simp
            refine hK.out _ _ ((hHeld.setCell (p := ⟨V3.heap.size, 0, none⟩) HG9.out _).setCell (p := ⟨V3.heap.size, 1, none⟩) HG9.out _) (fun hHeld2 => ?_)
            clear hK K hHeld
            have hHeld := hHeld2; clear hHeld2
            refine wpAnyH_done (by kernel_rfl) ?_ _
            refine NoPanic.normal ?_
            have HS := Lib.hid hHeld
            clear hHeld
            go_wp2_with fail
            go_meet
            exact ⟨V7.heap.size, V3.heap.size, rfl, rfl, HL8.out, HL9.out, HS.out⟩
          refine AllReadyH.cons rfl (fun K hK => ?_) ?_
          · rw [if_pos (by rfl)]
            go_simp
            have G8 : W2.heap.size ≤ V9.heap.size := hHeld.size
            refine hK.out _ _ (hHeld.alloc hHeld.size _) (fun hHeld2 => ?_)
            clear hK K hHeld
            have hHeld := hHeld2; clear hHeld2
            have H9_ := H9
            have H8 : Blk (V9.alloc (.cells #[.int .i64 0, .int .i64 0] 45)) V9.heap.size (.cells #[.int .i64 0, .int .i64 0] 45 (0, 0)) := Blk.new V9 (.cells #[.int .i64 0, .int .i64 0] 45)
            have H9 := Blk.below H9 (ba9 V9 (.cells #[.int .i64 0, .int .i64 0] 45))
            have NE : V9.heap.size ≠ V3.heap.size := Nat.ne_of_gt (Blk.lt H9_)
            obtain ⟨V8, hV⟩ : ∃ X, V9.alloc (.cells #[.int .i64 0, .int .i64 0] 45) = X := ⟨_, rfl⟩
            rw [hV] at hHeld H8 H9 ⊢
            clear hV H9_
            refine wpAnyH_ready (rs := [7]) (by kernel_rfl) (by simp) ?_
            refine AllReadyH.cons rfl (fun K hK => ?_) AllReadyH.nil
            rw [if_pos (by rfl)]
            go_simp
            ((with_reducible refine (Q7.out _ hHeld).mono ?_); rintro e V7 ⟨rfl, b7⟩)
            have H8 := Blk.below H8 b7
            have H9 := Blk.below H9 b7
            refine hK.out _ _ (bch hHeld b7) (fun hHeld2 => ?_)
            clear hK K hHeld
            have hHeld := hHeld2; clear hHeld2
            have x0 := Blk.cell H8 0
            have x1 := Blk.cell H8 1
            simp only [List.getElem?_toArray, List.getElem?_cons_zero, List.getElem?_cons_succ] at x0 x1
            have f0 := Blk.frozen H8 0
            have f1 := Blk.frozen H8 1
            have H8b := Blk.set (Blk.set H8 0 (.int .i64 mx.1) #[.int .i64 mx.1, .int .i64 0] rfl) 1 (.int .i64 mx.2) #[.int .i64 mx.1, .int .i64 mx.2] rfl
            have H9b := Blk.far (Blk.far H9 NE.symm 0 (.int .i64 mx.1)) NE.symm 1 (.int .i64 mx.2)
            have y0 := Blk.cell H9b 0
            have y1 := Blk.cell H9b 1
            simp only [List.getElem?_toArray, List.getElem?_cons_zero, List.getElem?_cons_succ] at y0 y1
            have g0 := Blk.frozen H9b 0
            have g1 := Blk.frozen H9b 1
            have H8c := Blk.far (Blk.far H8b NE 0 (.int .i64 mi.1)) NE 1 (.int .i64 mi.2)
            have H9c := Blk.set (Blk.set H9b 0 (.int .i64 mi.1) #[.int .i64 mi.1, .int .i64 0] rfl) 1 (.int .i64 mi.2) #[.int .i64 mi.1, .int .i64 mi.2] rfl
            have HL8 := Lib.hid H8c; clear H8c
            have HL9 := Lib.hid H9c; clear H9c
            clear H8 H9 H8b H9b
            have HG8 := Lib.hid G8; clear G8
            have HG9 := Lib.hid G9; clear G9
            have HNE := Lib.hid NE; clear NE
            refine wpAnyH_ready (rs := [10]) (by kernel_rfl) (by simp) ?_
            refine AllReadyH.cons rfl (fun K hK => ?_) AllReadyH.nil
            rw [if_pos (by rfl)]
            go_simp
            refine hK.out _ _ ((hHeld.setCell (p := ⟨V9.heap.size, 0, none⟩) HG8.out _).setCell (p := ⟨V9.heap.size, 1, none⟩) HG8.out _) (fun hHeld2 => ?_)
            clear hK K hHeld
            have hHeld := hHeld2; clear hHeld2
            refine wpAnyH_ready (rs := [11]) (by kernel_rfl) (by simp) ?_
            refine AllReadyH.cons rfl (fun K hK => ?_) AllReadyH.nil
            rw [if_pos (by rfl)]
            go_simp
            refine hK.out _ _ ((hHeld.setCell (p := ⟨V3.heap.size, 0, none⟩) HG9.out _).setCell (p := ⟨V3.heap.size, 1, none⟩) HG9.out _) (fun hHeld2 => ?_)
            clear hK K hHeld
            have hHeld := hHeld2; clear hHeld2
            refine wpAnyH_done (by kernel_rfl) ?_ _
            refine NoPanic.normal ?_
            have HS := Lib.hid hHeld
            clear hHeld
            go_wp2_with fail
            go_meet
            exact ⟨V9.heap.size, V3.heap.size, rfl, rfl, HL8.out, HL9.out, HS.out⟩
          exact AllReadyH.nil
        exact AllReadyH.nil
      refine AllReadyH.cons rfl (fun K hK => ?_) ?_
      · rw [if_pos (by rfl)]
        go_simp
        have G8 : W2.heap.size ≤ W2.heap.size := hHeld.size
        refine hK.out _ _ (hHeld.alloc hHeld.size _) (fun hHeld2 => ?_)
        clear hK K hHeld
        have hHeld := hHeld2; clear hHeld2
        have H8 : Blk (W2.alloc (.cells #[.int .i64 0, .int .i64 0] 45)).drew W2.heap.size (.cells #[.int .i64 0, .int .i64 0] 45 (0, 0)) := Blk.drew (Blk.new W2 (.cells #[.int .i64 0, .int .i64 0] 45))
        obtain ⟨V8, hV⟩ : ∃ X, (W2.alloc (.cells #[.int .i64 0, .int .i64 0] 45)).drew = X := ⟨_, rfl⟩
        rw [hV] at hHeld H8 ⊢
        clear hV
        refine wpAnyH_ready (rs := [3, 9]) (by kernel_rfl) (by simp) ?_
        refine AllReadyH.cons rfl (fun K hK => ?_) ?_
        · rw [if_pos (by rfl)]
          go_simp
          ((with_reducible refine (Q3.out _ hHeld).mono ?_); rintro e V3 ⟨rfl, b3⟩)
          have H8 := Blk.below H8 b3
          refine hK.out _ _ (bch hHeld b3) (fun hHeld2 => ?_)
          clear hK K hHeld
          have hHeld := hHeld2; clear hHeld2
          refine wpAnyH_ready (rs := [7, 9]) (by kernel_rfl) (by simp) ?_
          refine AllReadyH.cons rfl (fun K hK => ?_) ?_
          · rw [if_pos (by rfl)]
            go_simp
            ((with_reducible refine (Q7.out _ hHeld).mono ?_); rintro e V7 ⟨rfl, b7⟩)
            have H8 := Blk.below H8 b7
            refine hK.out _ _ (bch hHeld b7) (fun hHeld2 => ?_)
            clear hK K hHeld
            have hHeld := hHeld2; clear hHeld2
            refine wpAnyH_ready (rs := [9]) (by kernel_rfl) (by simp) ?_
            refine AllReadyH.cons rfl (fun K hK => ?_) AllReadyH.nil
            rw [if_pos (by rfl)]
            go_simp
            have G9 : W2.heap.size ≤ V7.heap.size := hHeld.size
            refine hK.out _ _ (hHeld.alloc hHeld.size _) (fun hHeld2 => ?_)
            clear hK K hHeld
            have hHeld := hHeld2; clear hHeld2
            have H8_ := H8
            have H9 : Blk (V7.alloc (.cells #[.int .i64 0, .int .i64 0] 45)) V7.heap.size (.cells #[.int .i64 0, .int .i64 0] 45 (0, 0)) := Blk.new V7 (.cells #[.int .i64 0, .int .i64 0] 45)
            have H8 := Blk.below H8 (ba9 V7 (.cells #[.int .i64 0, .int .i64 0] 45))
            have NE : W2.heap.size ≠ V7.heap.size := Nat.ne_of_lt (Blk.lt H8_)
            obtain ⟨V9, hV⟩ : ∃ X, V7.alloc (.cells #[.int .i64 0, .int .i64 0] 45) = X := ⟨_, rfl⟩
            rw [hV] at hHeld H9 H8 ⊢
            clear hV H8_
            have x0 := Blk.cell H8 0
            have x1 := Blk.cell H8 1
            simp only [List.getElem?_toArray, List.getElem?_cons_zero, List.getElem?_cons_succ] at x0 x1
            have f0 := Blk.frozen H8 0
            have f1 := Blk.frozen H8 1
            have H8b := Blk.set (Blk.set H8 0 (.int .i64 mx.1) #[.int .i64 mx.1, .int .i64 0] rfl) 1 (.int .i64 mx.2) #[.int .i64 mx.1, .int .i64 mx.2] rfl
            have H9b := Blk.far (Blk.far H9 NE.symm 0 (.int .i64 mx.1)) NE.symm 1 (.int .i64 mx.2)
            have y0 := Blk.cell H9b 0
            have y1 := Blk.cell H9b 1
            simp only [List.getElem?_toArray, List.getElem?_cons_zero, List.getElem?_cons_succ] at y0 y1
            have g0 := Blk.frozen H9b 0
            have g1 := Blk.frozen H9b 1
            have H8c := Blk.far (Blk.far H8b NE 0 (.int .i64 mi.1)) NE 1 (.int .i64 mi.2)
            have H9c := Blk.set (Blk.set H9b 0 (.int .i64 mi.1) #[.int .i64 mi.1, .int .i64 0] rfl) 1 (.int .i64 mi.2) #[.int .i64 mi.1, .int .i64 mi.2] rfl
            have HL8 := Lib.hid H8c; clear H8c
            have HL9 := Lib.hid H9c; clear H9c
            clear H8 H9 H8b H9b
            have HG8 := Lib.hid G8; clear G8
            have HG9 := Lib.hid G9; clear G9
            have HNE := Lib.hid NE; clear NE
            refine wpAnyH_ready (rs := [10]) (by kernel_rfl) (by simp) ?_
            refine AllReadyH.cons rfl (fun K hK => ?_) AllReadyH.nil
            rw [if_pos (by rfl)]
            go_simp
            refine hK.out _ _ ((hHeld.setCell (p := ⟨W2.heap.size, 0, none⟩) HG8.out _).setCell (p := ⟨W2.heap.size, 1, none⟩) HG8.out _) (fun hHeld2 => ?_)
            clear hK K hHeld
            have hHeld := hHeld2; clear hHeld2
            refine wpAnyH_ready (rs := [11]) (by kernel_rfl) (by simp) ?_
            refine AllReadyH.cons rfl (fun K hK => ?_) AllReadyH.nil
            rw [if_pos (by rfl)]
            go_simp
            refine hK.out _ _ ((hHeld.setCell (p := ⟨V7.heap.size, 0, none⟩) HG9.out _).setCell (p := ⟨V7.heap.size, 1, none⟩) HG9.out _) (fun hHeld2 => ?_)
            clear hK K hHeld
            have hHeld := hHeld2; clear hHeld2
            refine wpAnyH_done (by kernel_rfl) ?_ _
            refine NoPanic.normal ?_
            have HS := Lib.hid hHeld
            clear hHeld
            go_wp2_with fail
            go_meet
            exact ⟨W2.heap.size, V7.heap.size, rfl, rfl, HL8.out, HL9.out, HS.out⟩
          refine AllReadyH.cons rfl (fun K hK => ?_) ?_
          · rw [if_pos (by rfl)]
            go_simp
            have G9 : W2.heap.size ≤ V3.heap.size := hHeld.size
            refine hK.out _ _ (hHeld.alloc hHeld.size _) (fun hHeld2 => ?_)
            clear hK K hHeld
            have hHeld := hHeld2; clear hHeld2
            have H8_ := H8
            have H9 : Blk (V3.alloc (.cells #[.int .i64 0, .int .i64 0] 45)) V3.heap.size (.cells #[.int .i64 0, .int .i64 0] 45 (0, 0)) := Blk.new V3 (.cells #[.int .i64 0, .int .i64 0] 45)
            have H8 := Blk.below H8 (ba9 V3 (.cells #[.int .i64 0, .int .i64 0] 45))
            have NE : W2.heap.size ≠ V3.heap.size := Nat.ne_of_lt (Blk.lt H8_)
            obtain ⟨V9, hV⟩ : ∃ X, V3.alloc (.cells #[.int .i64 0, .int .i64 0] 45) = X := ⟨_, rfl⟩
            rw [hV] at hHeld H9 H8 ⊢
            clear hV H8_
            refine wpAnyH_ready (rs := [7]) (by kernel_rfl) (by simp) ?_
            refine AllReadyH.cons rfl (fun K hK => ?_) AllReadyH.nil
            rw [if_pos (by rfl)]
            go_simp
            ((with_reducible refine (Q7.out _ hHeld).mono ?_); rintro e V7 ⟨rfl, b7⟩)
            have H8 := Blk.below H8 b7
            have H9 := Blk.below H9 b7
            refine hK.out _ _ (bch hHeld b7) (fun hHeld2 => ?_)
            clear hK K hHeld
            have hHeld := hHeld2; clear hHeld2
            have x0 := Blk.cell H8 0
            have x1 := Blk.cell H8 1
            simp only [List.getElem?_toArray, List.getElem?_cons_zero, List.getElem?_cons_succ] at x0 x1
            have f0 := Blk.frozen H8 0
            have f1 := Blk.frozen H8 1
            have H8b := Blk.set (Blk.set H8 0 (.int .i64 mx.1) #[.int .i64 mx.1, .int .i64 0] rfl) 1 (.int .i64 mx.2) #[.int .i64 mx.1, .int .i64 mx.2] rfl
            have H9b := Blk.far (Blk.far H9 NE.symm 0 (.int .i64 mx.1)) NE.symm 1 (.int .i64 mx.2)
            have y0 := Blk.cell H9b 0
            have y1 := Blk.cell H9b 1
            simp only [List.getElem?_toArray, List.getElem?_cons_zero, List.getElem?_cons_succ] at y0 y1
            have g0 := Blk.frozen H9b 0
            have g1 := Blk.frozen H9b 1
            have H8c := Blk.far (Blk.far H8b NE 0 (.int .i64 mi.1)) NE 1 (.int .i64 mi.2)
            have H9c := Blk.set (Blk.set H9b 0 (.int .i64 mi.1) #[.int .i64 mi.1, .int .i64 0] rfl) 1 (.int .i64 mi.2) #[.int .i64 mi.1, .int .i64 mi.2] rfl
            have HL8 := Lib.hid H8c; clear H8c
            have HL9 := Lib.hid H9c; clear H9c
            clear H8 H9 H8b H9b
            have HG8 := Lib.hid G8; clear G8
            have HG9 := Lib.hid G9; clear G9
            have HNE := Lib.hid NE; clear NE
            refine wpAnyH_ready (rs := [10]) (by kernel_rfl) (by simp) ?_
            refine AllReadyH.cons rfl (fun K hK => ?_) AllReadyH.nil
            rw [if_pos (by rfl)]
            go_simp
            refine hK.out _ _ ((hHeld.setCell (p := ⟨W2.heap.size, 0, none⟩) HG8.out _).setCell (p := ⟨W2.heap.size, 1, none⟩) HG8.out _) (fun hHeld2 => ?_)
            clear hK K hHeld
            have hHeld := hHeld2; clear hHeld2
            refine wpAnyH_ready (rs := [11]) (by kernel_rfl) (by simp) ?_
            refine AllReadyH.cons rfl (fun K hK => ?_) AllReadyH.nil
            rw [if_pos (by rfl)]
            go_simp
            refine hK.out _ _ ((hHeld.setCell (p := ⟨V3.heap.size, 0, none⟩) HG9.out _).setCell (p := ⟨V3.heap.size, 1, none⟩) HG9.out _) (fun hHeld2 => ?_)
            clear hK K hHeld
            have hHeld := hHeld2; clear hHeld2
            refine wpAnyH_done (by kernel_rfl) ?_ _
            refine NoPanic.normal ?_
            have HS := Lib.hid hHeld
            clear hHeld
            go_wp2_with fail
            go_meet
            exact ⟨W2.heap.size, V3.heap.size, rfl, rfl, HL8.out, HL9.out, HS.out⟩
          exact AllReadyH.nil
        refine AllReadyH.cons rfl (fun K hK => ?_) ?_
        · rw [if_pos (by rfl)]
          go_simp
          have G9 : W2.heap.size ≤ V8.heap.size := hHeld.size
          refine hK.out _ _ (hHeld.alloc hHeld.size _) (fun hHeld2 => ?_)
          clear hK K hHeld
          have hHeld := hHeld2; clear hHeld2
          have H8_ := H8
          have H9 : Blk (V8.alloc (.cells #[.int .i64 0, .int .i64 0] 45)) V8.heap.size (.cells #[.int .i64 0, .int .i64 0] 45 (0, 0)) := Blk.new V8 (.cells #[.int .i64 0, .int .i64 0] 45)
          have H8 := Blk.below H8 (ba9 V8 (.cells #[.int .i64 0, .int .i64 0] 45))
          have NE : W2.heap.size ≠ V8.heap.size := Nat.ne_of_lt (Blk.lt H8_)
          obtain ⟨V9, hV⟩ : ∃ X, V8.alloc (.cells #[.int .i64 0, .int .i64 0] 45) = X := ⟨_, rfl⟩
          rw [hV] at hHeld H9 H8 ⊢
          clear hV H8_
          refine wpAnyH_ready (rs := [3]) (by kernel_rfl) (by simp) ?_
          refine AllReadyH.cons rfl (fun K hK => ?_) AllReadyH.nil
          rw [if_pos (by rfl)]
          go_simp
          ((with_reducible refine (Q3.out _ hHeld).mono ?_); rintro e V3 ⟨rfl, b3⟩)
          have H8 := Blk.below H8 b3
          have H9 := Blk.below H9 b3
          refine hK.out _ _ (bch hHeld b3) (fun hHeld2 => ?_)
          clear hK K hHeld
          have hHeld := hHeld2; clear hHeld2
          refine wpAnyH_ready (rs := [7]) (by kernel_rfl) (by simp) ?_
          refine AllReadyH.cons rfl (fun K hK => ?_) AllReadyH.nil
          rw [if_pos (by rfl)]
          go_simp
          ((with_reducible refine (Q7.out _ hHeld).mono ?_); rintro e V7 ⟨rfl, b7⟩)
          have H8 := Blk.below H8 b7
          have H9 := Blk.below H9 b7
          refine hK.out _ _ (bch hHeld b7) (fun hHeld2 => ?_)
          clear hK K hHeld
          have hHeld := hHeld2; clear hHeld2
          have x0 := Blk.cell H8 0
          have x1 := Blk.cell H8 1
          simp only [List.getElem?_toArray, List.getElem?_cons_zero, List.getElem?_cons_succ] at x0 x1
          have f0 := Blk.frozen H8 0
          have f1 := Blk.frozen H8 1
          have H8b := Blk.set (Blk.set H8 0 (.int .i64 mx.1) #[.int .i64 mx.1, .int .i64 0] rfl) 1 (.int .i64 mx.2) #[.int .i64 mx.1, .int .i64 mx.2] rfl
          have H9b := Blk.far (Blk.far H9 NE.symm 0 (.int .i64 mx.1)) NE.symm 1 (.int .i64 mx.2)
          have y0 := Blk.cell H9b 0
          have y1 := Blk.cell H9b 1
          simp only [List.getElem?_toArray, List.getElem?_cons_zero, List.getElem?_cons_succ] at y0 y1
          have g0 := Blk.frozen H9b 0
          have g1 := Blk.frozen H9b 1
          have H8c := Blk.far (Blk.far H8b NE 0 (.int .i64 mi.1)) NE 1 (.int .i64 mi.2)
          have H9c := Blk.set (Blk.set H9b 0 (.int .i64 mi.1) #[.int .i64 mi.1, .int .i64 0] rfl) 1 (.int .i64 mi.2) #[.int .i64 mi.1, .int .i64 mi.2] rfl
          have HL8 := Lib.hid H8c; clear H8c
          have HL9 := Lib.hid H9c; clear H9c
          clear H8 H9 H8b H9b
          have HG8 := Lib.hid G8; clear G8
          have HG9 := Lib.hid G9; clear G9
          have HNE := Lib.hid NE; clear NE
          refine wpAnyH_ready (rs := [10]) (by kernel_rfl) (by simp) ?_
          refine AllReadyH.cons rfl (fun K hK => ?_) AllReadyH.nil
          rw [if_pos (by rfl)]
          go_simp
          refine hK.out _ _ ((hHeld.setCell (p := ⟨W2.heap.size, 0, none⟩) HG8.out _).setCell (p := ⟨W2.heap.size, 1, none⟩) HG8.out _) (fun hHeld2 => ?_)
          clear hK K hHeld
          have hHeld := hHeld2; clear hHeld2
          refine wpAnyH_ready (rs := [11]) (by kernel_rfl) (by simp) ?_
          refine AllReadyH.cons rfl (fun K hK => ?_) AllReadyH.nil
          rw [if_pos (by rfl)]
          go_simp
          refine hK.out _ _ ((hHeld.setCell (p := ⟨V8.heap.size, 0, none⟩) HG9.out _).setCell (p := ⟨V8.heap.size, 1, none⟩) HG9.out _) (fun hHeld2 => ?_)
          clear hK K hHeld
          have hHeld := hHeld2; clear hHeld2
          refine wpAnyH_done (by kernel_rfl) ?_ _
          refine NoPanic.normal ?_
          have HS := Lib.hid hHeld
          clear hHeld
          go_wp2_with fail
          go_meet
          exact ⟨W2.heap.size, V8.heap.size, rfl, rfl, HL8.out, HL9.out, HS.out⟩
        exact AllReadyH.nil
      refine AllReadyH.cons rfl (fun K hK => ?_) ?_
      · rw [if_pos (by rfl)]
        go_simp
        have G9 : W2.heap.size ≤ W2.heap.size := hHeld.size
        refine hK.out _ _ (hHeld.alloc hHeld.size _) (fun hHeld2 => ?_)
        clear hK K hHeld
        have hHeld := hHeld2; clear hHeld2
        have H9 : Blk (W2.alloc (.cells #[.int .i64 0, .int .i64 0] 45)).drew W2.heap.size (.cells #[.int .i64 0, .int .i64 0] 45 (0, 0)) := Blk.drew (Blk.new W2 (.cells #[.int .i64 0, .int .i64 0] 45))
        obtain ⟨V9, hV⟩ : ∃ X, (W2.alloc (.cells #[.int .i64 0, .int .i64 0] 45)).drew = X := ⟨_, rfl⟩
        rw [hV] at hHeld H9 ⊢
        clear hV
        refine wpAnyH_ready (rs := [3, 8]) (by kernel_rfl) (by simp) ?_
        refine AllReadyH.cons rfl (fun K hK => ?_) ?_
        · rw [if_pos (by rfl)]
          go_simp
          ((with_reducible refine (Q3.out _ hHeld).mono ?_); rintro e V3 ⟨rfl, b3⟩)
          have H9 := Blk.below H9 b3
          refine hK.out _ _ (bch hHeld b3) (fun hHeld2 => ?_)
          clear hK K hHeld
          have hHeld := hHeld2; clear hHeld2
          refine wpAnyH_ready (rs := [7, 8]) (by kernel_rfl) (by simp) ?_
          refine AllReadyH.cons rfl (fun K hK => ?_) ?_
          · rw [if_pos (by rfl)]
            go_simp
            ((with_reducible refine (Q7.out _ hHeld).mono ?_); rintro e V7 ⟨rfl, b7⟩)
            have H9 := Blk.below H9 b7
            refine hK.out _ _ (bch hHeld b7) (fun hHeld2 => ?_)
            clear hK K hHeld
            have hHeld := hHeld2; clear hHeld2
            refine wpAnyH_ready (rs := [8]) (by kernel_rfl) (by simp) ?_
            refine AllReadyH.cons rfl (fun K hK => ?_) AllReadyH.nil
            rw [if_pos (by rfl)]
            go_simp
            have G8 : W2.heap.size ≤ V7.heap.size := hHeld.size
            refine hK.out _ _ (hHeld.alloc hHeld.size _) (fun hHeld2 => ?_)
            clear hK K hHeld
            have hHeld := hHeld2; clear hHeld2
            have H9_ := H9
            have H8 : Blk (V7.alloc (.cells #[.int .i64 0, .int .i64 0] 45)) V7.heap.size (.cells #[.int .i64 0, .int .i64 0] 45 (0, 0)) := Blk.new V7 (.cells #[.int .i64 0, .int .i64 0] 45)
            have H9 := Blk.below H9 (ba9 V7 (.cells #[.int .i64 0, .int .i64 0] 45))
            have NE : V7.heap.size ≠ W2.heap.size := Nat.ne_of_gt (Blk.lt H9_)
            obtain ⟨V8, hV⟩ : ∃ X, V7.alloc (.cells #[.int .i64 0, .int .i64 0] 45) = X := ⟨_, rfl⟩
            rw [hV] at hHeld H8 H9 ⊢
            clear hV H9_
            have x0 := Blk.cell H8 0
            have x1 := Blk.cell H8 1
            simp only [List.getElem?_toArray, List.getElem?_cons_zero, List.getElem?_cons_succ] at x0 x1
            have f0 := Blk.frozen H8 0
            have f1 := Blk.frozen H8 1
            have H8b := Blk.set (Blk.set H8 0 (.int .i64 mx.1) #[.int .i64 mx.1, .int .i64 0] rfl) 1 (.int .i64 mx.2) #[.int .i64 mx.1, .int .i64 mx.2] rfl
            have H9b := Blk.far (Blk.far H9 NE.symm 0 (.int .i64 mx.1)) NE.symm 1 (.int .i64 mx.2)
            have y0 := Blk.cell H9b 0
            have y1 := Blk.cell H9b 1
            simp only [List.getElem?_toArray, List.getElem?_cons_zero, List.getElem?_cons_succ] at y0 y1
            have g0 := Blk.frozen H9b 0
            have g1 := Blk.frozen H9b 1
            have H8c := Blk.far (Blk.far H8b NE 0 (.int .i64 mi.1)) NE 1 (.int .i64 mi.2)
            have H9c := Blk.set (Blk.set H9b 0 (.int .i64 mi.1) #[.int .i64 mi.1, .int .i64 0] rfl) 1 (.int .i64 mi.2) #[.int .i64 mi.1, .int .i64 mi.2] rfl
            have HL8 := Lib.hid H8c; clear H8c
            have HL9 := Lib.hid H9c; clear H9c
            clear H8 H9 H8b H9b
            have HG8 := Lib.hid G8; clear G8
            have HG9 := Lib.hid G9; clear G9
            have HNE := Lib.hid NE; clear NE
            refine wpAnyH_ready (rs := [10]) (by kernel_rfl) (by simp) ?_
            refine AllReadyH.cons rfl (fun K hK => ?_) AllReadyH.nil
            rw [if_pos (by rfl)]
            go_simp
            refine hK.out _ _ ((hHeld.setCell (p := ⟨V7.heap.size, 0, none⟩) HG8.out _).setCell (p := ⟨V7.heap.size, 1, none⟩) HG8.out _) (fun hHeld2 => ?_)
            clear hK K hHeld
            have hHeld := hHeld2; clear hHeld2
            refine wpAnyH_ready (rs := [11]) (by kernel_rfl) (by simp) ?_
            refine AllReadyH.cons rfl (fun K hK => ?_) AllReadyH.nil
            rw [if_pos (by rfl)]
            go_simp
            refine hK.out _ _ ((hHeld.setCell (p := ⟨W2.heap.size, 0, none⟩) HG9.out _).setCell (p := ⟨W2.heap.size, 1, none⟩) HG9.out _) (fun hHeld2 => ?_)
            clear hK K hHeld
            have hHeld := hHeld2; clear hHeld2
            refine wpAnyH_done (by kernel_rfl) ?_ _
            refine NoPanic.normal ?_
            have HS := Lib.hid hHeld
            clear hHeld
            go_wp2_with fail
            go_meet
            exact ⟨V7.heap.size, W2.heap.size, rfl, rfl, HL8.out, HL9.out, HS.out⟩
          refine AllReadyH.cons rfl (fun K hK => ?_) ?_
          · rw [if_pos (by rfl)]
            go_simp
            have G8 : W2.heap.size ≤ V3.heap.size := hHeld.size
            refine hK.out _ _ (hHeld.alloc hHeld.size _) (fun hHeld2 => ?_)
            clear hK K hHeld
            have hHeld := hHeld2; clear hHeld2
            have H9_ := H9
            have H8 : Blk (V3.alloc (.cells #[.int .i64 0, .int .i64 0] 45)) V3.heap.size (.cells #[.int .i64 0, .int .i64 0] 45 (0, 0)) := Blk.new V3 (.cells #[.int .i64 0, .int .i64 0] 45)
            have H9 := Blk.below H9 (ba9 V3 (.cells #[.int .i64 0, .int .i64 0] 45))
            have NE : V3.heap.size ≠ W2.heap.size := Nat.ne_of_gt (Blk.lt H9_)
            obtain ⟨V8, hV⟩ : ∃ X, V3.alloc (.cells #[.int .i64 0, .int .i64 0] 45) = X := ⟨_, rfl⟩
            rw [hV] at hHeld H8 H9 ⊢
            clear hV H9_
            refine wpAnyH_ready (rs := [7]) (by kernel_rfl) (by simp) ?_
            refine AllReadyH.cons rfl (fun K hK => ?_) AllReadyH.nil
            rw [if_pos (by rfl)]
            go_simp
            ((with_reducible refine (Q7.out _ hHeld).mono ?_); rintro e V7 ⟨rfl, b7⟩)
            have H8 := Blk.below H8 b7
            have H9 := Blk.below H9 b7
            refine hK.out _ _ (bch hHeld b7) (fun hHeld2 => ?_)
            clear hK K hHeld
            have hHeld := hHeld2; clear hHeld2
            have x0 := Blk.cell H8 0
            have x1 := Blk.cell H8 1
            simp only [List.getElem?_toArray, List.getElem?_cons_zero, List.getElem?_cons_succ] at x0 x1
            have f0 := Blk.frozen H8 0
            have f1 := Blk.frozen H8 1
            have H8b := Blk.set (Blk.set H8 0 (.int .i64 mx.1) #[.int .i64 mx.1, .int .i64 0] rfl) 1 (.int .i64 mx.2) #[.int .i64 mx.1, .int .i64 mx.2] rfl
            have H9b := Blk.far (Blk.far H9 NE.symm 0 (.int .i64 mx.1)) NE.symm 1 (.int .i64 mx.2)
            have y0 := Blk.cell H9b 0
            have y1 := Blk.cell H9b 1
            simp only [List.getElem?_toArray, List.getElem?_cons_zero, List.getElem?_cons_succ] at y0 y1
            have g0 := Blk.frozen H9b 0
            have g1 := Blk.frozen H9b 1
            have H8c := Blk.far (Blk.far H8b NE 0 (.int .i64 mi.1)) NE 1 (.int .i64 mi.2)
            have H9c := Blk.set (Blk.set H9b 0 (.int .i64 mi.1) #[.int .i64 mi.1, .int .i64 0] rfl) 1 (.int .i64 mi.2) #[.int .i64 mi.1, .int .i64 mi.2] rfl
            have HL8 := Lib.hid H8c; clear H8c
            have HL9 := Lib.hid H9c; clear H9c
            clear H8 H9 H8b H9b
            have HG8 := Lib.hid G8; clear G8
            have HG9 := Lib.hid G9; clear G9
            have HNE := Lib.hid NE; clear NE
            refine wpAnyH_ready (rs := [10]) (by kernel_rfl) (by simp) ?_
            refine AllReadyH.cons rfl (fun K hK => ?_) AllReadyH.nil
            rw [if_pos (by rfl)]
            go_simp
            refine hK.out _ _ ((hHeld.setCell (p := ⟨V3.heap.size, 0, none⟩) HG8.out _).setCell (p := ⟨V3.heap.size, 1, none⟩) HG8.out _) (fun hHeld2 => ?_)
            clear hK K hHeld
            have hHeld := hHeld2; clear hHeld2
            refine wpAnyH_ready (rs := [11]) (by kernel_rfl) (by simp) ?_
            refine AllReadyH.cons rfl (fun K hK => ?_) AllReadyH.nil
            rw [if_pos (by rfl)]
            go_simp
            refine hK.out _ _ ((hHeld.setCell (p := ⟨W2.heap.size, 0, none⟩) HG9.out _).setCell (p := ⟨W2.heap.size, 1, none⟩) HG9.out _) (fun hHeld2 => ?_)
            clear hK K hHeld
            have hHeld := hHeld2; clear hHeld2
            refine wpAnyH_done (by kernel_rfl) ?_ _
            refine NoPanic.normal ?_
            have HS := Lib.hid hHeld
            clear hHeld
            go_wp2_with fail
            go_meet
            exact ⟨V3.heap.size, W2.heap.size, rfl, rfl, HL8.out, HL9.out, HS.out⟩
          exact AllReadyH.nil
        refine AllReadyH.cons rfl (fun K hK => ?_) ?_
        · rw [if_pos (by rfl)]
          go_simp
          have G8 : W2.heap.size ≤ V9.heap.size := hHeld.size
          refine hK.out _ _ (hHeld.alloc hHeld.size _) (fun hHeld2 => ?_)
          clear hK K hHeld
          have hHeld := hHeld2; clear hHeld2
          have H9_ := H9
          have H8 : Blk (V9.alloc (.cells #[.int .i64 0, .int .i64 0] 45)) V9.heap.size (.cells #[.int .i64 0, .int .i64 0] 45 (0, 0)) := Blk.new V9 (.cells #[.int .i64 0, .int .i64 0] 45)
          have H9 := Blk.below H9 (ba9 V9 (.cells #[.int .i64 0, .int .i64 0] 45))
          have NE : V9.heap.size ≠ W2.heap.size := Nat.ne_of_gt (Blk.lt H9_)
          obtain ⟨V8, hV⟩ : ∃ X, V9.alloc (.cells #[.int .i64 0, .int .i64 0] 45) = X := ⟨_, rfl⟩
          rw [hV] at hHeld H8 H9 ⊢
          clear hV H9_
          refine wpAnyH_ready (rs := [3]) (by kernel_rfl) (by simp) ?_
          refine AllReadyH.cons rfl (fun K hK => ?_) AllReadyH.nil
          rw [if_pos (by rfl)]
          go_simp
          ((with_reducible refine (Q3.out _ hHeld).mono ?_); rintro e V3 ⟨rfl, b3⟩)
          have H8 := Blk.below H8 b3
          have H9 := Blk.below H9 b3
          refine hK.out _ _ (bch hHeld b3) (fun hHeld2 => ?_)
          clear hK K hHeld
          have hHeld := hHeld2; clear hHeld2
          refine wpAnyH_ready (rs := [7]) (by kernel_rfl) (by simp) ?_
          refine AllReadyH.cons rfl (fun K hK => ?_) AllReadyH.nil
          rw [if_pos (by rfl)]
          go_simp
          ((with_reducible refine (Q7.out _ hHeld).mono ?_); rintro e V7 ⟨rfl, b7⟩)
          have H8 := Blk.below H8 b7
          have H9 := Blk.below H9 b7
          refine hK.out _ _ (bch hHeld b7) (fun hHeld2 => ?_)
          clear hK K hHeld
          have hHeld := hHeld2; clear hHeld2
          have x0 := Blk.cell H8 0
          have x1 := Blk.cell H8 1
          simp only [List.getElem?_toArray, List.getElem?_cons_zero, List.getElem?_cons_succ] at x0 x1
          have f0 := Blk.frozen H8 0
          have f1 := Blk.frozen H8 1
          have H8b := Blk.set (Blk.set H8 0 (.int .i64 mx.1) #[.int .i64 mx.1, .int .i64 0] rfl) 1 (.int .i64 mx.2) #[.int .i64 mx.1, .int .i64 mx.2] rfl
          have H9b := Blk.far (Blk.far H9 NE.symm 0 (.int .i64 mx.1)) NE.symm 1 (.int .i64 mx.2)
          have y0 := Blk.cell H9b 0
          have y1 := Blk.cell H9b 1
          simp only [List.getElem?_toArray, List.getElem?_cons_zero, List.getElem?_cons_succ] at y0 y1
          have g0 := Blk.frozen H9b 0
          have g1 := Blk.frozen H9b 1
          have H8c := Blk.far (Blk.far H8b NE 0 (.int .i64 mi.1)) NE 1 (.int .i64 mi.2)
          have H9c := Blk.set (Blk.set H9b 0 (.int .i64 mi.1) #[.int .i64 mi.1, .int .i64 0] rfl) 1 (.int .i64 mi.2) #[.int .i64 mi.1, .int .i64 mi.2] rfl
          have HL8 := Lib.hid H8c; clear H8c
          have HL9 := Lib.hid H9c; clear H9c
          clear H8 H9 H8b H9b
          have HG8 := Lib.hid G8; clear G8
          have HG9 := Lib.hid G9; clear G9
          have HNE := Lib.hid NE; clear NE
          refine wpAnyH_ready (rs := [10]) (by kernel_rfl) (by simp) ?_
          refine AllReadyH.cons rfl (fun K hK => ?_) AllReadyH.nil
          rw [if_pos (by rfl)]
          go_simp
          refine hK.out _ _ ((hHeld.setCell (p := ⟨V9.heap.size, 0, none⟩) HG8.out _).setCell (p := ⟨V9.heap.size, 1, none⟩) HG8.out _) (fun hHeld2 => ?_)
          clear hK K hHeld
          have hHeld := hHeld2; clear hHeld2
          refine wpAnyH_ready (rs := [11]) (by kernel_rfl) (by simp) ?_
          refine AllReadyH.cons rfl (fun K hK => ?_) AllReadyH.nil
          rw [if_pos (by rfl)]
          go_simp
          refine hK.out _ _ ((hHeld.setCell (p := ⟨W2.heap.size, 0, none⟩) HG9.out _).setCell (p := ⟨W2.heap.size, 1, none⟩) HG9.out _) (fun hHeld2 => ?_)
          clear hK K hHeld
          have hHeld := hHeld2; clear hHeld2
          refine wpAnyH_done (by kernel_rfl) ?_ _
          refine NoPanic.normal ?_
          have HS := Lib.hid hHeld
          clear hHeld
          go_wp2_with fail
          go_meet
          exact ⟨V9.heap.size, W2.heap.size, rfl, rfl, HL8.out, HL9.out, HS.out⟩
        exact AllReadyH.nil
      exact AllReadyH.nil
    case rest =>
      obtain ⟨ga, gb, rfl, rfl, hga, hgb, hbc⟩ := hcut
      clear Q3 Q7
      have HGA := Lib.hid hga; clear hga
      have HGB := Lib.hid hgb; clear hgb
      have HX3 := Lib.hid (Blk.below HX2.out hbc)
      have HL3 := Lib.hid (Blk.below HL2.out hbc)
      have HI3 := Lib.hid (HI2.out.2.below hbc)
      have HB3 := Lib.hid (bch HB2.out hbc); clear hbc
      go_upto_region 6 with fail
      refine wp_region_noPanic ?_
      refine wp_region_held_drew (S := (fun V => Below wc.heap.size wc V)) (by kernel_rfl) ((Below.refl _ _).drew) (fun hHeld => ?_)
      refine wpAnyH_take (i := 0) (v := ?_) rfl (by kernel_rfl) (by kernel_rfl) (by kernel_rfl) (fun _ _ _ h => h) (Or.inl ⟨by rfl, ?_⟩) (by assumption) ?_
      rotate_left
      · (intro w hSw; (try dsimp only at hSw); have l0 := Blk.cell (Blk.below HL3.out hSw) 0; have a0 := Blk.cell (Blk.below HGA.out hSw) 0; have a1 := Blk.cell (Blk.below HGA.out hSw) 1; have d0 := Blk.cell (Blk.below HGB.out hSw) 0; have d1 := Blk.cell (Blk.below HGB.out hSw) 1; simp only [List.getElem?_toArray, List.getElem?_cons_zero, List.getElem?_cons_succ] at l0 a0 a1 d0 d1; go_simp; (try with_reducible rfl))
      simp only [Act.put, List.getElem_toArray, List.getElem_cons_zero, List.setIfInBounds_toArray, List.set_cons_zero, List.set_cons_succ]
      refine wpAnyH_take (i := 1) (v := ?_) rfl (by kernel_rfl) (by kernel_rfl) (by kernel_rfl) (fun _ _ _ h => h) (Or.inl ⟨by rfl, ?_⟩) (by assumption) ?_
      rotate_left
      · (intro w hSw; (try dsimp only at hSw); have l0 := Blk.cell (Blk.below HL3.out hSw) 0; have a0 := Blk.cell (Blk.below HGA.out hSw) 0; have a1 := Blk.cell (Blk.below HGA.out hSw) 1; have d0 := Blk.cell (Blk.below HGB.out hSw) 0; have d1 := Blk.cell (Blk.below HGB.out hSw) 1; simp only [List.getElem?_toArray, List.getElem?_cons_zero, List.getElem?_cons_succ] at l0 a0 a1 d0 d1; go_simp; (try with_reducible rfl))
      simp only [Act.put, List.getElem_toArray, List.getElem_cons_zero, List.getElem_cons_succ, List.setIfInBounds_toArray, List.set_cons_zero, List.set_cons_succ]
      refine wpAnyH_take (i := 3) (v := ?_) rfl (by kernel_rfl) (by kernel_rfl) (by kernel_rfl) (fun _ _ _ h => h) (Or.inl ⟨by rfl, ?_⟩) (by assumption) ?_
      rotate_left
      · (intro w hSw; (try dsimp only at hSw); have l0 := Blk.cell (Blk.below HL3.out hSw) 0; have a0 := Blk.cell (Blk.below HGA.out hSw) 0; have a1 := Blk.cell (Blk.below HGA.out hSw) 1; have d0 := Blk.cell (Blk.below HGB.out hSw) 0; have d1 := Blk.cell (Blk.below HGB.out hSw) 1; simp only [List.getElem?_toArray, List.getElem?_cons_zero, List.getElem?_cons_succ] at l0 a0 a1 d0 d1; go_simp; (try with_reducible rfl))
      simp only [Act.put, List.getElem_toArray, List.getElem_cons_zero, List.getElem_cons_succ, List.setIfInBounds_toArray, List.set_cons_zero, List.set_cons_succ]
      refine wpAnyH_take (i := 4) (v := ?_) rfl (by kernel_rfl) (by kernel_rfl) (by kernel_rfl) (fun _ _ _ h => h) (Or.inl ⟨by rfl, ?_⟩) (by assumption) ?_
      rotate_left
      · (intro w hSw; (try dsimp only at hSw); have l0 := Blk.cell (Blk.below HL3.out hSw) 0; have a0 := Blk.cell (Blk.below HGA.out hSw) 0; have a1 := Blk.cell (Blk.below HGA.out hSw) 1; have d0 := Blk.cell (Blk.below HGB.out hSw) 0; have d1 := Blk.cell (Blk.below HGB.out hSw) 1; simp only [List.getElem?_toArray, List.getElem?_cons_zero, List.getElem?_cons_succ] at l0 a0 a1 d0 d1; go_simp; (try with_reducible rfl))
      simp only [Act.put, List.getElem_toArray, List.getElem_cons_zero, List.getElem_cons_succ, List.setIfInBounds_toArray, List.set_cons_zero, List.set_cons_succ]
      refine wpAnyH_ready (rs := [2]) (by kernel_rfl) (by simp) ?_
      refine AllReadyH.cons rfl (fun K hK => ?_) AllReadyH.nil
      rw [if_pos (by rfl)]
      go_simp
      ((with_reducible refine (bal1_any c A B n cap m cm w.heap.size mx.1 mx.2 _ (Blk.below HX3.out hHeld) (HI3.out.below hHeld) HM.out).mono ?_); rintro e U2 ⟨rfl, b2⟩)
      refine hK.out _ _ (bch hHeld b2) (fun hHeld2 => ?_)
      clear hK K hHeld
      have hHeld := hHeld2; clear hHeld2
      clear b2
      refine wpAnyH_ready (rs := [5]) (by kernel_rfl) (by simp) ?_
      refine AllReadyH.cons rfl (fun K hK => ?_) AllReadyH.nil
      rw [if_pos (by rfl)]
      go_simp
      ((with_reducible refine (bal1_any c A B n cap m cm w.heap.size mi.1 mi.2 _ (Blk.below HX3.out hHeld) (HI3.out.below hHeld) HM.out).mono ?_); rintro e U5 ⟨rfl, b5⟩)
      refine hK.out _ _ (bch hHeld b5) (fun hHeld2 => ?_)
      clear hK K hHeld
      have hHeld := hHeld2; clear hHeld2
      clear b5
      have HS6 := Lib.hid hHeld
      refine wpAnyH_take (i := 6) (v := ?_) rfl (by kernel_rfl) (by kernel_rfl) (by kernel_rfl) (fun _ _ _ h => h) (Or.inl ⟨by rfl, ?_⟩) (by assumption) ?_
      rotate_left
      · (intro w hSw; (try dsimp only at hSw); go_simp; (try with_reducible rfl))
      simp only [Act.put, List.getElem_toArray, List.getElem_cons_zero, List.getElem_cons_succ, List.setIfInBounds_toArray, List.set_cons_zero, List.set_cons_succ]
      refine wpAnyH_take (i := 7) (v := ?_) rfl (by kernel_rfl) (by kernel_rfl) (by kernel_rfl) (fun _ _ _ h => h) (Or.inl ⟨by rfl, ?_⟩) (by assumption) ?_
      rotate_left
      · (intro w hSw; (try dsimp only at hSw); go_simp; (try with_reducible rfl))
      simp only [Act.put, List.getElem_toArray, List.getElem_cons_zero, List.getElem_cons_succ, List.setIfInBounds_toArray, List.set_cons_zero, List.set_cons_succ]
      refine wpAnyH_done (by kernel_rfl) ?_ _
      refine NoPanic.normal ?_
      skip
      have hfa : loadC c.pl mx.1 ≤ 8 := Nat.le_trans (show loadC c.pl _ ≤ c.pl.length from List.countP_le_length) (by have := HNM.out.2; have := HN8.out; omega)
      have hfb : loadC c.pl mi.1 ≤ 8 := Nat.le_trans (show loadC c.pl _ ≤ c.pl.length from List.countP_le_length) (by have := HNM.out.2; have := HN8.out; omega)
      have hwr : IntKind.i64.wrap ((loadC c.pl mx.1 : Int) - (loadC c.pl mi.1 : Int)) = (loadC c.pl mx.1 : Int) - (loadC c.pl mi.1 : Int) := IntWalk.i64_in _ (by omega)
      rw [hwr]
      have HB6 := Lib.hid (bch HB3.out HS6.out)
      by_cases hlt : loadC c.pl mx.1 < loadC c.pl mi.1 + 2
      · have HE : Hid (balC c = (0, 0, false)) := by show _ = _; rw [HE0.out, if_pos hlt]
        have hd : (loadC c.pl mx.1 : Int) - (loadC c.pl mi.1 : Int) < 2 := by omega
        clear hlt hfa hfb hwr HE0
        generalize (loadC c.pl mx.1 : Int) - (loadC c.pl mi.1 : Int) = dz at *
        go_wp2_with fail
        refine bodyPost_ret (v := .tuple #[.int .i64 0, .int .i64 0, .bool false]) (by simp [results, Try.results20, go_sem]) rfl ?_
        exact ⟨by rw [HE.out], HB6.out⟩
      · have HE1 : Hid (balC c = match c.pl.findIdx? (freeP mx.1) with | some i => ((i : Int), mi.1, true) | none => (0, 0, false)) := by show _ = _; rw [HE0.out, if_neg hlt]
        have hd : ¬ (loadC c.pl mx.1 : Int) - (loadC c.pl mi.1 : Int) < 2 := by omega
        clear hlt hfa hfb hwr HE0
        generalize (loadC c.pl mx.1 : Int) - (loadC c.pl mi.1 : Int) = dz at *
        have hx4 := Blk.below HX3.out HS6.out
        have hga4 := Blk.below HGA.out HS6.out
        have hgb4 := Blk.below HGB.out HS6.out
        have qi := indexP9_any c.pl (freeP mx.1) 51 (.pointer (some ⟨ga, 0, none⟩)) B m cm _ (HI3.out.below HS6.out) cf9bal3 (fun k hk U hu => bal3_any ga mx.1 mx.2 _ _ _ U (Blk.below hga4 hu))
        have z2 := Blk.cell hx4 2
        simp only [List.getElem?_toArray, List.getElem?_cons_zero, List.getElem?_cons_succ] at z2
        have HGB4 := Lib.hid hgb4
        have HIX : Hid (idx9 (freeP mx.1) c.pl = match c.pl.findIdx? (freeP mx.1) with | some i => (i : Int) | none => -1) := rfl
        clear hx4 hga4 hgb4
        generalize idx9 (freeP mx.1) c.pl = iz at *
        go_wp2_with fail
        ((with_reducible refine qi.mono ?_); rintro e U9 ⟨rfl, b9⟩)
        have HGB9 := Lib.hid (Blk.below HGB4.out b9)
        have HB9 := Lib.hid (bch HB6.out b9)
        clear qi z2 b9
        cases hfi : c.pl.findIdx? (freeP mx.1) with
        | none =>
          rw [hfi] at HIX HE1
          have hiz : iz = -1 := HIX.out
          subst hiz
          have HE : Hid (balC c = (0, 0, false)) := HE1.out
          clear hfi HE1 HIX
          go_wp2_with fail
          refine bodyPost_ret (v := .tuple #[.int .i64 0, .int .i64 0, .bool false]) (by simp [results, Try.results20, go_sem]) rfl ?_
          exact ⟨by rw [HE.out], HB9.out⟩
        | some i =>
          rw [hfi] at HIX HE1
          have hiz : iz = (i : Int) := HIX.out
          subst hiz
          have HE : Hid (balC c = ((i : Int), mi.1, true)) := HE1.out
          have hi0 : ¬ (i : Int) < 0 := by omega
          have d0 := Blk.cell HGB9.out 0
          simp only [List.getElem?_toArray, List.getElem?_cons_zero, List.getElem?_cons_succ] at d0
          clear hfi HE1 HIX
          go_upto_region 11 with fail
          go_quiet (fail)
          have HB10 := Lib.hid (bdn HB9.out nq)
          go_wp2_with fail
          refine bodyPost_ret (v := .tuple #[.int .i64 (i : Int), .int .i64 mi.1, .bool true]) (by simp [results, Try.results20, go_sem]) rfl ?_
          exact ⟨by rw [HE.out], HB10.out⟩
end Go.Proofs.Ytndkmepdnekigaa
