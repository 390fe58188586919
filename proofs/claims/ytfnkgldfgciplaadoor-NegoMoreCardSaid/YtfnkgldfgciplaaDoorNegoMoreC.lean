import Derived.Test.YtfnkgldfgciplaaDoorNegoSix
import Derived.Test.YtfnkgldfgciplaaDoorGMath
/-
  The walk of the law NegoMore, over what is asked of the program (stage 9).
-/
namespace Go.Proofs.YtfnkgldfgciplaaDoor
open Go.RowKit
set_option linter.unusedVariables false
set_option linter.unusedSimpArgs false

theorem HlBlk.drew {W : World} {g : Nat} {m : Hl} (h : HlBlk W g m) : HlBlk W.drew g m := h
theorem HlBlk.low {W : World} {g : Nat} {l u f : Int} (h : HlBlk W g ⟨l, u, f⟩) (x : Int) : HlBlk (W.setCell ⟨g, 0, none⟩ (.int .i64 x)) g ⟨x, u, f⟩ := heap_setCell_same _ g 0 _ _ _ h
theorem HlBlk.feat {W : World} {g : Nat} {l u f : Int} (h : HlBlk W g ⟨l, u, f⟩) (x : Int) : HlBlk (W.setCell ⟨g, 2, none⟩ (.int .i64 x)) g ⟨l, u, x⟩ := heap_setCell_same _ g 2 _ _ _ h
set_option maxRecDepth 100000 in
set_option maxHeartbeats 8000000 in
theorem negoMore_core (hR : RightN) (hO : OfN) (hA : AgreeN) (a0 a1 a2 a3 a4 a5 bits0 : Int) (w : World) (hk : Knw w) (h0 : (Lit.int .i64 a0).wf = true) (h1 : (Lit.int .i64 a1).wf = true) (h2 : (Lit.int .i64 a2).wf = true) (h3 : (Lit.int .i64 a3).wf = true) (h4 : (Lit.int .i64 a4).wf = true) (h5 : (Lit.int .i64 a5).wf = true) (h6 : (Lit.int .i64 bits0).wf = true) :
    Calls Tryd.prog 5 #[.agg #[.int .i64 a0, .int .i64 a1, .int .i64 a2, .int .i64 a3, .int .i64 a4, .int .i64 a5], .int .i64 bits0] w fun e w' => e = .returned (.bool true) ∧ Below w.heap.size w w' := by
  have qw := fun W (hb : Below w.heap.size w W) => awake9_any hR hO hA W (hk.below hb)
  have qa := fun W => hello_any a0 a1 a2 h0 h1 h2 W
  have qb := fun W => hello_any a3 a4 a5 h3 h4 h5 W
  have qx := pickN9_nat bits0 1048576 (by omega) (by omega) h6
  have kx := pickN_lt bits0 1048576 (by omega)
  generalize pickN bits0 1048576 = X at qx kx
  have ra := helR_right a0 a1 a2
  have rb := helR_right a3 a4 a5
  generalize helR a0 a1 a2 = A at qa ra
  generalize helR a3 a4 a5 = B at qb rb
  obtain ⟨l, u, ft⟩ := A
  obtain ⟨F, rfl⟩ : ∃ F : Nat, ft = F := ⟨ft.toNat, by have := ra.2.2.2.1; simp only at this; omega⟩
  have hF : F < 1048576 := by have := feat_lt ra; simpa using this
  obtain ⟨rc, hmore⟩ := ag_more ra rb (X := X) (by omega)
  have hself := ag_self ra
  have g1 := fun W => hA.as ⟨l, u, (F : Int)⟩ B ra rb W
  have g2 := fun W => hA.as ⟨1, u, ((F ||| X : Nat) : Int)⟩ B rc rb W
  have g3 := fun W => hA.as ⟨l, u, (F : Int)⟩ ⟨l, u, (F : Int)⟩ ra ra W
  unfold hlV at qa qb
  have hl1 := agH_lt ⟨l, u, (F : Int)⟩ B
  have hl2 := agH_lt ⟨1, u, ((F ||| X : Nat) : Int)⟩ B
  generalize agH ⟨l, u, (F : Int)⟩ B = D1 at g1 hmore hl1
  generalize agH ⟨1, u, ((F ||| X : Nat) : Int)⟩ B = D2 at g2 hmore hl2
  generalize agH ⟨l, u, (F : Int)⟩ ⟨l, u, (F : Int)⟩ = D3 at g3 hself
  obtain ⟨v1, f1, n1⟩ := D1
  obtain ⟨v2, f2', n2⟩ := D2
  obtain ⟨v3, f3, n3⟩ := D3
  simp only at g1 g2 g3 hmore hl1 hl2 qa qb
  have hor : bits .or .i64 (F : Int) (X : Int) = ((F ||| X : Nat) : Int) := i64_borN F X hF (by omega)
  have hru := (rH _ _ _).1 ra
  have HM : Hid (n1 = 0 → n2 = 0 ∧ v2 = v1 ∧ bits .and .i64 (f1 : Int) (f2' : Int) = (f1 : Int)) := fun h => by
    obtain ⟨x1, x2, x3⟩ := hmore h
    refine ⟨x1, x2, ?_⟩
    rw [i64_bandN f1 f2' (by omega) (by omega), x3]
  have HS := Lib.hid hself; clear hself
  have HRU := Lib.hid hru; clear hru
  clear hR hO hA h0 h1 h2 h3 h4 h5 h6 hmore hl1 hl2 ra rb rc kx hF
  generalize F ||| X = G at *
  have hb0 : Below w.heap.size w (w.alloc (.cells #[.int .i64 a0, .int .i64 a1, .int .i64 a2, .int .i64 a3, .int .i64 a4, .int .i64 a5] 24)) := (Below.refl _ _).alloc (Nat.le_refl _) _
  have ha : A6Blk (w.alloc (.cells #[.int .i64 a0, .int .i64 a1, .int .i64 a2, .int .i64 a3, .int .i64 a4, .int .i64 a5] 24)) w.heap.size a0 a1 a2 a3 a4 a5 := A6Blk.new w a0 a1 a2 a3 a4 a5
  obtain ⟨W0, hW0⟩ : ∃ W, w.alloc (.cells #[.int .i64 a0, .int .i64 a1, .int .i64 a2, .int .i64 a3, .int .i64 a4, .int .i64 a5] 24) = W := ⟨_, rfl⟩
  rw [hW0] at hb0 ha
  have HB0 := Lib.hid hb0; clear hb0
  have HX := Lib.hid ha; clear ha
  go_enter Tryd.func5, Tryd.ntmps5
  go_wp2_with fail
  ((with_reducible refine (qw _ HB0.out).mono ?_); rintro e W1 ⟨rfl, b1⟩)
  have HB1 := Lib.hid (bch HB0.out b1)
  have HX1 := Lib.hid (HX.out.below b1)
  clear hW0 b1 qw
  obtain ⟨x0, x1, x2, x3, x4, x5⟩ := HX1.out.cells
  go_wp2_with fail
  ((with_reducible refine (qa _).mono ?_); rintro e W2 ⟨rfl, b2⟩)
  clear x0 x1 x2 x3 x4 x5
  go_upto_region 3 with fail
  have hb := (bch HB1.out b2).alloc (bch HB1.out b2).size (.cells #[.int .i64 l, .int .i64 u, .int .i64 (F : Int)] 23)
  have hx := (HX1.out.below b2).below ((Below.refl _ _).alloc (Nat.le_refl _) (.cells #[.int .i64 l, .int .i64 u, .int .i64 (F : Int)] 23))
  have hp := HlBlk.new W2 ⟨l, u, (F : Int)⟩
  simp only at hp
  obtain ⟨V2, hV2⟩ : ∃ W, W2.alloc (.cells #[.int .i64 l, .int .i64 u, .int .i64 (F : Int)] 23) = W := ⟨_, rfl⟩
  rw [hV2] at hb hx hp ⊢
  clear hV2 b2
  obtain ⟨x0, x1, x2, x3, x4, x5⟩ := hx.cells
  have HB2 := Lib.hid hb; clear hb hx
  have HP2 := Lib.hid hp; clear hp
  go_wp2_with fail
  ((with_reducible refine (qb _).mono ?_); rintro e W3 ⟨rfl, b3⟩)
  clear x0 x1 x2 x3 x4 x5
  go_upto_region 4 with fail
  have hb := (bch HB2.out b3).alloc (bch HB2.out b3).size (.cells #[.int .i64 B.low, .int .i64 B.high, .int .i64 B.feat] 23)
  have hp := (HP2.out.below b3).below ((Below.refl _ _).alloc (Nat.le_refl _) (.cells #[.int .i64 B.low, .int .i64 B.high, .int .i64 B.feat] 23))
  have hq := HlBlk.new W3 B
  obtain ⟨V3, hV3⟩ : ∃ W, W3.alloc (.cells #[.int .i64 B.low, .int .i64 B.high, .int .i64 B.feat] 23) = W := ⟨_, rfl⟩
  rw [hV3] at hb hp hq ⊢
  clear hV3 b3
  obtain ⟨p0, p1, p2⟩ := hp.cells
  simp only at p0 p1 p2
  have HB3 := Lib.hid hb; clear hb
  have HP3 := Lib.hid hp; clear hp
  have HQ3 := Lib.hid hq; clear hq
  go_upto_region 5 with fail
  clear p0 p1 p2
  have hb := (Below.refl V3.heap.size V3).alloc (Nat.le_refl _) (.cells #[.int .i64 l, .int .i64 u, .int .i64 (F : Int)] 23)
  have hc := HlBlk.new V3 ⟨l, u, (F : Int)⟩
  simp only at hc
  obtain ⟨V4, hV4⟩ : ∃ W, V3.alloc (.cells #[.int .i64 l, .int .i64 u, .int .i64 (F : Int)] 23) = W := ⟨_, rfl⟩
  rw [hV4] at hb hc ⊢
  clear hV4
  have f0 := hc.frozen 0
  have c0 := hc.cells.1
  simp only at c0
  have HB4 := Lib.hid hb; clear hb
  have HC4 := Lib.hid hc; clear hc
  go_upto_region 6 with fail
  clear f0 c0
  have hb := HB4.out.setCell (p := ⟨V3.heap.size, 0, none⟩) (Nat.le_refl _) (.int .i64 1)
  have hc := HC4.out.low 1
  obtain ⟨V5, hV5⟩ : ∃ W, V4.setCell ⟨V3.heap.size, 0, none⟩ (.int .i64 1) = W := ⟨_, rfl⟩
  rw [hV5] at hb hc ⊢
  clear hV5
  have HB5 := Lib.hid hb; clear hb
  have HC5 := Lib.hid hc; clear hc
  refine wp_region_noPanic ?_
  refine wp_region_held_drew (S := fun W => Below V3.heap.size V3 W) (by kernel_rfl) (HB5.out.drew) (fun hHeld => ?_)
  refine wpAnyH_take (i := 0) (v := ?_) rfl (by kernel_rfl) (by kernel_rfl) (by kernel_rfl) (fun _ _ _ h => h) (Or.inl ⟨by rfl, ?_⟩) (by assumption) ?_
  rotate_left
  · (intro w hSw; (try dsimp only at hSw); go_simp; (try with_reducible rfl))
  simp only [Act.put, List.getElem_toArray, List.getElem_cons_zero, List.setIfInBounds_toArray, List.set_cons_zero, List.set_cons_succ]
  refine wpAnyH_take (i := 1) (v := ?_) rfl (by kernel_rfl) (by kernel_rfl) (by kernel_rfl) (fun _ _ _ h => h) (Or.inl ⟨by rfl, ?_⟩) (by assumption) ?_
  rotate_left
  · (intro w hSw; (try dsimp only at hSw); obtain ⟨p0, p1, p2⟩ := (HP3.out.below hSw).cells; simp only at p0 p1 p2; go_simp; (try with_reducible rfl))
  simp only [Act.put, List.getElem_toArray, List.getElem_cons_zero, List.getElem_cons_succ, List.setIfInBounds_toArray, List.set_cons_zero, List.set_cons_succ]
  refine wpAnyH_take (i := 2) (v := ?_) rfl (by kernel_rfl) (by kernel_rfl) (by kernel_rfl) (fun _ _ _ h => h) (Or.inl ⟨by rfl, ?_⟩) (by assumption) ?_
  rotate_left
  · (intro w hSw; (try dsimp only at hSw); go_simp; (try with_reducible rfl))
  simp only [Act.put, List.getElem_toArray, List.getElem_cons_zero, List.getElem_cons_succ, List.setIfInBounds_toArray, List.set_cons_zero, List.set_cons_succ]
  refine wpAnyH_ready (rs := [3]) (by kernel_rfl) (by simp) ?_
  refine AllReadyH.cons rfl (fun K hK => ?_) AllReadyH.nil
  rw [if_pos (by rfl)]
  go_simp
  ((with_reducible refine (qx _).mono ?_); rintro e w' ⟨rfl, rfl⟩)
  refine hK.out _ _ (hHeld) (fun hHeld2 => ?_)
  clear hK K hHeld
  have hHeld := hHeld2; clear hHeld2
  refine wpAnyH_take (i := 4) (v := ?_) rfl (by kernel_rfl) (by kernel_rfl) (by kernel_rfl) (fun _ _ _ h => h) (Or.inl ⟨by rfl, ?_⟩) (by assumption) ?_
  rotate_left
  · (intro w hSw; (try dsimp only at hSw); go_simp; (try with_reducible rfl))
  simp only [Act.put, List.getElem_toArray, List.getElem_cons_zero, List.getElem_cons_succ, List.setIfInBounds_toArray, List.set_cons_zero, List.set_cons_succ]
  refine wpAnyH_take (i := 5) (v := ?_) rfl (by kernel_rfl) (by kernel_rfl) (by kernel_rfl) (fun _ _ _ h => h) (Or.inl ⟨by rfl, ?_⟩) (by assumption) ?_
  rotate_left
  · (intro w hSw; (try dsimp only at hSw); go_simp; (try with_reducible rfl))
  simp only [Act.put, List.getElem_toArray, List.getElem_cons_zero, List.getElem_cons_succ, List.setIfInBounds_toArray, List.set_cons_zero, List.set_cons_succ]
  have f2 := HC5.out.drew.frozen 2
  have c2 := HC5.out.drew.cells.2.2
  simp only at c2
  refine wpAnyH_ready (rs := [6]) (by kernel_rfl) (by simp) ?_
  refine AllReadyH.cons rfl (fun K hK => ?_) AllReadyH.nil
  rw [if_pos (by rfl)]
  go_simp
  refine hK.out _ _ (hHeld.setCell (p := ⟨V3.heap.size, 2, none⟩) (Nat.le_refl _) _) (fun hHeld2 => ?_)
  clear hK K hHeld
  have hHeld := hHeld2; clear hHeld2
  refine wpAnyH_done (by kernel_rfl) ?_ _
  refine NoPanic.normal ?_
  have hc := (HC5.out.feat (G : Int)).drew
  clear c2 f2
  obtain ⟨V6, hV6⟩ : ∃ W, (V5.setCell ⟨V3.heap.size, 2, none⟩ (.int .i64 (G : Int))).drew = W := ⟨_, rfl⟩
  rw [hV6] at hHeld hc ⊢
  clear hV6
  have hp := HP3.out.below hHeld
  have hq := HQ3.out.below hHeld
  have hb := bch HB3.out hHeld
  generalize V3.heap.size = g8 at *
  clear hHeld qx
  obtain ⟨p0, p1, p2⟩ := hp.cells
  obtain ⟨q0, q1, q2⟩ := hq.cells
  simp only at p0 p1 p2
  have HB6 := Lib.hid hb; clear hb
  have HP6 := Lib.hid hp; clear hp
  have HQ6 := Lib.hid hq; clear hq
  have HC6 := Lib.hid hc; clear hc
  go_wp2_with fail
  ((with_reducible refine (g1 _).mono ?_); rintro e W7 ⟨rfl, b7⟩)
  clear p0 p1 p2 q0 q1 q2
  go_upto_region 8 with fail
  have hb := (bch HB6.out b7).alloc (bch HB6.out b7).size (.cells #[.int .i64 (v1 : Int), .int .i64 (f1 : Int)] 30)
  have hp := (HP6.out.below b7).below ((Below.refl _ _).alloc (Nat.le_refl _) (.cells #[.int .i64 (v1 : Int), .int .i64 (f1 : Int)] 30))
  have hq := (HQ6.out.below b7).below ((Below.refl _ _).alloc (Nat.le_refl _) (.cells #[.int .i64 (v1 : Int), .int .i64 (f1 : Int)] 30))
  have hc := (HC6.out.below b7).below ((Below.refl _ _).alloc (Nat.le_refl _) (.cells #[.int .i64 (v1 : Int), .int .i64 (f1 : Int)] 30))
  have hd := DlBlk.new W7 v1 f1
  obtain ⟨V7, hV7⟩ : ∃ W, W7.alloc (.cells #[.int .i64 (v1 : Int), .int .i64 (f1 : Int)] 30) = W := ⟨_, rfl⟩
  rw [hV7] at hb hp hq hc hd ⊢
  clear hV7 b7
  obtain ⟨p0, p1, p2⟩ := hc.cells
  obtain ⟨q0, q1, q2⟩ := hq.cells
  simp only at p0 p1 p2
  have HB7 := Lib.hid hb; clear hb hq hc
  have HP7 := Lib.hid hp; clear hp
  have HD7 := Lib.hid hd; clear hd
  go_wp2_with fail
  ((with_reducible refine (g2 _).mono ?_); rintro e W8 ⟨rfl, b8⟩)
  clear p0 p1 p2 q0 q1 q2
  go_upto_region 9 with fail
  have hb := (bch HB7.out b8).alloc (bch HB7.out b8).size (.cells #[.int .i64 (v2 : Int), .int .i64 (f2' : Int)] 30)
  have hp := (HP7.out.below b8).below ((Below.refl _ _).alloc (Nat.le_refl _) (.cells #[.int .i64 (v2 : Int), .int .i64 (f2' : Int)] 30))
  have hd := (HD7.out.below b8).below ((Below.refl _ _).alloc (Nat.le_refl _) (.cells #[.int .i64 (v2 : Int), .int .i64 (f2' : Int)] 30))
  have he := DlBlk.new W8 v2 f2'
  obtain ⟨V8, hV8⟩ : ∃ W, W8.alloc (.cells #[.int .i64 (v2 : Int), .int .i64 (f2' : Int)] 30) = W := ⟨_, rfl⟩
  rw [hV8] at hb hp hd he ⊢
  clear hV8 b8
  obtain ⟨p0, p1, p2⟩ := hp.cells
  simp only at p0 p1 p2
  have HB8 := Lib.hid hb; clear hb
  have HP8 := Lib.hid hp; clear hp
  have HD8 := Lib.hid hd; clear hd
  have HE8 := Lib.hid he; clear he
  go_wp2_with fail
  ((with_reducible refine (g3 _).mono ?_); rintro e W9 ⟨rfl, b9⟩)
  clear p0 p1 p2
  go_upto_region 10 with fail
  have hb := (bch HB8.out b9).alloc (bch HB8.out b9).size (.cells #[.int .i64 (v3 : Int), .int .i64 (f3 : Int)] 30)
  have hp := (HP8.out.below b9).below ((Below.refl _ _).alloc (Nat.le_refl _) (.cells #[.int .i64 (v3 : Int), .int .i64 (f3 : Int)] 30))
  have hd := (HD8.out.below b9).below ((Below.refl _ _).alloc (Nat.le_refl _) (.cells #[.int .i64 (v3 : Int), .int .i64 (f3 : Int)] 30))
  have he := (HE8.out.below b9).below ((Below.refl _ _).alloc (Nat.le_refl _) (.cells #[.int .i64 (v3 : Int), .int .i64 (f3 : Int)] 30))
  have hs := DlBlk.new W9 v3 f3
  obtain ⟨V9, hV9⟩ : ∃ W, W9.alloc (.cells #[.int .i64 (v3 : Int), .int .i64 (f3 : Int)] 30) = W := ⟨_, rfl⟩
  rw [hV9] at hb hp hd he hs ⊢
  clear hV9 b9
  obtain ⟨p0, p1, p2⟩ := hp.cells
  simp only at p0 p1 p2
  obtain ⟨d0, d1⟩ := hd.cells
  obtain ⟨e0, e1⟩ := he.cells
  obtain ⟨s0, s1⟩ := hs.cells
  have HB9 := Lib.hid hb; clear hb hp hd he hs
  clear g1 g2 g3 qa qb hor
  have HN : Hid ((n1 = 0 ∧ n2 = 0 ∧ v2 = v1 ∧ bits .and .i64 (f1 : Int) (f2' : Int) = (f1 : Int)) ∨ ((n1 : Int) == 0) = false) := by
    by_cases h : n1 = 0
    · exact .inl ⟨h, HM.out h⟩
    · exact .inr (by simp; omega)
  obtain ⟨r1, r2, r3, r4, r5⟩ := HRU.out
  have HC2 : Hid ((v3 = 2 ∧ f3 = F ∧ n3 = 0 ∧ u = 2) ∨ (v3 = 1 ∧ f3 = F % 8 ∧ n3 = 0 ∧ u = 1)) := by
    rcases HS.out with ⟨h, hu⟩ | ⟨h, hu⟩
    · simp only [Prod.mk.injEq] at h; exact .inl ⟨h.1, h.2.1, h.2.2, hu⟩
    · simp only [Prod.mk.injEq] at h; exact .inr ⟨h.1, h.2.1, h.2.2, hu⟩
  clear HS HM r1 r2 r3 r4 r5 HRU
  rcases HN.out with ⟨rfl, rfl, rfl, hand⟩ | hn1
  · rcases HC2.out with ⟨rfl, rfl, rfl, rfl⟩ | ⟨rfl, hf3, rfl, rfl⟩
    · clear HC2 HN
      go_wp2_with fail
      go_ret
      exact ⟨rfl, HB9.out⟩
    · clear HC2 HN
      have m1 : (F : Int) % 8 = (f3 : Int) := by rw [hf3]; omega
      have m2 : (F : Int).tmod 8 = (f3 : Int) := by rw [Int.tmod_eq_emod_of_nonneg (by omega)]; exact m1
      by_cases hk : f3 = F
      · clear hf3
        subst hk
        go_wp2_with fail
        go_ret
        exact ⟨rfl, HB9.out⟩
      · have kf : ((f3 : Int) == (F : Int)) = false := by simp; omega
        clear hf3
        go_wp2_with fail
        go_ret
        exact ⟨rfl, HB9.out⟩
  · rcases HC2.out with ⟨rfl, rfl, rfl, rfl⟩ | ⟨rfl, hf3, rfl, rfl⟩
    · clear HC2 HN
      go_wp2_with fail
      go_ret
      exact ⟨rfl, HB9.out⟩
    · clear HC2 HN
      have m1 : (F : Int) % 8 = (f3 : Int) := by rw [hf3]; omega
      have m2 : (F : Int).tmod 8 = (f3 : Int) := by rw [Int.tmod_eq_emod_of_nonneg (by omega)]; exact m1
      by_cases hk : f3 = F
      · clear hf3
        subst hk
        go_wp2_with fail
        go_ret
        exact ⟨rfl, HB9.out⟩
      · have kf : ((f3 : Int) == (F : Int)) = false := by simp; omega
        clear hf3
        go_wp2_with fail
        go_ret
        exact ⟨rfl, HB9.out⟩
end Go.Proofs.YtfnkgldfgciplaaDoor
