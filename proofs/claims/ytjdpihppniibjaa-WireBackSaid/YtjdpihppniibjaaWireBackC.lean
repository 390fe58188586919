import Derived.Test.YtjdpihppniibjaaWireRows
/-
  The walk of the law WireBack, over what is asked of the program (stage 8).
-/
namespace Go.Proofs.Ytjdpihppniibjaa
open Go.RowKit
set_option linter.unusedVariables false
set_option linter.unusedSimpArgs false

set_option maxRecDepth 100000 in
set_option maxHeartbeats 8000000 in
theorem wireBack_core (hR : RightW) (hE : EncW) (hD : DecW) (a0 a1 a2 a3 a4 : Int) (t : ByteArray) (M : Mg) (w : World)
    (h0 : (Lit.int .i64 a0).wf = true) (h1 : (Lit.int .i64 a1).wf = true) (h2 : (Lit.int .i64 a2).wf = true) (h3 : (Lit.int .i64 a3).wf = true) (h4 : (Lit.int .i64 a4).wf = true)
    (ht : t.size ≤ 140737488351232) (hM : WfM M) (zM : M.body.size ≤ 140737488355328) :
    Calls Try.prog 4 #[.agg #[.int .i64 a0, .int .i64 a1, .int .i64 a2, .int .i64 a3, .int .i64 a4], .string t, mgV M] w fun e w' => e = .returned (.bool true) ∧ Below w.heap.size w w' := by
  unfold mgV
  have qw := awake8_any hR hE hD
  have qa := fun v W => message_any v a0 a1 a2 a3 a4 t (by omega) h0 h1 h2 h3 h4 W
  have QA := Lib.hid qa; clear qa
  have HE := Lib.hid hE
  have HR := Lib.hid hR
  have HD := Lib.hid hD
  have HM := Lib.hid hM
  have ZM := Lib.hid zM
  clear hR hE hD hM zM h0 h1 h2 h3 h4 ht
  have hb0 : Below w.heap.size w ((w.alloc (.cells #[.int .i64 a0, .int .i64 a1, .int .i64 a2, .int .i64 a3, .int .i64 a4] 24)).alloc (.cells #[.int .i64 M.kind, .int .i64 M.frm, .int .i64 M.to, .int .i64 M.seq, .string M.body, .int .i64 M.trace] 23)) := ((Below.refl _ _).alloc (Nat.le_refl _) _).alloc (by simp) _
  have ha : A5Blk ((w.alloc (.cells #[.int .i64 a0, .int .i64 a1, .int .i64 a2, .int .i64 a3, .int .i64 a4] 24)).alloc (.cells #[.int .i64 M.kind, .int .i64 M.frm, .int .i64 M.to, .int .i64 M.seq, .string M.body, .int .i64 M.trace] 23)) w.heap.size a0 a1 a2 a3 a4 := (A5Blk.new w a0 a1 a2 a3 a4).below ((Below.refl _ _).alloc (Nat.le_refl _) _)
  have hx : MgBlk ((w.alloc (.cells #[.int .i64 a0, .int .i64 a1, .int .i64 a2, .int .i64 a3, .int .i64 a4] 24)).alloc (.cells #[.int .i64 M.kind, .int .i64 M.frm, .int .i64 M.to, .int .i64 M.seq, .string M.body, .int .i64 M.trace] 23)) (w.heap.size + 1) M := by
    have h := MgBlk.new (w.alloc (.cells #[.int .i64 a0, .int .i64 a1, .int .i64 a2, .int .i64 a3, .int .i64 a4] 24)) M
    rw [World.size_alloc] at h
    exact h
  obtain ⟨W0, hW0⟩ : ∃ W, (w.alloc (.cells #[.int .i64 a0, .int .i64 a1, .int .i64 a2, .int .i64 a3, .int .i64 a4] 24)).alloc (.cells #[.int .i64 M.kind, .int .i64 M.frm, .int .i64 M.to, .int .i64 M.seq, .string M.body, .int .i64 M.trace] 23) = W := ⟨_, rfl⟩
  rw [hW0] at hb0 ha hx
  have H_hb0 := Lib.hid hb0; clear hb0
  have H_ha := Lib.hid ha; clear ha
  have H_hx := Lib.hid hx; clear hx
  go_enter Try.func4, Try.ntmps4
  go_wp2_with fail
  ((with_reducible refine (qw _).mono ?_); rintro e W1 ⟨rfl, hb⟩)
  clear hW0 qw
  have hb1 := bch H_hb0.out hb
  have ha := H_ha.out.below hb
  have hx := H_hx.out.below hb
  clear hb H_ha H_hx H_hb0
  have H_hb1 := Lib.hid hb1; clear hb1
  have H_ha := Lib.hid ha; clear ha
  have H_hx := Lib.hid hx; clear hx
  go_wp2_with fail
  go_loopw [8] (fun i wy => ∃ (k : Nat) (wq : World), wq = wy ∧ 1 ≤ k ∧ k ≤ 3 ∧ i = .int .i64 k ∧ Below W1.heap.size W1 wq) (fun i _ => 3 - (intOf i).toNat)
  case atStart => exact ⟨1, _, rfl, by omega, by omega, rfl, Below.refl _ _⟩
  case round =>
    obtain ⟨k, wq, rfl, hk1, hk3, rfl, hby⟩ := hrel
    have ha := H_ha.out.below hby
    have hx := H_hx.out.below hby
    have h_ha := H_ha
    clear H_ha H_hx
    have H_ha1 := h_ha; clear h_ha
    have H_ha := Lib.hid ha; clear ha
    have H_hx := Lib.hid hx; clear hx
    have H_hby := Lib.hid hby; clear hby
    by_cases hlt : k ≤ 2
    · have hv : (k : Int) = 1 ∨ (k : Int) = 2 := by omega
      obtain ⟨A, hA⟩ : ∃ A, msgR k a0 a1 a2 a3 a4 t = A := ⟨_, rfl⟩
      have qa := QA.out k
      have ra := msgR_right hv a0 a1 a2 a3 a4 t
      have za := msgR_size k a0 a1 a2 a3 a4 t
      rw [hA] at qa ra za
      unfold mgV at qa
      clear hA hv
      have HMW : Hid (∀ m, m = A ∨ m = M → WfM m ∧ m.body.size ≤ 140737488355328) := by
        rintro m (rfl | rfl)
        · exact ⟨ra.wf, by omega⟩
        · exact ⟨HM.out, ZM.out⟩
      clear ra za
      go_upto_region 5 with fail
      refine wp_region_noPanic ?_
      refine wp_region_held_drew (S := fun W => Below wq.heap.size wq W) (by kernel_rfl) ((Below.refl _ _).drew) (fun hHeld => ?_)
      refine wpAnyH_take (i := 0) (v := ?_) rfl (by kernel_rfl) (by kernel_rfl) (by kernel_rfl) (fun _ _ _ h => h) (Or.inl ⟨by rfl, ?_⟩) (by assumption) ?_
      rotate_left
      · (intro w hSw; (try dsimp only at hSw); go_simp; (try with_reducible rfl))
      simp only [Act.put, List.getElem_toArray, List.getElem_cons_zero, List.setIfInBounds_toArray, List.set_cons_zero, List.set_cons_succ]
      refine wpAnyH_take (i := 1) (v := ?_) rfl (by kernel_rfl) (by kernel_rfl) (by kernel_rfl) (fun _ _ _ h => h) (Or.inl ⟨by rfl, ?_⟩) (by assumption) ?_
      rotate_left
      · (intro w hSw; (try dsimp only at hSw); obtain ⟨c0, c1, c2, c3, c4⟩ := (H_ha.out.below hSw).cells; go_simp; (try with_reducible rfl))
      simp only [Act.put, List.getElem_toArray, List.getElem_cons_zero, List.getElem_cons_succ, List.setIfInBounds_toArray, List.set_cons_zero, List.set_cons_succ]
      refine wpAnyH_take (i := 2) (v := ?_) rfl (by kernel_rfl) (by kernel_rfl) (by kernel_rfl) (fun _ _ _ h => h) (Or.inl ⟨by rfl, ?_⟩) (by assumption) ?_
      rotate_left
      · (intro w hSw; (try dsimp only at hSw); go_simp; (try with_reducible rfl))
      simp only [Act.put, List.getElem_toArray, List.getElem_cons_zero, List.getElem_cons_succ, List.setIfInBounds_toArray, List.set_cons_zero, List.set_cons_succ]
      refine wpAnyH_take (i := 4) (v := ?_) rfl (by kernel_rfl) (by kernel_rfl) (by kernel_rfl) (fun _ _ _ h => h) (Or.inl ⟨by rfl, ?_⟩) (by assumption) ?_
      rotate_left
      · (intro w hSw; (try dsimp only at hSw); obtain ⟨c0, c1, c2, c3, c4, c5⟩ := (H_hx.out.below hSw).cells; go_simp; (try with_reducible rfl))
      simp only [Act.put, List.getElem_toArray, List.getElem_cons_zero, List.getElem_cons_succ, List.setIfInBounds_toArray, List.set_cons_zero, List.set_cons_succ]
      refine wpAnyH_take (i := 7) (v := ?_) rfl (by kernel_rfl) (by kernel_rfl) (by kernel_rfl) (fun _ _ _ h => h) (Or.inl ⟨by rfl, ?_⟩) (by assumption) ?_
      rotate_left
      · (intro w hSw; (try dsimp only at hSw); go_simp; (try with_reducible rfl))
      simp only [Act.put, List.getElem_toArray, List.getElem_cons_zero, List.getElem_cons_succ, List.setIfInBounds_toArray, List.set_cons_zero, List.set_cons_succ]
      refine wpAnyH_ready (rs := [3]) (by kernel_rfl) (by simp) ?_
      refine AllReadyH.cons rfl (fun K hK => ?_) AllReadyH.nil
      rw [if_pos (by rfl)]
      go_simp
      ((with_reducible refine (qa _).mono ?_); rintro e w' ⟨rfl, bq⟩)
      refine hK.out _ _ (bch hHeld bq) (fun hHeld2 => ?_)
      clear hK K hHeld
      have hHeld := hHeld2; clear hHeld2
      refine wpAnyH_ready (rs := [5]) (by kernel_rfl) (by simp) ?_
      refine AllReadyH.cons rfl (fun K hK => ?_) AllReadyH.nil
      rw [if_pos (by rfl)]
      go_simp
      have hms := Ms2.new w' A M
      refine hK.out _ _ (hHeld.alloc hHeld.size _) (fun hHeld2 => ?_)
      clear hK K hHeld
      have hHeld := hHeld2; clear hHeld2
      refine wpAnyH_take (i := 6) (v := ?_) rfl (by kernel_rfl) (by kernel_rfl) (by kernel_rfl) (fun _ _ _ h => h) (Or.inl ⟨by rfl, ?_⟩) (by assumption) ?_
      rotate_left
      · (intro w hSw; (try dsimp only at hSw); go_simp; (try with_reducible rfl))
      simp only [Act.put, List.getElem_toArray, List.getElem_cons_zero, List.getElem_cons_succ, List.setIfInBounds_toArray, List.set_cons_zero, List.set_cons_succ]
      refine wpAnyH_done (by kernel_rfl) ?_ _
      refine NoPanic.normal ?_
      obtain ⟨V4, hV4⟩ : ∃ W, w'.alloc (.cells #[.int .i64 A.kind, .int .i64 A.frm, .int .i64 A.to, .int .i64 A.seq, .string A.body, .int .i64 A.trace, .int .i64 M.kind, .int .i64 M.frm, .int .i64 M.to, .int .i64 M.seq, .string M.body, .int .i64 M.trace] 23) = W := ⟨_, rfl⟩
      rw [hV4] at hms hHeld ⊢
      clear hV4
      generalize w'.heap.size = g at *
      clear bq
      have hb4 := bch H_hby.out hHeld
      clear hHeld qa
      have H_hms := Lib.hid hms; clear hms
      have H_hb4 := Lib.hid hb4; clear hb4
      go_wp2_with fail
      go_loopw [28] (fun i wy => ∃ (j : Nat) (wq : World), wq = wy ∧ j ≤ 2 ∧ i = .int .i64 j ∧ Below V4.heap.size V4 wq) (fun i _ => 2 - (intOf i).toNat)
      case atStart => exact ⟨0, _, rfl, by omega, rfl, Below.refl _ _⟩
      case round =>
        obtain ⟨j, wp, rfl, hj2, rfl, hbp⟩ := hrel
        have H_hbp := Lib.hid hbp; clear hbp
        by_cases hj : j < 2
        · obtain ⟨m, hm, e0, e1, e2, e3, e4, e5⟩ := (H_hms.out.below H_hbp.out).at hj
          obtain ⟨wm, zm⟩ := HMW.out m hm
          clear hm
          have WM := Lib.hid wm; clear wm
          have hj0 : (0 : Int) ≤ (j : Int) := by omega
          have hj1 : (j : Int) < (2 : Int) := by omega
          go_upto_region 8 with fail
          clear e0 e1 e2 e3 e4 e5
          have hb5 := H_hbp.out.alloc H_hbp.out.size (.cells #[.int .i64 m.kind, .int .i64 m.frm, .int .i64 m.to, .int .i64 m.seq, .string m.body, .int .i64 m.trace] 23)
          have hm5 := MgBlk.new wp m
          obtain ⟨V5, hV5⟩ : ∃ W, wp.alloc (.cells #[.int .i64 m.kind, .int .i64 m.frm, .int .i64 m.to, .int .i64 m.seq, .string m.body, .int .i64 m.trace] 23) = W := ⟨_, rfl⟩
          rw [hV5] at hb5 hm5 ⊢
          clear hV5
          generalize wp.heap.size = g5 at *
          clear H_hbp
          have H_hb5 := Lib.hid hb5; clear hb5
          have H_hm5 := Lib.hid hm5; clear hm5
          have hkw : (Lit.int .i64 (k : Int)).wf = true := wf_small (by omega) (by omega)
          cases hr : rightM k m with
          | true =>
            have hrm := rightM_iff.1 hr
            obtain ⟨fr1, fr2, fr3⟩ := fields_right hrm
            have hdec := w_back hr
            rw [Int.toNat_natCast] at hdec
            have eS := EncW.at (S := bs (UInt8.ofNat k :: encL (fieldsM m))) HE.out rfl (wE_ok hr) rfl zm hkw WM.out
            have eD := DecW.at (s := bs (UInt8.ofNat k :: encL (fieldsM m))) HD.out (bs_data _) hdec rfl (by rw [bs_size, List.length_cons]; omega)
            have heq := eqMg m m
            rw [eqM_self] at heq
            unfold mgV at eS eD heq
            have hgu := guardMg
            generalize bs (UInt8.ofNat k :: encL (fieldsM m)) = S at *
            clear hr hrm fr1 fr2 fr3 hdec
            obtain ⟨c0, c1, c2, c3, c4, c5⟩ := H_hm5.out.cells
            go_wp2_with fail
            ((with_reducible refine (eS _).mono ?_); rintro e U1 ⟨rfl, b1⟩)
            clear c0 c1 c2 c3 c4 c5
            have H_b1 := Lib.hid b1; clear b1
            go_wp2_with fail
            ((with_reducible refine (eD _).mono ?_); rintro e U2 ⟨rfl, b2⟩)
            go_upto_region 13 with fail
            have hb6 := (bch (bch H_hb5.out H_b1.out) b2).alloc (bch (bch H_hb5.out H_b1.out) b2).size (.cells #[.int .i64 m.kind, .int .i64 m.frm, .int .i64 m.to, .int .i64 m.seq, .string m.body, .int .i64 m.trace] 23)
            have hm6 := ((H_hm5.out.below H_b1.out).below b2).below ((Below.refl _ _).alloc (Nat.le_refl _) (.cells #[.int .i64 m.kind, .int .i64 m.frm, .int .i64 m.to, .int .i64 m.seq, .string m.body, .int .i64 m.trace] 23))
            have hn6 := MgBlk.new U2 m
            clear b2
            obtain ⟨V6, hV6⟩ : ∃ W, U2.alloc (.cells #[.int .i64 m.kind, .int .i64 m.frm, .int .i64 m.to, .int .i64 m.seq, .string m.body, .int .i64 m.trace] 23) = W := ⟨_, rfl⟩
            rw [hV6] at hb6 hm6 hn6 ⊢
            clear hV6
            obtain ⟨c0, c1, c2, c3, c4, c5⟩ := hm6.cells
            obtain ⟨d0, d1, d2, d3, d4, d5⟩ := hn6.cells
            have H_hb6 := Lib.hid hb6; clear hb6
            go_wp2_with fail
            go_roundw
            case rel => exact ⟨j + 1, _, rfl, by omega, by go_num, H_hb6.out⟩
            case measure => simp [intOf]; omega
          | false =>
            obtain ⟨r2, hr2⟩ : ∃ r2, rightM 2 m = r2 := ⟨_, rfl⟩
            have eS := EncW.at (S := ⟨#[]⟩) HE.out rfl (wE_no hr) rfl zm hkw WM.out
            have eR := RightW.at HR.out rfl hr zm hkw WM.out
            have eR2 := RightW.at HR.out rfl hr2 zm (by decide) WM.out
            unfold mgV at eS eR eR2
            unfold noE at eS
            rw [hr2] at eS
            clear hr hr2
            obtain ⟨c0, c1, c2, c3, c4, c5⟩ := H_hm5.out.cells
            by_cases hk : k = 1
            · have kb : ((k : Int) == 1) = true := by simp [hk]
              cases r2
              · have hn : (if (k : Int) = 1 ∧ false = true then 22 else 1 : Nat) = 1 := by simp
                rw [hn] at eS
                clear hn hk
                go_wp2_with fail
                ((with_reducible refine (eS _).mono ?_); rintro e U1 ⟨rfl, b1⟩)
                clear c0 c1 c2 c3 c4 c5
                obtain ⟨c0, c1, c2, c3, c4, c5⟩ := (H_hm5.out.below b1).cells
                have H_b1 := Lib.hid b1; clear b1
                go_wp2_with fail
                ((with_reducible refine (eR _).mono ?_); rintro e U2 ⟨rfl, b2⟩)
                clear c0 c1 c2 c3 c4 c5
                obtain ⟨c0, c1, c2, c3, c4, c5⟩ := ((H_hm5.out.below H_b1.out).below b2).cells
                have H_b2 := Lib.hid b2; clear b2
                go_wp2_with fail
                ((with_reducible refine (eR2 _).mono ?_); rintro e U3 ⟨rfl, b3⟩)
                clear c0 c1 c2 c3 c4 c5
                have H_b3 := Lib.hid b3; clear b3
                go_wp2_with fail
                go_roundw
                case rel => exact ⟨j + 1, _, rfl, by omega, by go_num, bch (bch (bch H_hb5.out H_b1.out) H_b2.out) H_b3.out⟩
                case measure => simp [intOf]; omega
              · have hn : (if (k : Int) = 1 ∧ true = true then 22 else 1 : Nat) = 22 := by simp [hk]
                rw [hn] at eS
                clear hn hk
                go_wp2_with fail
                ((with_reducible refine (eS _).mono ?_); rintro e U1 ⟨rfl, b1⟩)
                clear c0 c1 c2 c3 c4 c5
                obtain ⟨c0, c1, c2, c3, c4, c5⟩ := (H_hm5.out.below b1).cells
                have H_b1 := Lib.hid b1; clear b1
                go_wp2_with fail
                ((with_reducible refine (eR _).mono ?_); rintro e U2 ⟨rfl, b2⟩)
                clear c0 c1 c2 c3 c4 c5
                obtain ⟨c0, c1, c2, c3, c4, c5⟩ := ((H_hm5.out.below H_b1.out).below b2).cells
                have H_b2 := Lib.hid b2; clear b2
                go_wp2_with fail
                ((with_reducible refine (eR2 _).mono ?_); rintro e U3 ⟨rfl, b3⟩)
                clear c0 c1 c2 c3 c4 c5
                have H_b3 := Lib.hid b3; clear b3
                go_wp2_with fail
                go_roundw
                case rel => exact ⟨j + 1, _, rfl, by omega, by go_num, bch (bch (bch H_hb5.out H_b1.out) H_b2.out) H_b3.out⟩
                case measure => simp [intOf]; omega
            · have kb : ((k : Int) == 1) = false := by simp; omega
              have hn : (if (k : Int) = 1 ∧ r2 = true then 22 else 1 : Nat) = 1 := by rw [if_neg (by omega)]
              rw [hn] at eS
              clear hn hk
              go_wp2_with fail
              ((with_reducible refine (eS _).mono ?_); rintro e U1 ⟨rfl, b1⟩)
              clear c0 c1 c2 c3 c4 c5
              obtain ⟨c0, c1, c2, c3, c4, c5⟩ := (H_hm5.out.below b1).cells
              have H_b1 := Lib.hid b1; clear b1
              go_wp2_with fail
              ((with_reducible refine (eR _).mono ?_); rintro e U2 ⟨rfl, b2⟩)
              clear c0 c1 c2 c3 c4 c5
              obtain ⟨c0, c1, c2, c3, c4, c5⟩ := ((H_hm5.out.below H_b1.out).below b2).cells
              have H_b2 := Lib.hid b2; clear b2
              go_wp2_with fail
              go_roundw
              case rel => exact ⟨j + 1, _, rfl, by omega, by go_num, bch (bch H_hb5.out H_b1.out) H_b2.out⟩
              case measure => simp [intOf]; omega
        · have hje : j = 2 := by omega
          subst hje
          have H4 := H_hb4
          go_wp2_with fail
          go_roundw
          case rel => exact ⟨k + 1, _, rfl, by omega, by omega, by go_num, bch H4.out H_hbp.out⟩
          case measure => simp [intOf]; omega
    · have hk : k = 3 := by omega
      subst hk
      go_wp2_with fail
      go_ret
      exact ⟨rfl, bch H_hb1.out H_hby.out⟩
end Go.Proofs.Ytjdpihppniibjaa
