import Derived.Test.YtjdpihppniibjaaWireRows
/-
  The walk of the law WireForth, over what is asked of the program (stage 8).
-/
namespace Go.Proofs.Ytjdpihppniibjaa
open Go.RowKit
set_option linter.unusedVariables false
set_option linter.unusedSimpArgs false

set_option maxRecDepth 100000 in
set_option maxHeartbeats 8000000 in
theorem wireForth_core (hR : RightW) (hE : EncW) (hD : DecW) (s : ByteArray) (a0 a1 a2 a3 a4 : Int) (t : ByteArray) (at0 : Int) (more : ByteArray) (w : World)
    (hs : s.size ≤ 140737488351232) (h0 : (Lit.int .i64 a0).wf = true) (h1 : (Lit.int .i64 a1).wf = true) (h2 : (Lit.int .i64 a2).wf = true) (h3 : (Lit.int .i64 a3).wf = true) (h4 : (Lit.int .i64 a4).wf = true)
    (ht : t.size ≤ 140737488351232) (hat : (Lit.int .i64 at0).wf = true) (hmo : more.size ≤ 140737488351232) :
    Calls Try.prog 5 #[.string s, .agg #[.int .i64 a0, .int .i64 a1, .int .i64 a2, .int .i64 a3, .int .i64 a4], .string t, .int .i64 at0, .string more] w fun e w' => e = .returned (.bool true) ∧ Below w.heap.size w w' := by
  have qw := awake8_any hR hE hD
  have qa := fun v W => message_any v a0 a1 a2 a3 a4 t (by omega) h0 h1 h2 h3 h4 W
  have QA := Lib.hid qa; clear qa
  have HE := Lib.hid hE
  have HR := Lib.hid hR
  have HD := Lib.hid hD
  have HAT := Lib.hid hat
  have HS := Lib.hid hs
  clear hR hE hD h0 h1 h2 h3 h4 ht hat hs
  have hb0 : Below w.heap.size w (w.alloc (.cells #[.int .i64 a0, .int .i64 a1, .int .i64 a2, .int .i64 a3, .int .i64 a4] 24)) := (Below.refl _ _).alloc (Nat.le_refl _) _
  have ha : A5Blk (w.alloc (.cells #[.int .i64 a0, .int .i64 a1, .int .i64 a2, .int .i64 a3, .int .i64 a4] 24)) w.heap.size a0 a1 a2 a3 a4 := A5Blk.new w a0 a1 a2 a3 a4
  obtain ⟨W0, hW0⟩ : ∃ W, w.alloc (.cells #[.int .i64 a0, .int .i64 a1, .int .i64 a2, .int .i64 a3, .int .i64 a4] 24) = W := ⟨_, rfl⟩
  rw [hW0] at hb0 ha
  have H_hb0 := Lib.hid hb0; clear hb0
  have H_ha := Lib.hid ha; clear ha
  go_enter Try.func5, Try.ntmps5
  go_wp2_with fail
  ((with_reducible refine (qw _).mono ?_); rintro e W1 ⟨rfl, hb⟩)
  clear hW0 qw
  have hb1 := bch H_hb0.out hb
  have ha := H_ha.out.below hb
  clear hb H_ha H_hb0
  have H_hb1 := Lib.hid hb1; clear hb1
  have H_ha := Lib.hid ha; clear ha
  go_wp2_with fail
  go_loopw [12] (fun i wy => ∃ (k : Nat) (wq : World), wq = wy ∧ 1 ≤ k ∧ k ≤ 3 ∧ i = .int .i64 k ∧ Below W1.heap.size W1 wq) (fun i _ => 3 - (intOf i).toNat)
  case atStart => exact ⟨1, _, rfl, by omega, by omega, rfl, Below.refl _ _⟩
  case round =>
    obtain ⟨k, wq, rfl, hk1, hk3, rfl, hby⟩ := hrel
    obtain ⟨c0, c1, c2, c3, c4⟩ := (H_ha.out.below hby).cells
    have H_hby := Lib.hid hby; clear hby
    by_cases hlt : k ≤ 2
    · have hv : (k : Int) = 1 ∨ (k : Int) = 2 := by omega
      obtain ⟨A, hA⟩ : ∃ A, msgR k a0 a1 a2 a3 a4 t = A := ⟨_, rfl⟩
      have qa := QA.out k
      have ra := msgR_right hv a0 a1 a2 a3 a4 t
      have za := msgR_size k a0 a1 a2 a3 a4 t
      rw [hA] at qa ra za
      have eS := EncW.at HE.out rfl (wE_ok (rightM_iff.2 ra)) rfl (by omega) (wf_small (by omega) (by omega)) ra.wf
      unfold mgV at qa eS
      have zL := (fields_right ra).2.2
      have zS : (bs (UInt8.ofNat (k : Int).toNat :: encL (fieldsM A))).size ≤ 6031 := by rw [bs_size, List.length_cons]; omega
      generalize bs (UInt8.ofNat (k : Int).toNat :: encL (fieldsM A)) = S at *
      have hq := pickW_nat at0 ((S.size : Int) + 1) (by omega) (by omega) HAT.out
      have kq := pickN_lt at0 ((S.size : Int) + 1) (by omega)
      generalize pickN at0 ((S.size : Int) + 1) = p at hq kq
      have hpS : p ≤ S.size := by omega
      obtain ⟨q, hqd⟩ : ∃ q, min (p + more.size) S.size = q := ⟨_, rfl⟩
      have hqS : q ≤ S.size := by omega
      obtain ⟨T1, hT1⟩ : ∃ T, S.extract 0 p = T := ⟨_, rfl⟩
      obtain ⟨T2, hT2⟩ : ∃ T, S.extract q S.size = T := ⟨_, rfl⟩
      obtain ⟨T3, hT3⟩ : ∃ T, S.extract p S.size = T := ⟨_, rfl⟩
      have z1 : T1.size = p := by rw [← hT1, ByteArray.size_extract]; omega
      have z2 : T2.size = S.size - q := by rw [← hT2, ByteArray.size_extract]; omega
      have z3 : T3.size = S.size - p := by rw [← hT3, ByteArray.size_extract]; omega
      obtain ⟨U1', hU1⟩ : ∃ T, T1 ++ more = T := ⟨_, rfl⟩
      obtain ⟨X2, hX2⟩ : ∃ T, U1' ++ T2 = T := ⟨_, rfl⟩
      obtain ⟨X3, hX3⟩ : ∃ T, U1' ++ T3 = T := ⟨_, rfl⟩
      have zU : U1'.size = T1.size + more.size := by rw [← hU1, ByteArray.size_append]
      have zX2 : X2.size = U1'.size + T2.size := by rw [← hX2, ByteArray.size_append]
      have zX3 : X3.size = U1'.size + T3.size := by rw [← hX3, ByteArray.size_append]
      have HTX : Hid (∀ m : ByteArray, m = s ∨ m = X2 ∨ m = X3 → m.size ≤ 140737488365000) := by
        have := HS.out
        rintro m (rfl | rfl | rfl) <;> omega
      have s1 := fun W => slice_to hT1 hpS W
      have s2 := fun W => slice_from hT2 hqS W
      have s3 := fun W => slice_from hT3 hpS W
      have d1 : ∀ W : World, (Op.stringOp .add T1 more).run Try.prog W = .ok (.string U1') W := fun W => by rw [← hU1]; exact str_add (by omega) W
      have d2 : ∀ W : World, (Op.stringOp .add U1' T2).run Try.prog W = .ok (.string X2) W := fun W => by rw [← hX2]; exact str_add (by omega) W
      have d3 : ∀ W : World, (Op.stringOp .add U1' T3).run Try.prog W = .ok (.string X3) W := fun W => by rw [← hX3]; exact str_add (by omega) W
      have m1 : (if (S.size : Int) < (p : Int) + (more.size : Int) then (S.size : Int) else (p : Int) + (more.size : Int)) = (q : Int) := by split <;> omega
      have m2 : min ((p : Int) + (more.size : Int)) (S.size : Int) = (q : Int) := by omega
      have p0 : (0 : Int) ≤ (p : Int) := by omega
      have p1 : (p : Int) ≤ (S.size : Int) := by omega
      have q0 : (0 : Int) ≤ (q : Int) := by omega
      have q1 : (q : Int) ≤ (S.size : Int) := by omega
      have n1 : ((p : Int) + (more.size : Int)) ≤ 140737488365000 := by omega
      have n2 : IntKind.i64.wrap ((p : Int) + (more.size : Int)) = (p : Int) + (more.size : Int) := IntWalk.i64_in _ (by omega)
      have n3 : (S.size : Int) ≤ 6031 := by omega
      clear hA hv ra za zL hqd z1 z2 z3 zU zX2 zX3 hU1 hX2 hX3 kq hpS hqS zS
      go_wp2_with fail
      ((with_reducible refine (qa _).mono ?_); rintro e V1 ⟨rfl, b1⟩)
      clear c0 c1 c2 c3 c4
      go_wp2_with fail
      ((with_reducible refine (eS _).mono ?_); rintro e V2 ⟨rfl, b2⟩)
      have hb3 := bch (bch H_hby.out b1) b2
      clear b1 b2 qa eS
      have H_hb3 := Lib.hid hb3; clear hb3
      go_wp2_with fail
      ((with_reducible refine (hq _).mono ?_); rintro e U1 ⟨rfl, rfl⟩)
      clear hq
      go_upto_region 7 with fail
      refine wp_region_noPanic ?_
      refine wp_region_held_drew (S := fun W => Below V2.heap.size V2 W) (by kernel_rfl) ((Below.refl _ _).drew) (fun hHeld => ?_)
      refine wpAnyH_take (i := 0) (v := ?_) rfl (by kernel_rfl) (by kernel_rfl) (by kernel_rfl) (fun _ _ _ h => h) (Or.inl ⟨by rfl, ?_⟩) (by assumption) ?_
      rotate_left
      · (intro w hSw; (try dsimp only at hSw); go_simp; (try with_reducible rfl))
      simp only [Act.put, List.getElem_toArray, List.getElem_cons_zero, List.setIfInBounds_toArray, List.set_cons_zero, List.set_cons_succ]
      refine wpAnyH_take (i := 1) (v := ?_) rfl (by kernel_rfl) (by kernel_rfl) (by kernel_rfl) (fun _ _ _ h => h) (Or.inl ⟨by rfl, ?_⟩) (by assumption) ?_
      rotate_left
      · (intro w hSw; (try dsimp only at hSw); go_simp; (try with_reducible rfl))
      simp only [Act.put, List.getElem_toArray, List.getElem_cons_zero, List.getElem_cons_succ, List.setIfInBounds_toArray, List.set_cons_zero, List.set_cons_succ]
      refine wpAnyH_take (i := 2) (v := ?_) rfl (by kernel_rfl) (by kernel_rfl) (by kernel_rfl) (fun _ _ _ h => h) (Or.inl ⟨by rfl, ?_⟩) (by assumption) ?_
      rotate_left
      · (intro w hSw; (try dsimp only at hSw); go_simp; (try with_reducible rfl))
      simp only [Act.put, List.getElem_toArray, List.getElem_cons_zero, List.getElem_cons_succ, List.setIfInBounds_toArray, List.set_cons_zero, List.set_cons_succ]
      refine wpAnyH_take (i := 3) (v := ?_) rfl (by kernel_rfl) (by kernel_rfl) (by kernel_rfl) (fun _ _ _ h => h) (Or.inl ⟨by rfl, ?_⟩) (by assumption) ?_
      rotate_left
      · (intro w hSw; (try dsimp only at hSw); go_simp; (try with_reducible rfl))
      simp only [Act.put, List.getElem_toArray, List.getElem_cons_zero, List.getElem_cons_succ, List.setIfInBounds_toArray, List.set_cons_zero, List.set_cons_succ]
      refine wpAnyH_take (i := 4) (v := ?_) rfl (by kernel_rfl) (by kernel_rfl) (by kernel_rfl) (fun _ _ _ h => h) (Or.inl ⟨by rfl, ?_⟩) (by assumption) ?_
      rotate_left
      · (intro w hSw; (try dsimp only at hSw); go_simp; (try with_reducible rfl))
      simp only [Act.put, List.getElem_toArray, List.getElem_cons_zero, List.getElem_cons_succ, List.setIfInBounds_toArray, List.set_cons_zero, List.set_cons_succ]
      refine wpAnyH_take (i := 5) (v := ?_) rfl (by kernel_rfl) (by kernel_rfl) (by kernel_rfl) (fun _ _ _ h => h) (Or.inl ⟨by rfl, ?_⟩) (by assumption) ?_
      rotate_left
      · (intro w hSw; (try dsimp only at hSw); go_simp; (try with_reducible rfl))
      simp only [Act.put, List.getElem_toArray, List.getElem_cons_zero, List.getElem_cons_succ, List.setIfInBounds_toArray, List.set_cons_zero, List.set_cons_succ]
      refine wpAnyH_take (i := 6) (v := ?_) rfl (by kernel_rfl) (by kernel_rfl) (by kernel_rfl) (fun _ _ _ h => h) (Or.inl ⟨by rfl, ?_⟩) (by assumption) ?_
      rotate_left
      · (intro w hSw; (try dsimp only at hSw); go_simp; (try with_reducible rfl))
      simp only [Act.put, List.getElem_toArray, List.getElem_cons_zero, List.getElem_cons_succ, List.setIfInBounds_toArray, List.set_cons_zero, List.set_cons_succ]
      refine wpAnyH_take (i := 7) (v := ?_) rfl (by kernel_rfl) (by kernel_rfl) (by kernel_rfl) (fun _ _ _ h => h) (Or.inl ⟨by rfl, ?_⟩) (by assumption) ?_
      rotate_left
      · (intro w hSw; (try dsimp only at hSw); go_simp; (try with_reducible rfl))
      simp only [Act.put, List.getElem_toArray, List.getElem_cons_zero, List.getElem_cons_succ, List.setIfInBounds_toArray, List.set_cons_zero, List.set_cons_succ]
      refine wpAnyH_take (i := 8) (v := ?_) rfl (by kernel_rfl) (by kernel_rfl) (by kernel_rfl) (fun _ _ _ h => h) (Or.inl ⟨by rfl, ?_⟩) (by assumption) ?_
      rotate_left
      · (intro w hSw; (try dsimp only at hSw); go_simp; (try with_reducible rfl))
      simp only [Act.put, List.getElem_toArray, List.getElem_cons_zero, List.getElem_cons_succ, List.setIfInBounds_toArray, List.set_cons_zero, List.set_cons_succ]
      refine wpAnyH_take (i := 9) (v := ?_) rfl (by kernel_rfl) (by kernel_rfl) (by kernel_rfl) (fun _ _ _ h => h) (Or.inl ⟨by rfl, ?_⟩) (by assumption) ?_
      rotate_left
      · (intro w hSw; (try dsimp only at hSw); go_simp; (try with_reducible rfl))
      simp only [Act.put, List.getElem_toArray, List.getElem_cons_zero, List.getElem_cons_succ, List.setIfInBounds_toArray, List.set_cons_zero, List.set_cons_succ]
      refine wpAnyH_take (i := 10) (v := ?_) rfl (by kernel_rfl) (by kernel_rfl) (by kernel_rfl) (fun _ _ _ h => h) (Or.inl ⟨by rfl, ?_⟩) (by assumption) ?_
      rotate_left
      · (intro w hSw; (try dsimp only at hSw); go_simp; (try with_reducible rfl))
      simp only [Act.put, List.getElem_toArray, List.getElem_cons_zero, List.getElem_cons_succ, List.setIfInBounds_toArray, List.set_cons_zero, List.set_cons_succ]
      refine wpAnyH_take (i := 11) (v := ?_) rfl (by kernel_rfl) (by kernel_rfl) (by kernel_rfl) (fun _ _ _ h => h) (Or.inl ⟨by rfl, ?_⟩) (by assumption) ?_
      rotate_left
      · (intro w hSw; (try dsimp only at hSw); go_simp; (try with_reducible rfl))
      simp only [Act.put, List.getElem_toArray, List.getElem_cons_zero, List.getElem_cons_succ, List.setIfInBounds_toArray, List.set_cons_zero, List.set_cons_succ]
      refine wpAnyH_take (i := 12) (v := ?_) rfl (by kernel_rfl) (by kernel_rfl) (by kernel_rfl) (fun _ _ _ h => h) (Or.inl ⟨by rfl, ?_⟩) (by assumption) ?_
      rotate_left
      · (intro w hSw; (try dsimp only at hSw); go_simp; (try with_reducible rfl))
      simp only [Act.put, List.getElem_toArray, List.getElem_cons_zero, List.getElem_cons_succ, List.setIfInBounds_toArray, List.set_cons_zero, List.set_cons_succ]
      refine wpAnyH_take (i := 13) (v := ?_) rfl (by kernel_rfl) (by kernel_rfl) (by kernel_rfl) (fun _ _ _ h => h) (Or.inl ⟨by rfl, ?_⟩) (by assumption) ?_
      rotate_left
      · (intro w hSw; (try dsimp only at hSw); go_simp; (try with_reducible rfl))
      simp only [Act.put, List.getElem_toArray, List.getElem_cons_zero, List.getElem_cons_succ, List.setIfInBounds_toArray, List.set_cons_zero, List.set_cons_succ]
      refine wpAnyH_take (i := 14) (v := ?_) rfl (by kernel_rfl) (by kernel_rfl) (by kernel_rfl) (fun _ _ _ h => h) (Or.inl ⟨by rfl, ?_⟩) (by assumption) ?_
      rotate_left
      · (intro w hSw; (try dsimp only at hSw); go_simp; (try with_reducible rfl))
      simp only [Act.put, List.getElem_toArray, List.getElem_cons_zero, List.getElem_cons_succ, List.setIfInBounds_toArray, List.set_cons_zero, List.set_cons_succ]
      refine wpAnyH_take (i := 15) (v := ?_) rfl (by kernel_rfl) (by kernel_rfl) (by kernel_rfl) (fun _ _ _ h => h) (Or.inl ⟨by rfl, ?_⟩) (by assumption) ?_
      rotate_left
      · (intro w hSw; (try dsimp only at hSw); go_simp; (try with_reducible rfl))
      simp only [Act.put, List.getElem_toArray, List.getElem_cons_zero, List.getElem_cons_succ, List.setIfInBounds_toArray, List.set_cons_zero, List.set_cons_succ]
      refine wpAnyH_take (i := 16) (v := ?_) rfl (by kernel_rfl) (by kernel_rfl) (by kernel_rfl) (fun _ _ _ h => h) (Or.inl ⟨by rfl, ?_⟩) (by assumption) ?_
      rotate_left
      · (intro w hSw; (try dsimp only at hSw); go_simp; (try with_reducible rfl))
      simp only [Act.put, List.getElem_toArray, List.getElem_cons_zero, List.getElem_cons_succ, List.setIfInBounds_toArray, List.set_cons_zero, List.set_cons_succ]
      refine wpAnyH_take (i := 17) (v := ?_) rfl (by kernel_rfl) (by kernel_rfl) (by kernel_rfl) (fun _ _ _ h => h) (Or.inl ⟨by rfl, ?_⟩) (by assumption) ?_
      rotate_left
      · (intro w hSw; (try dsimp only at hSw); go_simp; (try with_reducible rfl))
      simp only [Act.put, List.getElem_toArray, List.getElem_cons_zero, List.getElem_cons_succ, List.setIfInBounds_toArray, List.set_cons_zero, List.set_cons_succ]
      refine wpAnyH_take (i := 18) (v := ?_) rfl (by kernel_rfl) (by kernel_rfl) (by kernel_rfl) (fun _ _ _ h => h) (Or.inl ⟨by rfl, ?_⟩) (by assumption) ?_
      rotate_left
      · (intro w hSw; (try dsimp only at hSw); go_simp; (try with_reducible rfl))
      simp only [Act.put, List.getElem_toArray, List.getElem_cons_zero, List.getElem_cons_succ, List.setIfInBounds_toArray, List.set_cons_zero, List.set_cons_succ]
      refine wpAnyH_take (i := 19) (v := ?_) rfl (by kernel_rfl) (by kernel_rfl) (by kernel_rfl) (fun _ _ _ h => h) (Or.inl ⟨by rfl, ?_⟩) (by assumption) ?_
      rotate_left
      · (intro w hSw; (try dsimp only at hSw); go_simp; (try with_reducible rfl))
      simp only [Act.put, List.getElem_toArray, List.getElem_cons_zero, List.getElem_cons_succ, List.setIfInBounds_toArray, List.set_cons_zero, List.set_cons_succ]
      refine wpAnyH_take (i := 20) (v := ?_) rfl (by kernel_rfl) (by kernel_rfl) (by kernel_rfl) (fun _ _ _ h => h) (Or.inl ⟨by rfl, ?_⟩) (by assumption) ?_
      rotate_left
      · (intro w hSw; (try dsimp only at hSw); go_simp; (try with_reducible rfl))
      simp only [Act.put, List.getElem_toArray, List.getElem_cons_zero, List.getElem_cons_succ, List.setIfInBounds_toArray, List.set_cons_zero, List.set_cons_succ]
      refine wpAnyH_take (i := 21) (v := ?_) rfl (by kernel_rfl) (by kernel_rfl) (by kernel_rfl) (fun _ _ _ h => h) (Or.inl ⟨by rfl, ?_⟩) (by assumption) ?_
      rotate_left
      · (intro w hSw; (try dsimp only at hSw); go_simp; (try with_reducible rfl))
      simp only [Act.put, List.getElem_toArray, List.getElem_cons_zero, List.getElem_cons_succ, List.setIfInBounds_toArray, List.set_cons_zero, List.set_cons_succ]
      refine wpAnyH_take (i := 22) (v := ?_) rfl (by kernel_rfl) (by kernel_rfl) (by kernel_rfl) (fun _ _ _ h => h) (Or.inl ⟨by rfl, ?_⟩) (by assumption) ?_
      rotate_left
      · (intro w hSw; (try dsimp only at hSw); go_simp; (try with_reducible rfl))
      simp only [Act.put, List.getElem_toArray, List.getElem_cons_zero, List.getElem_cons_succ, List.setIfInBounds_toArray, List.set_cons_zero, List.set_cons_succ]
      refine wpAnyH_take (i := 23) (v := ?_) rfl (by kernel_rfl) (by kernel_rfl) (by kernel_rfl) (fun _ _ _ h => h) (Or.inl ⟨by rfl, ?_⟩) (by assumption) ?_
      rotate_left
      · (intro w hSw; (try dsimp only at hSw); go_simp; (try with_reducible rfl))
      simp only [Act.put, List.getElem_toArray, List.getElem_cons_zero, List.getElem_cons_succ, List.setIfInBounds_toArray, List.set_cons_zero, List.set_cons_succ]
      refine wpAnyH_take (i := 24) (v := ?_) rfl (by kernel_rfl) (by kernel_rfl) (by kernel_rfl) (fun _ _ _ h => h) (Or.inl ⟨by rfl, ?_⟩) (by assumption) ?_
      rotate_left
      · (intro w hSw; (try dsimp only at hSw); go_simp; (try with_reducible rfl))
      simp only [Act.put, List.getElem_toArray, List.getElem_cons_zero, List.getElem_cons_succ, List.setIfInBounds_toArray, List.set_cons_zero, List.set_cons_succ]
      refine wpAnyH_take (i := 27) (v := ?_) rfl (by kernel_rfl) (by kernel_rfl) (by kernel_rfl) (fun _ _ _ h => h) (Or.inl ⟨by rfl, ?_⟩) (by assumption) ?_
      rotate_left
      · (intro w hSw; (try dsimp only at hSw); go_simp; (try with_reducible rfl))
      simp only [Act.put, List.getElem_toArray, List.getElem_cons_zero, List.getElem_cons_succ, List.setIfInBounds_toArray, List.set_cons_zero, List.set_cons_succ]
      refine wpAnyH_ready (rs := [25]) (by kernel_rfl) (by simp) ?_
      refine AllReadyH.cons rfl (fun K hK => ?_) AllReadyH.nil
      rw [if_pos (by rfl)]
      go_simp
      have hts : Tx3 (V2.alloc (.cells #[.string s, .string X2, .string X3] 9)).drew V2.heap.size s X2 X3 := Tx3.new V2 s X2 X3
      refine hK.out _ _ (hHeld.alloc hHeld.size _) (fun hHeld2 => ?_)
      clear hK K hHeld
      have hHeld := hHeld2; clear hHeld2
      refine wpAnyH_take (i := 26) (v := ?_) rfl (by kernel_rfl) (by kernel_rfl) (by kernel_rfl) (fun _ _ _ h => h) (Or.inl ⟨by rfl, ?_⟩) (by assumption) ?_
      rotate_left
      · (intro w hSw; (try dsimp only at hSw); go_simp; (try with_reducible rfl))
      simp only [Act.put, List.getElem_toArray, List.getElem_cons_zero, List.getElem_cons_succ, List.setIfInBounds_toArray, List.set_cons_zero, List.set_cons_succ]
      refine wpAnyH_done (by kernel_rfl) ?_ _
      refine NoPanic.normal ?_
      obtain ⟨V4, hV4⟩ : ∃ W, (V2.alloc (.cells #[.string s, .string X2, .string X3] 9)).drew = W := ⟨_, rfl⟩
      rw [hV4] at hts hHeld ⊢
      clear hV4
      generalize V2.heap.size = g at hts ⊢
      have hb4 := bch H_hb3.out hHeld
      clear hHeld s1 s2 s3 d1 d2 d3 m1 m2 p0 p1 q0 q1 n1 n2 n3
      have H_hts := Lib.hid hts; clear hts
      have H_hb4 := Lib.hid hb4; clear hb4
      clear H_hb3 H_hby
      go_wp2_with fail
      go_loopw [69] (fun i wy => ∃ (j : Nat) (wq : World), wq = wy ∧ j ≤ 3 ∧ i = .int .i64 j ∧ Below V4.heap.size V4 wq) (fun i _ => 3 - (intOf i).toNat)
      case atStart => exact ⟨0, _, rfl, by omega, rfl, Below.refl _ _⟩
      case round =>
        obtain ⟨j, wp, rfl, hj2, rfl, hbp⟩ := hrel
        by_cases hj : j < 3
        · obtain ⟨x, hx, e0⟩ := (H_hts.out.below hbp).at hj
          have zx := HTX.out x hx
          have H_hbp := Lib.hid hbp; clear hbp hx
          have hj0 : (0 : Int) ≤ (j : Int) := by omega
          have hj1 : (j : Int) < (3 : Int) := by omega
          obtain ⟨R, hR⟩ : ∃ R, wD x.data.toList = R := ⟨_, rfl⟩
          obtain ⟨v, m, n⟩ := R
          have eD := DecW.at HD.out rfl hR rfl zx
          by_cases hn : n = 0
          · subst hn
            obtain ⟨r1, r2⟩ := w_forth hR
            have hrm := rightM_iff.1 r1
            have zm : m.body.size ≤ 140737488355328 := by have := hrm.2.2.2.2.2.2; omega
            have hvw : (Lit.int .i64 (v : Int)).wf = true := by rcases hrm.v with h | h <;> rw [h] <;> decide
            have eE := EncW.at (S := x) HE.out rfl r2 (by unfold bs; simp) zm hvw hrm.wf
            have eR := RightW.at HR.out rfl r1 zm hvw hrm.wf
            unfold mgV at eD eE eR
            have xx : (x.toList != x.toList) = false := by simp
            clear hR r1 r2 hrm hvw zm
            go_wp2_with fail
            ((with_reducible refine (eD _).mono ?_); rintro e Y1 ⟨rfl, b1⟩)
            clear e0
            go_upto_region 11 with fail
            have hb5 := (bch H_hbp.out b1).alloc (bch H_hbp.out b1).size (.cells #[.int .i64 m.kind, .int .i64 m.frm, .int .i64 m.to, .int .i64 m.seq, .string m.body, .int .i64 m.trace] 23)
            have hm5 := MgBlk.new Y1 m
            clear b1
            obtain ⟨Y5, hY5⟩ : ∃ W, Y1.alloc (.cells #[.int .i64 m.kind, .int .i64 m.frm, .int .i64 m.to, .int .i64 m.seq, .string m.body, .int .i64 m.trace] 23) = W := ⟨_, rfl⟩
            rw [hY5] at hb5 hm5 ⊢
            clear hY5
            have H_hb5 := Lib.hid hb5; clear hb5
            have H_hm5 := Lib.hid hm5; clear hm5
            obtain ⟨c0, c1, c2, c3, c4, c5⟩ := H_hm5.out.cells
            go_wp2_with fail
            ((with_reducible refine (eE _).mono ?_); rintro e Y2 ⟨rfl, b2⟩)
            have hb6 := bch H_hb5.out b2
            have hm6 := H_hm5.out.below b2
            clear c0 c1 c2 c3 c4 c5
            clear b2
            have H_hb6 := Lib.hid hb6; clear hb6
            have H_hm6 := Lib.hid hm6; clear hm6
            obtain ⟨c0, c1, c2, c3, c4, c5⟩ := H_hm6.out.cells
            go_wp2_with fail
            ((with_reducible refine (eR _).mono ?_); rintro e Y3 ⟨rfl, b3⟩)
            have hb7 := bch H_hb6.out b3
            clear c0 c1 c2 c3 c4 c5
            clear b3
            have H_hb7 := Lib.hid hb7; clear hb7
            go_wp2_with fail
            go_roundw
            case rel => exact ⟨j + 1, _, rfl, by omega, by go_num, H_hb7.out⟩
            case measure => simp [intOf]; omega
          · have hno := wD_no (s := x.data.toList) (by rw [hR]; exact hn)
            rw [hR] at hno
            obtain ⟨hv0, hm0⟩ := hno
            simp only at hv0 hm0
            subst hv0 hm0
            have nn : ((n : Int) != 0) = true := by simp; omega
            have heq := eqMg zeroM zeroM
            rw [eqM_self] at heq
            unfold mgV at eD heq
            simp only [zeroM] at eD heq
            have hgu := guardMg
            clear hR hn
            go_wp2_with fail
            ((with_reducible refine (eD _).mono ?_); rintro e Y1 ⟨rfl, b1⟩)
            clear e0
            go_upto_region 11 with fail
            have hb5 := (bch H_hbp.out b1).alloc (bch H_hbp.out b1).size (.cells #[.int .i64 0, .int .i64 0, .int .i64 0, .int .i64 0, .string ByteArray.empty, .int .i64 0] 23)
            have hm5 : MgBlk (Y1.alloc (.cells #[.int .i64 0, .int .i64 0, .int .i64 0, .int .i64 0, .string ByteArray.empty, .int .i64 0] 23)) Y1.heap.size zeroM := MgBlk.new Y1 zeroM
            clear b1
            obtain ⟨Y5, hY5⟩ : ∃ W, Y1.alloc (.cells #[.int .i64 0, .int .i64 0, .int .i64 0, .int .i64 0, .string ByteArray.empty, .int .i64 0] 23) = W := ⟨_, rfl⟩
            rw [hY5] at hb5 hm5 ⊢
            clear hY5
            have H_hb5 := Lib.hid hb5; clear hb5
            have H_hm5 := Lib.hid hm5; clear hm5
            obtain ⟨c0, c1, c2, c3, c4, c5⟩ := H_hm5.out.cells
            simp only [zeroM] at c0 c1 c2 c3 c4 c5
            go_wp2_with fail
            go_roundw
            case rel => exact ⟨j + 1, _, rfl, by omega, by go_num, H_hb5.out⟩
            case measure => simp [intOf]; omega
        · have hje : j = 3 := by omega
          subst hje
          go_wp2_with fail
          go_roundw
          case rel => exact ⟨k + 1, _, rfl, by omega, by omega, by go_num, bch H_hb4.out hbp⟩
          case measure => simp [intOf]; omega
    · have hk : k = 3 := by omega
      subst hk
      go_wp2_with fail
      go_ret
      exact ⟨rfl, bch H_hb1.out H_hby.out⟩
end Go.Proofs.Ytjdpihppniibjaa
