import Derived.Test.YtjdpihppniibjaaWireMade
import Derived.Test.YtjdpihppniibjaaWireAwake
/-
  The walk of the law WireUnlike, over what is asked of the program (stage 8).
-/
namespace Go.Proofs.Ytjdpihppniibjaa
open Go.RowKit
set_option linter.unusedVariables false
set_option linter.unusedSimpArgs false

theorem eqM_iff {a b : Mg} : eqM a b = true ↔ a = b := by
  unfold eqM
  simp only [Bool.and_eq_true, beq_iff_eq]
  constructor
  · rintro ⟨⟨⟨⟨⟨h1, h2⟩, h3⟩, h4⟩, h5⟩, h6⟩
    refine Mg.eq h1 h2 h3 h4 ?_ h6
    have h := congrArg bs h5
    have e : ∀ x : ByteArray, bs x.toList = x := fun x => by
      obtain ⟨l⟩ := x
      unfold bs
      rw [ByteArray.toList_mk]
    rw [e, e] at h
    exact h
  · rintro rfl; exact ⟨⟨⟨⟨⟨rfl, rfl⟩, rfl⟩, rfl⟩, rfl⟩, rfl⟩

set_option maxRecDepth 100000 in
set_option maxHeartbeats 8000000 in
theorem wireUnlike_core (hR : RightW) (hE : EncW) (hD : DecW) (a0 a1 a2 a3 a4 b0 b1 b2 b3 b4 : Int) (t : ByteArray) (wh : Int) (w : World)
    (h0 : (Lit.int .i64 a0).wf = true) (h1 : (Lit.int .i64 a1).wf = true) (h2 : (Lit.int .i64 a2).wf = true) (h3 : (Lit.int .i64 a3).wf = true) (h4 : (Lit.int .i64 a4).wf = true)
    (k0 : (Lit.int .i64 b0).wf = true) (k1 : (Lit.int .i64 b1).wf = true) (k2 : (Lit.int .i64 b2).wf = true) (k3 : (Lit.int .i64 b3).wf = true) (k4 : (Lit.int .i64 b4).wf = true)
    (ht : t.size ≤ 140737488351232) (hwh : (Lit.int .i64 wh).wf = true) :
    Calls Try.prog 7 #[.agg #[.int .i64 a0, .int .i64 a1, .int .i64 a2, .int .i64 a3, .int .i64 a4], .agg #[.int .i64 b0, .int .i64 b1, .int .i64 b2, .int .i64 b3, .int .i64 b4], .string t, .int .i64 wh] w fun e w' => e = .returned (.bool true) ∧ Below w.heap.size w w' := by
  have qw := awake8_any hR hE hD
  have qa := fun v W => message_any v a0 a1 a2 a3 a4 t (by omega) h0 h1 h2 h3 h4 W
  have qb := fun v W => message_any v b0 b1 b2 b3 b4 t (by omega) k0 k1 k2 k3 k4 W
  have qp := pickW_nat wh 2 (by omega) (by omega) hwh
  have qz := pickW_nat b3 300 (by omega) (by omega) k3
  have kz := pickN_lt b3 300 (by omega)
  have kp := pickN_lt wh 2 (by omega)
  generalize pickN wh 2 = p at qp kp
  generalize pickN b3 300 = z at qz kz
  have QA := Lib.hid qa; clear qa
  have QB := Lib.hid qb; clear qb
  have HE := Lib.hid hE; clear hR hE hD
  have KZ := Lib.hid kz; clear kz
  clear h0 h1 h2 h3 h4 k0 k1 k2 k3 k4 ht hwh
  have hb0 : Below w.heap.size w ((w.alloc (.cells #[.int .i64 a0, .int .i64 a1, .int .i64 a2, .int .i64 a3, .int .i64 a4] 24)).alloc (.cells #[.int .i64 b0, .int .i64 b1, .int .i64 b2, .int .i64 b3, .int .i64 b4] 24)) := ((Below.refl _ _).alloc (Nat.le_refl _) _).alloc (by simp) _
  have ha : A5Blk ((w.alloc (.cells #[.int .i64 a0, .int .i64 a1, .int .i64 a2, .int .i64 a3, .int .i64 a4] 24)).alloc (.cells #[.int .i64 b0, .int .i64 b1, .int .i64 b2, .int .i64 b3, .int .i64 b4] 24)) w.heap.size a0 a1 a2 a3 a4 := (A5Blk.new w a0 a1 a2 a3 a4).below ((Below.refl _ _).alloc (Nat.le_refl _) _)
  have hx : A5Blk ((w.alloc (.cells #[.int .i64 a0, .int .i64 a1, .int .i64 a2, .int .i64 a3, .int .i64 a4] 24)).alloc (.cells #[.int .i64 b0, .int .i64 b1, .int .i64 b2, .int .i64 b3, .int .i64 b4] 24)) (w.heap.size + 1) b0 b1 b2 b3 b4 := by
    have h := A5Blk.new (w.alloc (.cells #[.int .i64 a0, .int .i64 a1, .int .i64 a2, .int .i64 a3, .int .i64 a4] 24)) b0 b1 b2 b3 b4
    rw [World.size_alloc] at h
    exact h
  obtain ⟨W0, hW0⟩ : ∃ W, (w.alloc (.cells #[.int .i64 a0, .int .i64 a1, .int .i64 a2, .int .i64 a3, .int .i64 a4] 24)).alloc (.cells #[.int .i64 b0, .int .i64 b1, .int .i64 b2, .int .i64 b3, .int .i64 b4] 24) = W := ⟨_, rfl⟩
  rw [hW0] at hb0 ha hx
  have HB0 := Lib.hid hb0; clear hb0
  have HA := Lib.hid ha; clear ha
  have HX := Lib.hid hx; clear hx
  go_enter Try.func7, Try.ntmps7
  go_wp2_with fail
  ((with_reducible refine (qw _).mono ?_); rintro e W1 ⟨rfl, hb⟩)
  clear hW0 qw
  have HB1 := Lib.hid (bch HB0.out hb)
  have HA1 := Lib.hid (HA.out.below hb)
  have HX1 := Lib.hid (HX.out.below hb)
  clear hb HA HX HB0
  go_wp2_with fail
  go_loopw [10] (fun i wy => ∃ (k : Nat), 1 ≤ k ∧ k ≤ 3 ∧ i = .int .i64 k ∧ Below W1.heap.size W1 wy) (fun i _ => 3 - (intOf i).toNat)
  case atStart => exact ⟨1, by omega, by omega, rfl, Below.refl _ _⟩
  case round =>
    obtain ⟨k, hk1, hk3, rfl, hby⟩ := hrel
    have HBY := Lib.hid hby; clear hby
    by_cases hlt : k ≤ 2
    · have hv : (k : Int) = 1 ∨ (k : Int) = 2 := by omega
      obtain ⟨A, hA⟩ : ∃ A, msgR k a0 a1 a2 a3 a4 t = A := ⟨_, rfl⟩
      have qa := QA.out k
      have ra := msgR_right hv a0 a1 a2 a3 a4 t
      have za := msgR_size k a0 a1 a2 a3 a4 t
      rw [hA] at qa ra za
      unfold mgV at qa
      obtain ⟨B0, hB⟩ : ∃ A, msgR k b0 b1 b2 b3 b4 t = A := ⟨_, rfl⟩
      have qb := QB.out k
      have rb := msgR_right hv b0 b1 b2 b3 b4 t
      have zb := msgR_size k b0 b1 b2 b3 b4 t
      rw [hB] at qb rb zb
      unfold mgV at qb
      clear hA hB hv
      have RA := Lib.hid ra; clear ra
      have RB0 := Lib.hid rb; clear rb
      obtain ⟨a0c, a1c, a2c, a3c, a4c⟩ := (HA1.out.below HBY.out).cells
      go_wp2_with fail
      ((with_reducible refine (qa _).mono ?_); rintro e V1 ⟨rfl, b1⟩)
      clear a0c a1c a2c a3c a4c
      go_upto_region 6 with fail
      have hb1 := (bch HBY.out b1).alloc (bch HBY.out b1).size (.cells #[.int .i64 A.kind, .int .i64 A.frm, .int .i64 A.to, .int .i64 A.seq, .string A.body, .int .i64 A.trace] 23)
      have hm1 := MgBlk.new V1 A
      clear b1
      obtain ⟨V2, hV2⟩ : ∃ W, V1.alloc (.cells #[.int .i64 A.kind, .int .i64 A.frm, .int .i64 A.to, .int .i64 A.seq, .string A.body, .int .i64 A.trace] 23) = W := ⟨_, rfl⟩
      rw [hV2] at hb1 hm1 ⊢
      clear hV2
      have HM2 := Lib.hid hm1; clear hm1
      have HB2 := Lib.hid hb1; clear hb1
      obtain ⟨b0c, b1c, b2c, b3c, b4c⟩ := (HX1.out.below HB2.out).cells
      go_wp2_with fail
      ((with_reducible refine (qb _).mono ?_); rintro e V3 ⟨rfl, b3'⟩)
      clear b0c b1c b2c b3c b4c
      go_upto_region 7 with fail
      have hb4 := (bch HB2.out b3').alloc (bch HB2.out b3').size (.cells #[.int .i64 B0.kind, .int .i64 B0.frm, .int .i64 B0.to, .int .i64 B0.seq, .string B0.body, .int .i64 B0.trace] 23)
      have hm4 := (HM2.out.below b3').below ((Below.refl _ _).alloc (Nat.le_refl _) (.cells #[.int .i64 B0.kind, .int .i64 B0.frm, .int .i64 B0.to, .int .i64 B0.seq, .string B0.body, .int .i64 B0.trace] 23))
      have hn4 := MgBlk.new V3 B0
      have hne : V1.heap.size ≠ V3.heap.size := by have := lt_of_blk (HM2.out.below b3'); omega
      have hle : W1.heap.size ≤ V3.heap.size := Nat.le_trans HB2.out.size b3'.size
      have HLE := Lib.hid hle; clear hle
      clear b3'
      obtain ⟨V4, hV4⟩ : ∃ W, V3.alloc (.cells #[.int .i64 B0.kind, .int .i64 B0.frm, .int .i64 B0.to, .int .i64 B0.seq, .string B0.body, .int .i64 B0.trace] 23) = W := ⟨_, rfl⟩
      rw [hV4] at hb4 hm4 hn4 ⊢
      clear hV4
      have HNE := Lib.hid hne; clear hne
      have HM4 := Lib.hid hm4; clear hm4
      have HN4 := Lib.hid hn4; clear hn4
      have HB4 := Lib.hid hb4; clear hb4
      go_wp2_with fail
      ((with_reducible refine (qp _).mono ?_); rintro e V5 ⟨rfl, rfl⟩)
      by_cases hp : p = 0
      · subst hp
        obtain ⟨c0, c1, c2, c3, c4, c5⟩ := HM4.out.cells
        obtain ⟨d0, d1, d2, d3, d4, d5⟩ := HN4.out.cells
        have f0 := HN4.out.frozen 0
        have f1 := HN4.out.frozen 1
        have f2 := HN4.out.frozen 2
        have f3 := HN4.out.frozen 3
        have f4 := HN4.out.frozen 4
        have f5 := HN4.out.frozen 5
        go_upto_region 9 with fail
        clear c0 c1 c2 c3 c4 c5 d0 d1 d2 d3 d4 d5 f0 f1 f2 f3 f4 f5
        have hn6 := HN4.out.put A
        have hm6 := (((((HM4.out.far HNE.out 0 (.int .i64 A.kind)).far HNE.out 1 (.int .i64 A.frm)).far HNE.out 2 (.int .i64 A.to)).far HNE.out 3 (.int .i64 A.seq)).far HNE.out 4 (.string A.body)).far HNE.out 5 (.int .i64 A.trace)
        have hb6 := below_put6 HB4.out HLE.out (.int .i64 A.kind) (.int .i64 A.frm) (.int .i64 A.to) (.int .i64 A.seq) (.string A.body) (.int .i64 A.trace)
        obtain ⟨V6, hV6⟩ : ∃ W, ((((((V4.setCell ⟨V3.heap.size, 0, none⟩ (.int .i64 A.kind)).setCell ⟨V3.heap.size, 1, none⟩ (.int .i64 A.frm)).setCell ⟨V3.heap.size, 2, none⟩ (.int .i64 A.to)).setCell ⟨V3.heap.size, 3, none⟩ (.int .i64 A.seq)).setCell ⟨V3.heap.size, 4, none⟩ (.string A.body)).setCell ⟨V3.heap.size, 5, none⟩ (.int .i64 A.trace)) = W := ⟨_, rfl⟩
        rw [hV6] at hb6 hm6 hn6 ⊢
        clear hV6 HM4 HN4
        have f3 := hn6.frozen 3
        have d3 := hn6.cells.2.2.2.1
        have HM6 := Lib.hid hm6; clear hm6
        have HN6 := Lib.hid hn6; clear hn6
        have HB6 := Lib.hid hb6; clear hb6
        have x3 := (HX1.out.below HB6.out).cells.2.2.2.1
        go_wp2_with fail
        ((with_reducible refine (qz _).mono ?_); rintro e V7 ⟨rfl, rfl⟩)
        go_upto_region 10 with fail
        clear x3 f3 d3
        have hn8 := HN6.out.seq z
        have hm8 := HM6.out.far HNE.out 3 (.int .i64 z)
        have hb8 := HB6.out.setCell (p := ⟨V3.heap.size, 3, none⟩) HLE.out (.int .i64 z)
        obtain ⟨V8, hV8⟩ : ∃ W, V6.setCell ⟨V3.heap.size, 3, none⟩ (.int .i64 z) = W := ⟨_, rfl⟩
        rw [hV8] at hb8 hm8 hn8 ⊢
        clear hV8 HM6 HN6 HB6
        obtain ⟨B, hB⟩ : ∃ B : Mg, { A with seq := (z : Int) } = B := ⟨_, rfl⟩
        rw [hB] at hn8
        have rb : RightM k B := by
          rw [← hB]
          obtain ⟨y1, y2, y3, y4, y5, y6⟩ := RA.out
          exact ⟨y1, y2, y3, y4, ⟨by simp, by have := KZ.out; simp only; omega⟩, y6⟩
        have zb2 : B.body.size ≤ 300 := by rw [← hB]; exact za
        have RB := Lib.hid rb; clear rb hB
        have HMA := Lib.hid hm8; clear hm8
        have HMB := Lib.hid hn8; clear hn8
        have HBV := Lib.hid hb8; clear hb8
        have eS := EncW.at (S := bs (UInt8.ofNat k :: encL (fieldsM A))) HE.out rfl (wE_ok (rightM_iff.2 RA.out)) rfl (by omega) (wf_small (by omega) (by omega)) RA.out.wf
        have eT := EncW.at (S := bs (UInt8.ofNat k :: encL (fieldsM B))) HE.out rfl (wE_ok (rightM_iff.2 RB.out)) rfl (by omega) (wf_small (by omega) (by omega)) RB.out.wf
        have hck : (bs (UInt8.ofNat k :: encL (fieldsM A))).toList = (bs (UInt8.ofNat k :: encL (fieldsM B))).toList ↔ A = B := by
          rw [bs_toList, bs_toList]
          refine ⟨fun h => ?_, fun h => by rw [h]⟩
          have h2 := w_unlike (rightM_iff.2 RA.out) (rightM_iff.2 RB.out) (by rw [wE_ok (rightM_iff.2 RA.out), wE_ok (rightM_iff.2 RB.out)]; exact h)
          exact h2
        have hcb : ((bs (UInt8.ofNat k :: encL (fieldsM A))).toList == (bs (UInt8.ofNat k :: encL (fieldsM B))).toList) = eqM A B := by
          rw [Bool.eq_iff_iff, beq_iff_eq, hck, eqM_iff]
        have heq := eqMg A B
        unfold mgV at eS eT heq
        generalize bs (UInt8.ofNat k :: encL (fieldsM A)) = S at *
        generalize bs (UInt8.ofNat k :: encL (fieldsM B)) = T at *
        generalize eqM A B = c at *
        clear hck
        have hgu := guardMg
        obtain ⟨c0, c1, c2, c3, c4, c5⟩ := HMA.out.cells
        go_wp2_with fail
        ((with_reducible refine (eS _).mono ?_); rintro e U1 ⟨rfl, b1⟩)
        clear c0 c1 c2 c3 c4 c5
        obtain ⟨d0, d1, d2, d3, d4, d5⟩ := (HMB.out.below b1).cells
        have HB1 := Lib.hid b1; clear b1
        go_wp2_with fail
        ((with_reducible refine (eT _).mono ?_); rintro e U2 ⟨rfl, b2⟩)
        clear d0 d1 d2 d3 d4 d5
        obtain ⟨c0, c1, c2, c3, c4, c5⟩ := ((HMA.out.below HB1.out).below b2).cells
        obtain ⟨d0, d1, d2, d3, d4, d5⟩ := ((HMB.out.below HB1.out).below b2).cells
        have HB2 := Lib.hid b2; clear b2
        go_wp2_with fail
        go_round
        case rel => exact ⟨k + 1, by omega, by omega, rfl, bch (bch HBV.out HB1.out) HB2.out⟩
        case measure => simp [intOf]; omega
      · have hp1 : p = 1 := by omega
        subst hp1
        have HMA := Lib.hid HM4.out
        have HMB := Lib.hid HN4.out
        have HBV := Lib.hid HB4.out
        have RB := Lib.hid RB0.out
        obtain ⟨B, hB⟩ : ∃ B : Mg, B0 = B := ⟨_, rfl⟩
        subst hB
        clear HM4 HN4 HB4
        have eS := EncW.at (S := bs (UInt8.ofNat k :: encL (fieldsM A))) HE.out rfl (wE_ok (rightM_iff.2 RA.out)) rfl (by omega) (wf_small (by omega) (by omega)) RA.out.wf
        have eT := EncW.at (S := bs (UInt8.ofNat k :: encL (fieldsM B0))) HE.out rfl (wE_ok (rightM_iff.2 RB.out)) rfl (by omega) (wf_small (by omega) (by omega)) RB.out.wf
        have hck : (bs (UInt8.ofNat k :: encL (fieldsM A))).toList = (bs (UInt8.ofNat k :: encL (fieldsM B0))).toList ↔ A = B0 := by
          rw [bs_toList, bs_toList]
          refine ⟨fun h => ?_, fun h => by rw [h]⟩
          have h2 := w_unlike (rightM_iff.2 RA.out) (rightM_iff.2 RB.out) (by rw [wE_ok (rightM_iff.2 RA.out), wE_ok (rightM_iff.2 RB.out)]; exact h)
          exact h2
        have hcb : ((bs (UInt8.ofNat k :: encL (fieldsM A))).toList == (bs (UInt8.ofNat k :: encL (fieldsM B0))).toList) = eqM A B0 := by
          rw [Bool.eq_iff_iff, beq_iff_eq, hck, eqM_iff]
        have heq := eqMg A B0
        unfold mgV at eS eT heq
        generalize bs (UInt8.ofNat k :: encL (fieldsM A)) = S at *
        generalize bs (UInt8.ofNat k :: encL (fieldsM B0)) = T at *
        generalize eqM A B0 = c at *
        clear hck
        have hgu := guardMg
        obtain ⟨c0, c1, c2, c3, c4, c5⟩ := HMA.out.cells
        go_wp2_with fail
        ((with_reducible refine (eS _).mono ?_); rintro e U1 ⟨rfl, b1⟩)
        clear c0 c1 c2 c3 c4 c5
        obtain ⟨d0, d1, d2, d3, d4, d5⟩ := (HMB.out.below b1).cells
        have HB1 := Lib.hid b1; clear b1
        go_wp2_with fail
        ((with_reducible refine (eT _).mono ?_); rintro e U2 ⟨rfl, b2⟩)
        clear d0 d1 d2 d3 d4 d5
        obtain ⟨c0, c1, c2, c3, c4, c5⟩ := ((HMA.out.below HB1.out).below b2).cells
        obtain ⟨d0, d1, d2, d3, d4, d5⟩ := ((HMB.out.below HB1.out).below b2).cells
        have HB2 := Lib.hid b2; clear b2
        go_wp2_with fail
        go_round
        case rel => exact ⟨k + 1, by omega, by omega, rfl, bch (bch HBV.out HB1.out) HB2.out⟩
        case measure => simp [intOf]; omega
    · have hk : k = 3 := by omega
      subst hk
      go_wp2_with fail
      go_ret
      exact ⟨rfl, bch HB1.out HBY.out⟩
end Go.Proofs.Ytjdpihppniibjaa
