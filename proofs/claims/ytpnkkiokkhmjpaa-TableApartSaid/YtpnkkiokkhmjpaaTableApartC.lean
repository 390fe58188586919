import Derived.Test.YtpnkkiokkhmjpaaTabLaw
/-
  The walk of the law TableApart, over what is asked of the program (stage 12).
-/
namespace Go.Proofs.Ytpnkkiokkhmjpaa
open Go.RowKit
set_option linter.unusedVariables false
set_option linter.unusedSimpArgs false

set_option maxRecDepth 100000 in
set_option maxHeartbeats 8000000 in
theorem tableApart_core (kH : CheckT) (kW : WritesT) (kR : RightQT) (kS : SameQT) (kD : DoT) (a0 : Option Addr) (n0 cap0 : Nat) (f : Nat → Nat → Int) (x10 x11 x12 x13 x14 : Int) (x20 x21 x22 x23 x24 : Int) (w : World) (h0 : IsRaw w a0 n0 5 f) (w10 : (Lit.int .i64 x10).wf = true) (w11 : (Lit.int .i64 x11).wf = true) (w12 : (Lit.int .i64 x12).wf = true) (w13 : (Lit.int .i64 x13).wf = true) (w14 : (Lit.int .i64 x14).wf = true) (w20 : (Lit.int .i64 x20).wf = true) (w21 : (Lit.int .i64 x21).wf = true) (w22 : (Lit.int .i64 x22).wf = true) (w23 : (Lit.int .i64 x23).wf = true) (w24 : (Lit.int .i64 x24).wf = true) :
    Calls Try.prog 8 #[.slice a0 n0 cap0, .agg #[.int .i64 x10, .int .i64 x11, .int .i64 x12, .int .i64 x13, .int .i64 x14], .agg #[.int .i64 x20, .int .i64 x21, .int .i64 x22, .int .i64 x23, .int .i64 x24]] w fun e w' => e = .returned (.bool true) ∧ Below w.heap.size w w' := by
  have qa : ∀ W, Calls Try.prog 12 #[.agg #[.int .i64 x10, .int .i64 x11, .int .i64 x12, .int .i64 x13, .int .i64 x14]] W (fun e w' => e = .returned (opV (opR (arr5 x10 x11 x12 x13 x14))) ∧ Below W.heap.size W w') := fun W => op_any (arr5 x10 x11 x12 x13 x14) (arr5_wf w10 w11 w12 w13 w14) W
  have qb : ∀ W, Calls Try.prog 12 #[.agg #[.int .i64 x20, .int .i64 x21, .int .i64 x22, .int .i64 x23, .int .i64 x24]] W (fun e w' => e = .returned (opV (opR (arr5 x20 x21 x22 x23 x24))) ∧ Below W.heap.size W w') := fun W => op_any (arr5 x20 x21 x22 x23 x24) (arr5_wf w20 w21 w22 w23 w24) W
  have HWA := Lib.hid (opR_wf (arr5 x10 x11 x12 x13 x14))
  have HWB := Lib.hid (opR_wf (arr5 x20 x21 x22 x23 x24))
  have HCA := Lib.hid (opR_ok (arr5 x10 x11 x12 x13 x14))
  have HCB := Lib.hid (opR_ok (arr5 x20 x21 x22 x23 x24))
  generalize opR (arr5 x10 x11 x12 x13 x14) = oa at *
  generalize opR (arr5 x20 x21 x22 x23 x24) = ob at *
  unfold opV at qa qb
  have HTR := Lib.hid (table_right f n0)
  generalize hT : tableR f n0 = T at HTR
  have hbw : Below w.heap.size w ((w.alloc (.cells #[.int .i64 x10, .int .i64 x11, .int .i64 x12, .int .i64 x13, .int .i64 x14] 24)).alloc (.cells #[.int .i64 x20, .int .i64 x21, .int .i64 x22, .int .i64 x23, .int .i64 x24] 24)) := ((Below.refl _ _).alloc (Nat.le_refl _) _).alloc (by simp) _
  have hra : Blk ((w.alloc (.cells #[.int .i64 x10, .int .i64 x11, .int .i64 x12, .int .i64 x13, .int .i64 x14] 24)).alloc (.cells #[.int .i64 x20, .int .i64 x21, .int .i64 x22, .int .i64 x23, .int .i64 x24] 24)) w.heap.size (.cells #[.int .i64 x10, .int .i64 x11, .int .i64 x12, .int .i64 x13, .int .i64 x14] 24 (0, 0)) := Blk.below (Blk.new w (.cells #[.int .i64 x10, .int .i64 x11, .int .i64 x12, .int .i64 x13, .int .i64 x14] 24)) ((Below.refl _ _).alloc (Nat.le_refl _) _)
  have hrb : Blk ((w.alloc (.cells #[.int .i64 x10, .int .i64 x11, .int .i64 x12, .int .i64 x13, .int .i64 x14] 24)).alloc (.cells #[.int .i64 x20, .int .i64 x21, .int .i64 x22, .int .i64 x23, .int .i64 x24] 24)) (w.heap.size + 1) (.cells #[.int .i64 x20, .int .i64 x21, .int .i64 x22, .int .i64 x23, .int .i64 x24] 24 (0, 0)) := by have h := Blk.new (w.alloc (.cells #[.int .i64 x10, .int .i64 x11, .int .i64 x12, .int .i64 x13, .int .i64 x14] 24)) (.cells #[.int .i64 x20, .int .i64 x21, .int .i64 x22, .int .i64 x23, .int .i64 x24] 24); rw [World.size_alloc] at h; exact h
  have h00 := h0.below hbw
  obtain ⟨W0, hW0⟩ : ∃ W, (w.alloc (.cells #[.int .i64 x10, .int .i64 x11, .int .i64 x12, .int .i64 x13, .int .i64 x14] 24)).alloc (.cells #[.int .i64 x20, .int .i64 x21, .int .i64 x22, .int .i64 x23, .int .i64 x24] 24) = W := ⟨_, rfl⟩
  rw [hW0] at hbw hra hrb h00
  have HW0 := Lib.hid hW0
  clear h0 hW0
  go_enter Try.func8, Try.ntmps8
  go_upto_region 1 with fail
  rw [HW0.out]
  clear HW0
  have HB0 := Lib.hid hbw; clear hbw
  have Hraw0 := Lib.hid h00; clear h00
  have HA0 := Lib.hid hra; clear hra
  have HBB0 := Lib.hid hrb; clear hrb
  have q_aw := fun W => awakeT_any kH kW kR kS kD W
  go_wp2_with fail
  ((with_reducible refine (q_aw _).mono ?_); rintro e W1 ⟨rfl, b_⟩)
  have h_b := bch HB0.out b_
  have h_raw := Hraw0.out.below b_
  have h_A := HA0.out.below b_
  have h_BB := HBB0.out.below b_
  have HB1 := Lib.hid h_b; clear h_b
  have Hraw1 := Lib.hid h_raw; clear h_raw
  have HA1 := Lib.hid h_A; clear h_A
  have HBB1 := Lib.hid h_BB; clear h_BB
  clear b_
  clear q_aw
  have q_tb := table_any a0 n0 cap0 f _ Hraw1.out
  go_wp2_with fail
  ((with_reducible refine q_tb.mono ?_); rintro e W2 ⟨v_, l_, rfl, hr_, hm_, hx_, b_⟩)
  obtain ⟨AT, nT, capT, hv_, hcapT, ht_⟩ := tab_ts hr_ hm_ hx_
  subst hv_
  have h_b := bch HB1.out b_
  have h_A := HA1.out.below b_
  have h_BB := HBB1.out.below b_
  have h_TT := ht_
  have HB2 := Lib.hid h_b; clear h_b
  have HA2 := Lib.hid h_A; clear h_A
  have HBB2 := Lib.hid h_BB; clear h_BB
  have HTT2 := Lib.hid h_TT; clear h_TT
  clear b_ hr_ hm_ hx_ ht_ q_tb
  rw [hT] at HTT2
  clear hT
  have c0 := Blk.cell HA2.out 0
  have c1 := Blk.cell HA2.out 1
  have c2 := Blk.cell HA2.out 2
  have c3 := Blk.cell HA2.out 3
  have c4 := Blk.cell HA2.out 4
  simp only [List.getElem?_toArray, List.getElem?_cons_zero, List.getElem?_cons_succ] at c0 c1 c2 c3 c4
  go_wp2_with fail
  ((with_reducible refine (qa _).mono ?_); rintro e W3 ⟨rfl, b_⟩)
  clear c0 c1 c2 c3 c4
  go_upto_region 4 with fail
  have h_b := (bch HB2.out b_).alloc (bch HB2.out b_).size (.cells #[.int .i64 oa.kind, .string oa.key, .string oa.value, .int .i64 oa.rev, .string oa.upto, .int .i64 oa.life, .string oa.note] 26)
  have h_BB := (HBB2.out.below b_).below ((Below.refl _ _).alloc (Nat.le_refl _) (.cells #[.int .i64 oa.kind, .string oa.key, .string oa.value, .int .i64 oa.rev, .string oa.upto, .int .i64 oa.life, .string oa.note] 26))
  have h_TT := (HTT2.out.below b_).below ((Below.refl _ _).alloc (Nat.le_refl _) (.cells #[.int .i64 oa.kind, .string oa.key, .string oa.value, .int .i64 oa.rev, .string oa.upto, .int .i64 oa.life, .string oa.note] 26))
  have h_OA := OpBlk.new W3 oa
  obtain ⟨V_W3, hV_⟩ : ∃ W, W3.alloc (.cells #[.int .i64 oa.kind, .string oa.key, .string oa.value, .int .i64 oa.rev, .string oa.upto, .int .i64 oa.life, .string oa.note] 26) = W := ⟨_, rfl⟩
  rw [hV_] at h_b h_BB h_TT h_OA ⊢
  clear hV_
  have HB3 := Lib.hid h_b; clear h_b
  have HBB3 := Lib.hid h_BB; clear h_BB
  have HTT3 := Lib.hid h_TT; clear h_TT
  have HOA3 := Lib.hid h_OA; clear h_OA
  clear b_
  have c0 := Blk.cell HBB3.out 0
  have c1 := Blk.cell HBB3.out 1
  have c2 := Blk.cell HBB3.out 2
  have c3 := Blk.cell HBB3.out 3
  have c4 := Blk.cell HBB3.out 4
  simp only [List.getElem?_toArray, List.getElem?_cons_zero, List.getElem?_cons_succ] at c0 c1 c2 c3 c4
  go_wp2_with fail
  ((with_reducible refine (qb _).mono ?_); rintro e W4 ⟨rfl, b_⟩)
  clear c0 c1 c2 c3 c4
  go_upto_region 5 with fail
  have h_b := (bch HB3.out b_).alloc (bch HB3.out b_).size (.cells #[.int .i64 ob.kind, .string ob.key, .string ob.value, .int .i64 ob.rev, .string ob.upto, .int .i64 ob.life, .string ob.note] 26)
  have h_TT := (HTT3.out.below b_).below ((Below.refl _ _).alloc (Nat.le_refl _) (.cells #[.int .i64 ob.kind, .string ob.key, .string ob.value, .int .i64 ob.rev, .string ob.upto, .int .i64 ob.life, .string ob.note] 26))
  have h_OA := (HOA3.out.below b_).below ((Below.refl _ _).alloc (Nat.le_refl _) (.cells #[.int .i64 ob.kind, .string ob.key, .string ob.value, .int .i64 ob.rev, .string ob.upto, .int .i64 ob.life, .string ob.note] 26))
  have h_OB := OpBlk.new W4 ob
  obtain ⟨V_W4, hV_⟩ : ∃ W, W4.alloc (.cells #[.int .i64 ob.kind, .string ob.key, .string ob.value, .int .i64 ob.rev, .string ob.upto, .int .i64 ob.life, .string ob.note] 26) = W := ⟨_, rfl⟩
  rw [hV_] at h_b h_TT h_OA h_OB ⊢
  clear hV_
  have HB4 := Lib.hid h_b; clear h_b
  have HTT4 := Lib.hid h_TT; clear h_TT
  have HOA4 := Lib.hid h_OA; clear h_OA
  have HOB4 := Lib.hid h_OB; clear h_OB
  clear b_
  obtain ⟨p0, p1, p2, p3, p4, p5, p6⟩ := HOA4.out.cells
  try simp only at p0 p1 p2 p3 p4 p5 p6
  obtain ⟨q0, q1, q2, q3, q4, q5, q6⟩ := HOB4.out.cells
  try simp only at q0 q1 q2 q3 q4 q5 q6
  have hnT : nT ≤ 20 := ts_len HTT4.out HTR.out
  have HTL : Hid (nT = T.length) := HTT4.out.1
  by_cases g1 : oa.key = ob.key
  · have e1 := tb_eq g1
    clear g1
    go_wp2_with fail
    go_ret
    exact ⟨rfl, HB4.out⟩
  have e1 := tb_ne g1
  by_cases g2 : oa.kind = 6
  · have e2 : (oa.kind == 6) = true := by simpa using g2
    clear g1 g2
    go_wp2_with fail
    go_ret
    exact ⟨rfl, HB4.out⟩
  have e2 : (oa.kind == 6) = false := by simpa using g2
  by_cases g3 : ob.kind = 6
  · have e3 : (ob.kind == 6) = true := by simpa using g3
    clear g1 g2 g3
    go_wp2_with fail
    go_ret
    exact ⟨rfl, HB4.out⟩
  have e3 : (ob.kind == 6) = false := by simpa using g3
  by_cases g4 : 18 < nT
  · have e4 : (18 : Int) < (nT : Int) := by omega
    clear g1 g2 g3 g4
    go_wp2_with fail
    go_ret
    exact ⟨rfl, HB4.out⟩
  have e4 : ¬ ((18 : Int) < (nT : Int)) := by omega
  have hap := apart_math HTR.out HCA.out HCB.out g2 g3 g1 (by rw [← HTL.out]; omega)
  have r1 := do_right HTR.out oa
  have r2 := do_right HTR.out ob
  have r3 := do_right r1 ob
  have r4 := do_right r2 oa
  obtain ⟨U1, R1, h1⟩ : ∃ U R, doT T oa = (U, R) := ⟨_, _, rfl⟩
  obtain ⟨U3, R3, h3⟩ : ∃ U R, doT T ob = (U, R) := ⟨_, _, rfl⟩
  rw [h1] at hap r1 r3
  rw [h3] at hap r2 r4
  simp only at hap r1 r2 r3 r4
  obtain ⟨U2, R2, h2⟩ : ∃ U R, doT U1 ob = (U, R) := ⟨_, _, rfl⟩
  obtain ⟨U4, R4, h4⟩ : ∃ U R, doT U3 oa = (U, R) := ⟨_, _, rfl⟩
  rw [h2] at hap r3
  rw [h4] at hap r4
  simp only at hap r3 r4
  obtain ⟨m1, m2, m3⟩ := hap
  have M1 := Lib.hid m1; clear m1
  have M2 := Lib.hid m2; clear m2
  have M3 := Lib.hid m3; clear m3
  have H1 := Lib.hid h1; clear h1
  have H2 := Lib.hid h2; clear h2
  have H3 := Lib.hid h3; clear h3
  have H4 := Lib.hid h4; clear h4
  have G1 := Lib.hid r1; clear r1
  have G2 := Lib.hid r2; clear r2
  have G3 := Lib.hid r3; clear r3
  have G4 := Lib.hid r4; clear r4
  clear g1 g2 g3 g4
  have q_do := do_call kD H1.out HWA.out hcapT HTT4.out hnT
  go_wp2_with fail
  ((with_reducible refine q_do.mono ?_); rintro e W5 ⟨A1, n1, cap1, K1, k1, kc1, rfl, hcap1, ht_, hkc1, hs_, b_⟩)
  clear p0 p1 p2 p3 p4 p5 p6 q0 q1 q2 q3 q4 q5 q6
  go_upto_region 8 with fail
  have h_b := (bch HB4.out b_).alloc (bch HB4.out b_).size (.cells #[.int .i64 R1.errno, .int .i64 R1.rev, .string R1.value, .slice K1 k1 kc1] 37)
  have h_TT := (HTT4.out.below b_).below ((Below.refl _ _).alloc (Nat.le_refl _) (.cells #[.int .i64 R1.errno, .int .i64 R1.rev, .string R1.value, .slice K1 k1 kc1] 37))
  have h_OA := (HOA4.out.below b_).below ((Below.refl _ _).alloc (Nat.le_refl _) (.cells #[.int .i64 R1.errno, .int .i64 R1.rev, .string R1.value, .slice K1 k1 kc1] 37))
  have h_OB := (HOB4.out.below b_).below ((Below.refl _ _).alloc (Nat.le_refl _) (.cells #[.int .i64 R1.errno, .int .i64 R1.rev, .string R1.value, .slice K1 k1 kc1] 37))
  have h_T1 := IsTs.below ht_ ((Below.refl _ _).alloc (Nat.le_refl _) (.cells #[.int .i64 R1.errno, .int .i64 R1.rev, .string R1.value, .slice K1 k1 kc1] 37))
  have h_S1 := IsSs.below hs_ ((Below.refl _ _).alloc (Nat.le_refl _) (.cells #[.int .i64 R1.errno, .int .i64 R1.rev, .string R1.value, .slice K1 k1 kc1] 37))
  have h_P1 := Blk.new W5 (.cells #[.int .i64 R1.errno, .int .i64 R1.rev, .string R1.value, .slice K1 k1 kc1] 37)
  obtain ⟨V_W5, hV_⟩ : ∃ W, W5.alloc (.cells #[.int .i64 R1.errno, .int .i64 R1.rev, .string R1.value, .slice K1 k1 kc1] 37) = W := ⟨_, rfl⟩
  rw [hV_] at h_b h_TT h_OA h_OB h_T1 h_S1 h_P1 ⊢
  clear hV_
  have HB5 := Lib.hid h_b; clear h_b
  have HTT5 := Lib.hid h_TT; clear h_TT
  have HOA5 := Lib.hid h_OA; clear h_OA
  have HOB5 := Lib.hid h_OB; clear h_OB
  have HT15 := Lib.hid h_T1; clear h_T1
  have HS15 := Lib.hid h_S1; clear h_S1
  have HP15 := Lib.hid h_P1; clear h_P1
  have hnb1 : n1 ≤ 20 := ts_len HT15.out G1.out
  clear b_ ht_ hs_ q_do
  obtain ⟨q0, q1, q2, q3, q4, q5, q6⟩ := HOB5.out.cells
  try simp only at q0 q1 q2 q3 q4 q5 q6
  have q_do := do_call kD H2.out HWB.out hcap1 HT15.out hnb1
  go_wp2_with fail
  ((with_reducible refine q_do.mono ?_); rintro e W6 ⟨A2, n2, cap2, K2, k2, kc2, rfl, hcap2, ht_, hkc2, hs_, b_⟩)
  clear q0 q1 q2 q3 q4 q5 q6
  go_upto_region 9 with fail
  have h_b := (bch HB5.out b_).alloc (bch HB5.out b_).size (.cells #[.int .i64 R2.errno, .int .i64 R2.rev, .string R2.value, .slice K2 k2 kc2] 37)
  have h_TT := (HTT5.out.below b_).below ((Below.refl _ _).alloc (Nat.le_refl _) (.cells #[.int .i64 R2.errno, .int .i64 R2.rev, .string R2.value, .slice K2 k2 kc2] 37))
  have h_OA := (HOA5.out.below b_).below ((Below.refl _ _).alloc (Nat.le_refl _) (.cells #[.int .i64 R2.errno, .int .i64 R2.rev, .string R2.value, .slice K2 k2 kc2] 37))
  have h_OB := (HOB5.out.below b_).below ((Below.refl _ _).alloc (Nat.le_refl _) (.cells #[.int .i64 R2.errno, .int .i64 R2.rev, .string R2.value, .slice K2 k2 kc2] 37))
  have h_S1 := (HS15.out.below b_).below ((Below.refl _ _).alloc (Nat.le_refl _) (.cells #[.int .i64 R2.errno, .int .i64 R2.rev, .string R2.value, .slice K2 k2 kc2] 37))
  have h_P1 := (HP15.out.below b_).below ((Below.refl _ _).alloc (Nat.le_refl _) (.cells #[.int .i64 R2.errno, .int .i64 R2.rev, .string R2.value, .slice K2 k2 kc2] 37))
  have h_T2 := IsTs.below ht_ ((Below.refl _ _).alloc (Nat.le_refl _) (.cells #[.int .i64 R2.errno, .int .i64 R2.rev, .string R2.value, .slice K2 k2 kc2] 37))
  have h_S2 := IsSs.below hs_ ((Below.refl _ _).alloc (Nat.le_refl _) (.cells #[.int .i64 R2.errno, .int .i64 R2.rev, .string R2.value, .slice K2 k2 kc2] 37))
  have h_P2 := Blk.new W6 (.cells #[.int .i64 R2.errno, .int .i64 R2.rev, .string R2.value, .slice K2 k2 kc2] 37)
  obtain ⟨V_W6, hV_⟩ : ∃ W, W6.alloc (.cells #[.int .i64 R2.errno, .int .i64 R2.rev, .string R2.value, .slice K2 k2 kc2] 37) = W := ⟨_, rfl⟩
  rw [hV_] at h_b h_TT h_OA h_OB h_S1 h_P1 h_T2 h_S2 h_P2 ⊢
  clear hV_
  have HB6 := Lib.hid h_b; clear h_b
  have HTT6 := Lib.hid h_TT; clear h_TT
  have HOA6 := Lib.hid h_OA; clear h_OA
  have HOB6 := Lib.hid h_OB; clear h_OB
  have HS16 := Lib.hid h_S1; clear h_S1
  have HP16 := Lib.hid h_P1; clear h_P1
  have HT26 := Lib.hid h_T2; clear h_T2
  have HS26 := Lib.hid h_S2; clear h_S2
  have HP26 := Lib.hid h_P2; clear h_P2
  have hnb2 : n2 ≤ 20 := ts_len HT26.out G3.out
  clear b_ ht_ hs_ q_do
  obtain ⟨q0, q1, q2, q3, q4, q5, q6⟩ := HOB6.out.cells
  try simp only at q0 q1 q2 q3 q4 q5 q6
  have q_do := do_call kD H3.out HWB.out hcapT HTT6.out hnT
  go_wp2_with fail
  ((with_reducible refine q_do.mono ?_); rintro e W7 ⟨A3, n3, cap3, K3, k3, kc3, rfl, hcap3, ht_, hkc3, hs_, b_⟩)
  clear q0 q1 q2 q3 q4 q5 q6
  go_upto_region 10 with fail
  have h_b := (bch HB6.out b_).alloc (bch HB6.out b_).size (.cells #[.int .i64 R3.errno, .int .i64 R3.rev, .string R3.value, .slice K3 k3 kc3] 37)
  have h_OA := (HOA6.out.below b_).below ((Below.refl _ _).alloc (Nat.le_refl _) (.cells #[.int .i64 R3.errno, .int .i64 R3.rev, .string R3.value, .slice K3 k3 kc3] 37))
  have h_S1 := (HS16.out.below b_).below ((Below.refl _ _).alloc (Nat.le_refl _) (.cells #[.int .i64 R3.errno, .int .i64 R3.rev, .string R3.value, .slice K3 k3 kc3] 37))
  have h_P1 := (HP16.out.below b_).below ((Below.refl _ _).alloc (Nat.le_refl _) (.cells #[.int .i64 R3.errno, .int .i64 R3.rev, .string R3.value, .slice K3 k3 kc3] 37))
  have h_T2 := (HT26.out.below b_).below ((Below.refl _ _).alloc (Nat.le_refl _) (.cells #[.int .i64 R3.errno, .int .i64 R3.rev, .string R3.value, .slice K3 k3 kc3] 37))
  have h_S2 := (HS26.out.below b_).below ((Below.refl _ _).alloc (Nat.le_refl _) (.cells #[.int .i64 R3.errno, .int .i64 R3.rev, .string R3.value, .slice K3 k3 kc3] 37))
  have h_P2 := (HP26.out.below b_).below ((Below.refl _ _).alloc (Nat.le_refl _) (.cells #[.int .i64 R3.errno, .int .i64 R3.rev, .string R3.value, .slice K3 k3 kc3] 37))
  have h_T3 := IsTs.below ht_ ((Below.refl _ _).alloc (Nat.le_refl _) (.cells #[.int .i64 R3.errno, .int .i64 R3.rev, .string R3.value, .slice K3 k3 kc3] 37))
  have h_S3 := IsSs.below hs_ ((Below.refl _ _).alloc (Nat.le_refl _) (.cells #[.int .i64 R3.errno, .int .i64 R3.rev, .string R3.value, .slice K3 k3 kc3] 37))
  have h_P3 := Blk.new W7 (.cells #[.int .i64 R3.errno, .int .i64 R3.rev, .string R3.value, .slice K3 k3 kc3] 37)
  obtain ⟨V_W7, hV_⟩ : ∃ W, W7.alloc (.cells #[.int .i64 R3.errno, .int .i64 R3.rev, .string R3.value, .slice K3 k3 kc3] 37) = W := ⟨_, rfl⟩
  rw [hV_] at h_b h_OA h_S1 h_P1 h_T2 h_S2 h_P2 h_T3 h_S3 h_P3 ⊢
  clear hV_
  have HB7 := Lib.hid h_b; clear h_b
  have HOA7 := Lib.hid h_OA; clear h_OA
  have HS17 := Lib.hid h_S1; clear h_S1
  have HP17 := Lib.hid h_P1; clear h_P1
  have HT27 := Lib.hid h_T2; clear h_T2
  have HS27 := Lib.hid h_S2; clear h_S2
  have HP27 := Lib.hid h_P2; clear h_P2
  have HT37 := Lib.hid h_T3; clear h_T3
  have HS37 := Lib.hid h_S3; clear h_S3
  have HP37 := Lib.hid h_P3; clear h_P3
  have hnb3 : n3 ≤ 20 := ts_len HT37.out G2.out
  clear b_ ht_ hs_ q_do
  obtain ⟨p0, p1, p2, p3, p4, p5, p6⟩ := HOA7.out.cells
  try simp only at p0 p1 p2 p3 p4 p5 p6
  have q_do := do_call kD H4.out HWA.out hcap3 HT37.out hnb3
  go_wp2_with fail
  ((with_reducible refine q_do.mono ?_); rintro e W8 ⟨A4, n4, cap4, K4, k4, kc4, rfl, hcap4, ht_, hkc4, hs_, b_⟩)
  clear p0 p1 p2 p3 p4 p5 p6
  go_upto_region 11 with fail
  have h_b := (bch HB7.out b_).alloc (bch HB7.out b_).size (.cells #[.int .i64 R4.errno, .int .i64 R4.rev, .string R4.value, .slice K4 k4 kc4] 37)
  have h_S1 := (HS17.out.below b_).below ((Below.refl _ _).alloc (Nat.le_refl _) (.cells #[.int .i64 R4.errno, .int .i64 R4.rev, .string R4.value, .slice K4 k4 kc4] 37))
  have h_P1 := (HP17.out.below b_).below ((Below.refl _ _).alloc (Nat.le_refl _) (.cells #[.int .i64 R4.errno, .int .i64 R4.rev, .string R4.value, .slice K4 k4 kc4] 37))
  have h_T2 := (HT27.out.below b_).below ((Below.refl _ _).alloc (Nat.le_refl _) (.cells #[.int .i64 R4.errno, .int .i64 R4.rev, .string R4.value, .slice K4 k4 kc4] 37))
  have h_S2 := (HS27.out.below b_).below ((Below.refl _ _).alloc (Nat.le_refl _) (.cells #[.int .i64 R4.errno, .int .i64 R4.rev, .string R4.value, .slice K4 k4 kc4] 37))
  have h_P2 := (HP27.out.below b_).below ((Below.refl _ _).alloc (Nat.le_refl _) (.cells #[.int .i64 R4.errno, .int .i64 R4.rev, .string R4.value, .slice K4 k4 kc4] 37))
  have h_S3 := (HS37.out.below b_).below ((Below.refl _ _).alloc (Nat.le_refl _) (.cells #[.int .i64 R4.errno, .int .i64 R4.rev, .string R4.value, .slice K4 k4 kc4] 37))
  have h_P3 := (HP37.out.below b_).below ((Below.refl _ _).alloc (Nat.le_refl _) (.cells #[.int .i64 R4.errno, .int .i64 R4.rev, .string R4.value, .slice K4 k4 kc4] 37))
  have h_T4 := IsTs.below ht_ ((Below.refl _ _).alloc (Nat.le_refl _) (.cells #[.int .i64 R4.errno, .int .i64 R4.rev, .string R4.value, .slice K4 k4 kc4] 37))
  have h_S4 := IsSs.below hs_ ((Below.refl _ _).alloc (Nat.le_refl _) (.cells #[.int .i64 R4.errno, .int .i64 R4.rev, .string R4.value, .slice K4 k4 kc4] 37))
  have h_P4 := Blk.new W8 (.cells #[.int .i64 R4.errno, .int .i64 R4.rev, .string R4.value, .slice K4 k4 kc4] 37)
  obtain ⟨V_W8, hV_⟩ : ∃ W, W8.alloc (.cells #[.int .i64 R4.errno, .int .i64 R4.rev, .string R4.value, .slice K4 k4 kc4] 37) = W := ⟨_, rfl⟩
  rw [hV_] at h_b h_S1 h_P1 h_T2 h_S2 h_P2 h_S3 h_P3 h_T4 h_S4 h_P4 ⊢
  clear hV_
  have HB8 := Lib.hid h_b; clear h_b
  have HS18 := Lib.hid h_S1; clear h_S1
  have HP18 := Lib.hid h_P1; clear h_P1
  have HT28 := Lib.hid h_T2; clear h_T2
  have HS28 := Lib.hid h_S2; clear h_S2
  have HP28 := Lib.hid h_P2; clear h_P2
  have HS38 := Lib.hid h_S3; clear h_S3
  have HP38 := Lib.hid h_P3; clear h_P3
  have HT48 := Lib.hid h_T4; clear h_T4
  have HS48 := Lib.hid h_S4; clear h_S4
  have HP48 := Lib.hid h_P4; clear h_P4
  have hnb4 : n4 ≤ 20 := ts_len HT48.out G4.out
  clear b_ ht_ hs_ q_do
  have q_s := refsame12_any U2 U4 _ _ n2 n4 cap2 cap4 _ HT28.out HT48.out
  rw [sameT_iff.2 M1.out] at q_s
  go_wp2_with fail
  ((with_reducible refine q_s.mono ?_); rintro e W9 ⟨rfl, b_⟩)
  have h_b := bch HB8.out b_
  have h_S1 := HS18.out.below b_
  have h_P1 := HP18.out.below b_
  have h_S2 := HS28.out.below b_
  have h_P2 := HP28.out.below b_
  have h_S3 := HS38.out.below b_
  have h_P3 := HP38.out.below b_
  have h_S4 := HS48.out.below b_
  have h_P4 := HP48.out.below b_
  have HB9 := Lib.hid h_b; clear h_b
  have HS19 := Lib.hid h_S1; clear h_S1
  have HP19 := Lib.hid h_P1; clear h_P1
  have HS29 := Lib.hid h_S2; clear h_S2
  have HP29 := Lib.hid h_P2; clear h_P2
  have HS39 := Lib.hid h_S3; clear h_S3
  have HP39 := Lib.hid h_P3; clear h_P3
  have HS49 := Lib.hid h_S4; clear h_S4
  have HP49 := Lib.hid h_P4; clear h_P4
  clear b_ q_s
  have c0 := Blk.cell HP19.out 0
  have c1 := Blk.cell HP19.out 1
  have c2 := Blk.cell HP19.out 2
  have c3 := Blk.cell HP19.out 3
  simp only [List.getElem?_toArray, List.getElem?_cons_zero, List.getElem?_cons_succ] at c0 c1 c2 c3
  have d0 := Blk.cell HP49.out 0
  have d1 := Blk.cell HP49.out 1
  have d2 := Blk.cell HP49.out 2
  have d3 := Blk.cell HP49.out 3
  simp only [List.getElem?_toArray, List.getElem?_cons_zero, List.getElem?_cons_succ] at d0 d1 d2 d3
  have q_r := refsamerep_any R1 R4 _ _ k1 kc1 k4 kc4 W9 HS19.out HS49.out
  rw [sameRp_iff.2 M2.out] at q_r
  unfold rpV at q_r
  go_wp2_with fail
  ((with_reducible refine q_r.mono ?_); rintro e W10 ⟨rfl, b_⟩)
  clear c0 c1 c2 c3 d0 d1 d2 d3
  have h_b := bch HB9.out b_
  have h_S1 := HS19.out.below b_
  have h_P1 := HP19.out.below b_
  have h_S2 := HS29.out.below b_
  have h_P2 := HP29.out.below b_
  have h_S3 := HS39.out.below b_
  have h_P3 := HP39.out.below b_
  have h_S4 := HS49.out.below b_
  have h_P4 := HP49.out.below b_
  have HB10 := Lib.hid h_b; clear h_b
  have HS110 := Lib.hid h_S1; clear h_S1
  have HP110 := Lib.hid h_P1; clear h_P1
  have HS210 := Lib.hid h_S2; clear h_S2
  have HP210 := Lib.hid h_P2; clear h_P2
  have HS310 := Lib.hid h_S3; clear h_S3
  have HP310 := Lib.hid h_P3; clear h_P3
  have HS410 := Lib.hid h_S4; clear h_S4
  have HP410 := Lib.hid h_P4; clear h_P4
  clear b_ q_r
  have c0 := Blk.cell HP210.out 0
  have c1 := Blk.cell HP210.out 1
  have c2 := Blk.cell HP210.out 2
  have c3 := Blk.cell HP210.out 3
  simp only [List.getElem?_toArray, List.getElem?_cons_zero, List.getElem?_cons_succ] at c0 c1 c2 c3
  have d0 := Blk.cell HP310.out 0
  have d1 := Blk.cell HP310.out 1
  have d2 := Blk.cell HP310.out 2
  have d3 := Blk.cell HP310.out 3
  simp only [List.getElem?_toArray, List.getElem?_cons_zero, List.getElem?_cons_succ] at d0 d1 d2 d3
  have q_r := refsamerep_any R2 R3 _ _ k2 kc2 k3 kc3 W10 HS210.out HS310.out
  rw [sameRp_iff.2 M3.out] at q_r
  unfold rpV at q_r
  go_wp2_with fail
  ((with_reducible refine q_r.mono ?_); rintro e W11 ⟨rfl, b_⟩)
  clear c0 c1 c2 c3 d0 d1 d2 d3
  have h_b := bch HB10.out b_
  have h_S1 := HS110.out.below b_
  have h_P1 := HP110.out.below b_
  have h_S2 := HS210.out.below b_
  have h_P2 := HP210.out.below b_
  have h_S3 := HS310.out.below b_
  have h_P3 := HP310.out.below b_
  have h_S4 := HS410.out.below b_
  have h_P4 := HP410.out.below b_
  have HB11 := Lib.hid h_b; clear h_b
  have HS111 := Lib.hid h_S1; clear h_S1
  have HP111 := Lib.hid h_P1; clear h_P1
  have HS211 := Lib.hid h_S2; clear h_S2
  have HP211 := Lib.hid h_P2; clear h_P2
  have HS311 := Lib.hid h_S3; clear h_S3
  have HP311 := Lib.hid h_P3; clear h_P3
  have HS411 := Lib.hid h_S4; clear h_S4
  have HP411 := Lib.hid h_P4; clear h_P4
  clear b_ q_r
  go_wp2_with fail
  go_ret
  exact ⟨rfl, HB11.out⟩
end Go.Proofs.Ytpnkkiokkhmjpaa
