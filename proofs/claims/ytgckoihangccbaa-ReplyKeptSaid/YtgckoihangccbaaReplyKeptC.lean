import Derived.Test.YtgckoihangccbaaRpLaw
/-
  The walk of the law ReplyKept, over what is asked of the program (stage 13).
-/
namespace Go.Proofs.Ytgckoihangccbaa
open Go.RowKit
set_option linter.unusedVariables false
set_option linter.unusedSimpArgs false

set_option maxRecDepth 100000 in
set_option maxHeartbeats 8000000 in
theorem replyKept_core (kK : KeepQ) (kL : LookQ) (kR : RightQ13) (kS : SameQ13) (kA : SameAllQ) (a0 : Option Addr) (n0 cap0 : Nat) (f : Nat → Nat → Int) (x1 x2 x3 x40 x41 x42 : Int) (w : World) (h0 : IsRaw w a0 n0 5 f) (w1 : (Lit.int .i64 x1).wf = true) (w2 : (Lit.int .i64 x2).wf = true) (w3 : (Lit.int .i64 x3).wf = true) (w40 : (Lit.int .i64 x40).wf = true) (w41 : (Lit.int .i64 x41).wf = true) (w42 : (Lit.int .i64 x42).wf = true) :
    Calls Try.prog 3 #[.slice a0 n0 cap0, .int .i64 x1, .int .i64 x2, .int .i64 x3, .agg #[.int .i64 x40, .int .i64 x41, .int .i64 x42]] w fun e w' => e = .returned (.bool true) ∧ Below w.heap.size w w' := by
  have p1 := fun W => pickN13_nat x1 10 (by omega) (by omega) w1 W
  have p2 := fun W => pickN13_nat x2 10 (by omega) (by omega) w2 W
  have p3 := fun W => pickN13_nat x3 100 (by omega) (by omega) w3 W
  have qa : ∀ W, Calls Try.prog 10 #[.agg #[.int .i64 x40, .int .i64 x41, .int .i64 x42]] W (OwnR13 W (ansR (three x40 x41 x42))) := fun W => answer_any (three x40 x41 x42) (three_wf w40 w41 w42) W
  have HMX := Lib.hid (ans_may (three x40 x41 x42))
  generalize ansR (three x40 x41 x42) = x at *
  have b1 := pickN_lt x1 10 (by omega)
  have b2 := pickN_lt x2 10 (by omega)
  have b3 := pickN_lt x3 100 (by omega)
  generalize pickN x1 10 = i1 at *
  generalize pickN x2 10 = i2 at *
  generalize pickN x3 100 = i3 at *
  obtain ⟨a, ha⟩ : ∃ a : Int, 1 + (i1 : Int) = a := ⟨_, rfl⟩
  obtain ⟨b, hb⟩ : ∃ b : Int, 1 + (i2 : Int) = b := ⟨_, rfl⟩
  obtain ⟨n, hn⟩ : ∃ n : Int, 100 + (i3 : Int) = n := ⟨_, rfl⟩
  have wa : IntKind.i64.wrap (1 + (i1 : Int)) = a := by rw [← ha]; exact IntWalk.i64_in _ (by omega)
  have wb : IntKind.i64.wrap (1 + (i2 : Int)) = b := by rw [← hb]; exact IntWalk.i64_in _ (by omega)
  have wn : IntKind.i64.wrap (100 + (i3 : Int)) = n := by rw [← hn]; exact IntWalk.i64_in _ (by omega)
  have HA : Hid (1 ≤ a ∧ a ≤ 10) := ⟨by omega, by omega⟩
  have HBN : Hid (1 ≤ b ∧ b ≤ 10) := ⟨by omega, by omega⟩
  have HNN : Hid (100 ≤ n ∧ n ≤ 199) := ⟨by omega, by omega⟩
  have wn1 : IntKind.i64.wrap (n + 1) = n + 1 := IntWalk.i64_in _ (by omega)
  have wn2 : IntKind.i64.wrap (n - 1) = n - 1 := IntWalk.i64_in _ (by omega)
  clear b1 b2 b3 ha hb hn
  have HRL := Lib.hid (cacheR_right f n0)
  have HM := Lib.hid (kept_math HRL.out (cacheR_ids f n0) HA.out HBN.out HNN.out HMX.out)
  have hbw : Below w.heap.size w (w.alloc (.cells #[.int .i64 x40, .int .i64 x41, .int .i64 x42] 23)) := (Below.refl _ _).alloc (Nat.le_refl _) _
  have hra := Blk.new w (.cells #[.int .i64 x40, .int .i64 x41, .int .i64 x42] 23)
  have hraw := h0.below hbw
  obtain ⟨W0, hW0⟩ : ∃ W, w.alloc (.cells #[.int .i64 x40, .int .i64 x41, .int .i64 x42] 23) = W := ⟨_, rfl⟩
  rw [hW0] at hbw hra hraw
  have HB0 := Lib.hid hbw; clear hbw
  have Hraw0 := Lib.hid hraw; clear hraw h0
  have Hans0 := Lib.hid hra; clear hra
  go_enter Try.func3, Try.ntmps3
  go_upto_region 1 with fail
  try rw [hW0]
  clear hW0
  have q_aw := fun W => awake13_any kK kL kR kS kA W
  go_wp2_with fail
  ((with_reducible refine (q_aw _).mono ?_); rintro e W1 ⟨rfl, b_⟩)
  have h_b := bch HB0.out b_
  have h_raw := Hraw0.out.below b_
  have h_ans := Hans0.out.below b_
  have HB1 := Lib.hid h_b; clear h_b
  have Hraw1 := Lib.hid h_raw; clear h_raw
  have Hans1 := Lib.hid h_ans; clear h_ans
  clear b_
  clear q_aw
  have q_c := cache_any answer_any f a0 n0 cap0 _ Hraw1.out
  go_wp2_with fail
  ((with_reducible refine q_c.mono ?_); rintro e W2 ⟨Al, nl, capl, rfl, hcapl, hds_, b_⟩)
  have h_b := bch HB1.out b_
  have h_ans := Hans1.out.below b_
  have h_Dl := hds_
  have HB2 := Lib.hid h_b; clear h_b
  have Hans2 := Lib.hid h_ans; clear h_ans
  have HDl2 := Lib.hid h_Dl; clear h_Dl
  clear b_ hds_ q_c
  generalize cacheR f n0 = l at *
  have hnl : nl = l.length := HDl2.out.1
  have HNL := Lib.hid hnl; clear hnl
  go_wp2_with fail
  ((with_reducible refine (p1 _).mono ?_); rintro e W_ ⟨rfl, rfl⟩)
  go_wp2_with fail
  ((with_reducible refine (p2 _).mono ?_); rintro e W_ ⟨rfl, rfl⟩)
  go_wp2_with fail
  ((with_reducible refine (p3 _).mono ?_); rintro e W_ ⟨rfl, rfl⟩)
  have y0 := Blk.cell Hans2.out 0
  have y1 := Blk.cell Hans2.out 1
  have y2 := Blk.cell Hans2.out 2
  simp only [List.getElem?_toArray, List.getElem?_cons_zero, List.getElem?_cons_succ] at y0 y1 y2
  go_wp2_with fail
  ((with_reducible refine (qa _).mono ?_); rintro e W3 ⟨Kx, kx, kcx, rfl, hkcx, hss_, b_⟩)
  clear y0 y1 y2
  unfold rpV
  go_upto_region 7 with fail
  have h_b := (bch HB2.out b_).alloc (bch HB2.out b_).size (.cells #[.int .i64 x.errno, .int .i64 x.rev, .string x.value, .slice Kx kx kcx] 31)
  have h_Dl := (HDl2.out.below b_).below ((Below.refl _ _).alloc (Nat.le_refl _) (.cells #[.int .i64 x.errno, .int .i64 x.rev, .string x.value, .slice Kx kx kcx] 31))
  have h_X := Blk.new W3 (.cells #[.int .i64 x.errno, .int .i64 x.rev, .string x.value, .slice Kx kx kcx] 31)
  have h_SX := IsSs.below hss_ ((Below.refl _ _).alloc (Nat.le_refl _) (.cells #[.int .i64 x.errno, .int .i64 x.rev, .string x.value, .slice Kx kx kcx] 31))
  obtain ⟨V3, hV_⟩ : ∃ W, W3.alloc (.cells #[.int .i64 x.errno, .int .i64 x.rev, .string x.value, .slice Kx kx kcx] 31) = W := ⟨_, rfl⟩
  rw [hV_] at h_b h_Dl h_X h_SX ⊢
  clear hV_
  have HB3 := Lib.hid h_b; clear h_b
  have HDl3 := Lib.hid h_Dl; clear h_Dl
  have HX3 := Lib.hid h_X; clear h_X
  have HSX3 := Lib.hid h_SX; clear h_SX
  clear b_ hss_ qa p1 p2 p3
  rcases HM.out with ⟨h8, he⟩ | ⟨M, hM, RM, hrest⟩
  · have HE := Lib.hid he; clear he
    have HL8 := Lib.hid h8; clear h8
    have e8 : ((nl : Int) == 8) = true := by rw [beq_iff_eq]; have := HNL.out; have := HL8.out; omega
    have y0 := Blk.cell HX3.out 0
    have y1 := Blk.cell HX3.out 1
    have y2 := Blk.cell HX3.out 2
    have y3 := Blk.cell HX3.out 3
    simp only [List.getElem?_toArray, List.getElem?_cons_zero, List.getElem?_cons_succ] at y0 y1 y2 y3
    have q_k : Calls Try.prog 11 #[.slice Al nl capl, .int .i64 a, .int .i64 n, .agg #[.int .i64 x.errno, .int .i64 x.rev, .string x.value, .slice Kx kx kcx]] V3 (KeepPost V3 [] 50) := keep_call kK HE.out (goodC_of HA.out.1 (by have := HA.out; omega) (by have := HNN.out; omega) (by have := HNN.out; omega)) HMX.out hcapl HDl3.out HRL.out hkcx HSX3.out
    go_wp2_with fail
    ((with_reducible refine q_k.mono ?_); rintro e W4 ⟨Am, nm, capm, rfl, hcapm, hds_, b_⟩)
    clear y0 y1 y2 y3
    have h_b := bch HB3.out b_
    have h_Dl := HDl3.out.below b_
    have h_X := HX3.out.below b_
    have h_SX := HSX3.out.below b_
    have h_Dm := hds_
    have HB4 := Lib.hid h_b; clear h_b
    have HDl4 := Lib.hid h_Dl; clear h_Dl
    have HX4 := Lib.hid h_X; clear h_X
    have HSX4 := Lib.hid h_SX; clear h_SX
    have HDm4 := Lib.hid h_Dm; clear h_Dm
    clear b_ hds_ q_k
    go_wp2_with fail
    go_ret
    exact ⟨rfl, HB4.out⟩
  have HE := Lib.hid hM; clear hM
  have HRM := Lib.hid RM; clear RM
  have HREST := Lib.hid hrest; clear hrest HM
  have y0 := Blk.cell HX3.out 0
  have y1 := Blk.cell HX3.out 1
  have y2 := Blk.cell HX3.out 2
  have y3 := Blk.cell HX3.out 3
  simp only [List.getElem?_toArray, List.getElem?_cons_zero, List.getElem?_cons_succ] at y0 y1 y2 y3
  have q_k : Calls Try.prog 11 #[.slice Al nl capl, .int .i64 a, .int .i64 n, .agg #[.int .i64 x.errno, .int .i64 x.rev, .string x.value, .slice Kx kx kcx]] V3 (KeepPost V3 M 0) := keep_call kK HE.out (goodC_of HA.out.1 (by have := HA.out; omega) (by have := HNN.out; omega) (by have := HNN.out; omega)) HMX.out hcapl HDl3.out HRL.out hkcx HSX3.out
  go_wp2_with fail
  ((with_reducible refine q_k.mono ?_); rintro e W4 ⟨Am, nm, capm, rfl, hcapm, hds_, b_⟩)
  clear y0 y1 y2 y3
  have h_b := bch HB3.out b_
  have h_X := HX3.out.below b_
  have h_SX := HSX3.out.below b_
  have h_Dm := hds_
  have HB4 := Lib.hid h_b; clear h_b
  have HX4 := Lib.hid h_X; clear h_X
  have HSX4 := Lib.hid h_SX; clear h_SX
  have HDm4 := Lib.hid h_Dm; clear h_Dm
  clear b_ hds_ q_k
  by_cases hab : a = b
  · have eab : (a == b) = true := by rw [beq_iff_eq]; exact hab
    clear hab
    go_wp2_with fail
    go_ret
    exact ⟨rfl, HB4.out⟩
  have eab : (a == b) = false := by rw [beq_eq_false_iff_ne]; exact hab
  obtain ⟨O, OO, eo, k1, hoo, ROO, k2, k3, k4, k5, P, k6, RP, hlen, k7, k8⟩ := HREST.out hab
  have K1 := Lib.hid k1; clear k1
  have K2 := Lib.hid k2; clear k2
  have K3 := Lib.hid k3; clear k3
  have K4 := Lib.hid k4; clear k4
  have K5 := Lib.hid k5; clear k5
  have K6 := Lib.hid k6; clear k6
  have K7 := Lib.hid k7; clear k7
  have K8 := Lib.hid k8; clear k8
  have HROO := Lib.hid ROO; clear ROO
  have HRP := Lib.hid RP; clear RP
  have HLN := Lib.hid hlen; clear hlen hab HREST
  have hGb := goodC_of (c := b) (i := 1000) HBN.out.1 (by have := HBN.out; omega) (by omega) (by omega)
  have HGB := Lib.hid hGb; clear hGb
  have HG0 : Hid (GoodC a (n)) := goodC_of HA.out.1 (by have := HA.out; omega) (by have := HNN.out; omega) (by have := HNN.out; omega)
  have HG1 : Hid (GoodC a (n + 1)) := goodC_of HA.out.1 (by have := HA.out; omega) (by have := HNN.out; omega) (by have := HNN.out; omega)
  have HG2 : Hid (GoodC a (n - 1)) := goodC_of HA.out.1 (by have := HA.out; omega) (by have := HNN.out; omega) (by have := HNN.out; omega)
  rcases hoo with ⟨h1, h2⟩ | ⟨h1, h2⟩
  · subst h1
    subst h2
    have q_k : Calls Try.prog 11 #[.slice Am nm capm, .int .i64 b, .int .i64 1000, .agg #[.int .i64 0, .int .i64 0, .string ⟨#[]⟩, .slice none 0 0]] W4 (KeepPost W4 O 50) := keep_call kK K1.out HGB.out (rev_may (by omega) (by omega)) hcapm HDm4.out HRM.out (Nat.le_refl 0) (isSs_nil _ none)
    go_wp2_with fail
    ((with_reducible refine q_k.mono ?_); rintro e W5 ⟨Ao, no, capo, rfl, hcapo, hds_, b_⟩)
    have h_b := bch HB4.out b_
    have h_X := HX4.out.below b_
    have h_SX := HSX4.out.below b_
    have h_Dm := HDm4.out.below b_
    have h_Do := hds_
    have HB5 := Lib.hid h_b; clear h_b
    have HX5 := Lib.hid h_X; clear h_X
    have HSX5 := Lib.hid h_SX; clear h_SX
    have HDm5 := Lib.hid h_Dm; clear h_Dm
    have HDo5 := Lib.hid h_Do; clear h_Do
    clear b_ hds_ q_k
    have q_l : Calls Try.prog 12 #[.slice Am nm capm, .int .i64 a, .int .i64 n] W5 (fun e w' => ∃ K k kc, e = .returned (.tuple #[.agg #[.int .i64 x.errno, .int .i64 x.rev, .string x.value, .slice K k kc], .int .i64 0]) ∧ k ≤ kc ∧ IsSs w' K k x.keys ∧ Below W5.heap.size W5 w') := look_call kL K2.out HG0.out hcapm HDm5.out HROO.out
    go_wp2_with fail
    ((with_reducible refine q_l.mono ?_); rintro e W6 ⟨Ky, ky, kcy, rfl, hkcy, hss_, b_⟩)
    go_upto_region 16 with fail
    have h_b := (bch HB5.out b_).alloc (bch HB5.out b_).size (.cells #[.int .i64 x.errno, .int .i64 x.rev, .string x.value, .slice Ky ky kcy] 31)
    have h_X := (HX5.out.below b_).below ((Below.refl _ _).alloc (Nat.le_refl _) (.cells #[.int .i64 x.errno, .int .i64 x.rev, .string x.value, .slice Ky ky kcy] 31))
    have h_SX := (HSX5.out.below b_).below ((Below.refl _ _).alloc (Nat.le_refl _) (.cells #[.int .i64 x.errno, .int .i64 x.rev, .string x.value, .slice Ky ky kcy] 31))
    have h_Dm := (HDm5.out.below b_).below ((Below.refl _ _).alloc (Nat.le_refl _) (.cells #[.int .i64 x.errno, .int .i64 x.rev, .string x.value, .slice Ky ky kcy] 31))
    have h_By := Blk.new W6 (.cells #[.int .i64 x.errno, .int .i64 x.rev, .string x.value, .slice Ky ky kcy] 31)
    have h_Sy := IsSs.below hss_ ((Below.refl _ _).alloc (Nat.le_refl _) (.cells #[.int .i64 x.errno, .int .i64 x.rev, .string x.value, .slice Ky ky kcy] 31))
    obtain ⟨V_W6, hV_⟩ : ∃ W, W6.alloc (.cells #[.int .i64 x.errno, .int .i64 x.rev, .string x.value, .slice Ky ky kcy] 31) = W := ⟨_, rfl⟩
    rw [hV_] at h_b h_X h_SX h_Dm h_By h_Sy ⊢
    clear hV_
    have HB6 := Lib.hid h_b; clear h_b
    have HX6 := Lib.hid h_X; clear h_X
    have HSX6 := Lib.hid h_SX; clear h_SX
    have HDm6 := Lib.hid h_Dm; clear h_Dm
    have HBy6 := Lib.hid h_By; clear h_By
    have HSy6 := Lib.hid h_Sy; clear h_Sy
    clear b_ hss_ q_l
    have q_l : Calls Try.prog 12 #[.slice Am nm capm, .int .i64 a, .int .i64 (n + 1)] V_W6 (fun e w' => ∃ K k kc, e = .returned (.tuple #[.agg #[.int .i64 0, .int .i64 0, .string ⟨#[]⟩, .slice K k kc], .int .i64 70]) ∧ k ≤ kc ∧ IsSs w' K k [] ∧ Below V_W6.heap.size V_W6 w') := look_call kL K3.out HG1.out hcapm HDm6.out HROO.out
    go_wp2_with fail
    ((with_reducible refine q_l.mono ?_); rintro e W7 ⟨Ku, ku, kcu, rfl, hkcu, hss_, b_⟩)
    go_upto_region 17 with fail
    have h_b := (bch HB6.out b_).alloc (bch HB6.out b_).size (.cells #[.int .i64 0, .int .i64 0, .string ⟨#[]⟩, .slice Ku ku kcu] 31)
    have h_X := (HX6.out.below b_).below ((Below.refl _ _).alloc (Nat.le_refl _) (.cells #[.int .i64 0, .int .i64 0, .string ⟨#[]⟩, .slice Ku ku kcu] 31))
    have h_SX := (HSX6.out.below b_).below ((Below.refl _ _).alloc (Nat.le_refl _) (.cells #[.int .i64 0, .int .i64 0, .string ⟨#[]⟩, .slice Ku ku kcu] 31))
    have h_Dm := (HDm6.out.below b_).below ((Below.refl _ _).alloc (Nat.le_refl _) (.cells #[.int .i64 0, .int .i64 0, .string ⟨#[]⟩, .slice Ku ku kcu] 31))
    have h_By := (HBy6.out.below b_).below ((Below.refl _ _).alloc (Nat.le_refl _) (.cells #[.int .i64 0, .int .i64 0, .string ⟨#[]⟩, .slice Ku ku kcu] 31))
    have h_Sy := (HSy6.out.below b_).below ((Below.refl _ _).alloc (Nat.le_refl _) (.cells #[.int .i64 0, .int .i64 0, .string ⟨#[]⟩, .slice Ku ku kcu] 31))
    obtain ⟨V_W7, hV_⟩ : ∃ W, W7.alloc (.cells #[.int .i64 0, .int .i64 0, .string ⟨#[]⟩, .slice Ku ku kcu] 31) = W := ⟨_, rfl⟩
    rw [hV_] at h_b h_X h_SX h_Dm h_By h_Sy ⊢
    clear hV_
    have HB7 := Lib.hid h_b; clear h_b
    have HX7 := Lib.hid h_X; clear h_X
    have HSX7 := Lib.hid h_SX; clear h_SX
    have HDm7 := Lib.hid h_Dm; clear h_Dm
    have HBy7 := Lib.hid h_By; clear h_By
    have HSy7 := Lib.hid h_Sy; clear h_Sy
    clear b_ hss_ q_l
    have q_l : Calls Try.prog 12 #[.slice Am nm capm, .int .i64 a, .int .i64 (n - 1)] V_W7 (fun e w' => ∃ K k kc, e = .returned (.tuple #[.agg #[.int .i64 0, .int .i64 0, .string ⟨#[]⟩, .slice K k kc], .int .i64 81]) ∧ k ≤ kc ∧ IsSs w' K k [] ∧ Below V_W7.heap.size V_W7 w') := look_call kL K4.out HG2.out hcapm HDm7.out HROO.out
    go_wp2_with fail
    ((with_reducible refine q_l.mono ?_); rintro e W8 ⟨Kv, kv, kcv, rfl, hkcv, hss_, b_⟩)
    go_upto_region 18 with fail
    have h_b := (bch HB7.out b_).alloc (bch HB7.out b_).size (.cells #[.int .i64 0, .int .i64 0, .string ⟨#[]⟩, .slice Kv kv kcv] 31)
    have h_X := (HX7.out.below b_).below ((Below.refl _ _).alloc (Nat.le_refl _) (.cells #[.int .i64 0, .int .i64 0, .string ⟨#[]⟩, .slice Kv kv kcv] 31))
    have h_SX := (HSX7.out.below b_).below ((Below.refl _ _).alloc (Nat.le_refl _) (.cells #[.int .i64 0, .int .i64 0, .string ⟨#[]⟩, .slice Kv kv kcv] 31))
    have h_Dm := (HDm7.out.below b_).below ((Below.refl _ _).alloc (Nat.le_refl _) (.cells #[.int .i64 0, .int .i64 0, .string ⟨#[]⟩, .slice Kv kv kcv] 31))
    have h_By := (HBy7.out.below b_).below ((Below.refl _ _).alloc (Nat.le_refl _) (.cells #[.int .i64 0, .int .i64 0, .string ⟨#[]⟩, .slice Kv kv kcv] 31))
    have h_Sy := (HSy7.out.below b_).below ((Below.refl _ _).alloc (Nat.le_refl _) (.cells #[.int .i64 0, .int .i64 0, .string ⟨#[]⟩, .slice Kv kv kcv] 31))
    obtain ⟨V_W8, hV_⟩ : ∃ W, W8.alloc (.cells #[.int .i64 0, .int .i64 0, .string ⟨#[]⟩, .slice Kv kv kcv] 31) = W := ⟨_, rfl⟩
    rw [hV_] at h_b h_X h_SX h_Dm h_By h_Sy ⊢
    clear hV_
    have HB8 := Lib.hid h_b; clear h_b
    have HX8 := Lib.hid h_X; clear h_X
    have HSX8 := Lib.hid h_SX; clear h_SX
    have HDm8 := Lib.hid h_Dm; clear h_Dm
    have HBy8 := Lib.hid h_By; clear h_By
    have HSy8 := Lib.hid h_Sy; clear h_Sy
    clear b_ hss_ q_l
    have y0 := Blk.cell HX8.out 0
    have y1 := Blk.cell HX8.out 1
    have y2 := Blk.cell HX8.out 2
    have y3 := Blk.cell HX8.out 3
    simp only [List.getElem?_toArray, List.getElem?_cons_zero, List.getElem?_cons_succ] at y0 y1 y2 y3
    have q_k : Calls Try.prog 11 #[.slice Am nm capm, .int .i64 a, .int .i64 n, .agg #[.int .i64 x.errno, .int .i64 x.rev, .string x.value, .slice Kx kx kcx]] V_W8 (KeepPost V_W8 [] 1) := keep_call kK K5.out HG0.out HMX.out hcapm HDm8.out HROO.out hkcx HSX8.out
    go_wp2_with fail
    ((with_reducible refine q_k.mono ?_); rintro e W9 ⟨Aj, nj, capj, rfl, hcapj, hds_, b_⟩)
    clear y0 y1 y2 y3
    have h_b := bch HB8.out b_
    have h_X := HX8.out.below b_
    have h_SX := HSX8.out.below b_
    have h_Dm := HDm8.out.below b_
    have h_By := HBy8.out.below b_
    have h_Sy := HSy8.out.below b_
    have h_Dj := hds_
    have HB9 := Lib.hid h_b; clear h_b
    have HX9 := Lib.hid h_X; clear h_X
    have HSX9 := Lib.hid h_SX; clear h_SX
    have HDm9 := Lib.hid h_Dm; clear h_Dm
    have HBy9 := Lib.hid h_By; clear h_By
    have HSy9 := Lib.hid h_Sy; clear h_Sy
    have HDj9 := Lib.hid h_Dj; clear h_Dj
    clear b_ hds_ q_k
    have q_k : Calls Try.prog 11 #[.slice Am nm capm, .int .i64 a, .int .i64 (n + 1), .agg #[.int .i64 0, .int .i64 1, .string ⟨#[]⟩, .slice none 0 0]] W9 (KeepPost W9 P 0) := keep_call kK K6.out HG1.out (rev_may (by omega) (by omega)) hcapm HDm9.out HROO.out (Nat.le_refl 0) (isSs_nil _ none)
    go_wp2_with fail
    ((with_reducible refine q_k.mono ?_); rintro e W10 ⟨Ap, np, capp, rfl, hcapp, hds_, b_⟩)
    have h_b := bch HB9.out b_
    have h_X := HX9.out.below b_
    have h_SX := HSX9.out.below b_
    have h_Dm := HDm9.out.below b_
    have h_By := HBy9.out.below b_
    have h_Sy := HSy9.out.below b_
    have h_Dp := hds_
    have HB10 := Lib.hid h_b; clear h_b
    have HX10 := Lib.hid h_X; clear h_X
    have HSX10 := Lib.hid h_SX; clear h_SX
    have HDm10 := Lib.hid h_Dm; clear h_Dm
    have HBy10 := Lib.hid h_By; clear h_By
    have HSy10 := Lib.hid h_Sy; clear h_Sy
    have HDp10 := Lib.hid h_Dp; clear h_Dp
    clear b_ hds_ q_k
    have hnO : nm = OO.length := HDm10.out.1
    have hnP : np = P.length := HDp10.out.1
    have enn : ((np : Int) == (nm : Int)) = true := by rw [beq_iff_eq]; have := HLN.out; omega
    clear hnO hnP
    have q_l : Calls Try.prog 12 #[.slice Ap np capp, .int .i64 a, .int .i64 (n + 1)] W10 (fun e w' => ∃ K k kc, e = .returned (.tuple #[.agg #[.int .i64 0, .int .i64 1, .string ⟨#[]⟩, .slice K k kc], .int .i64 0]) ∧ k ≤ kc ∧ IsSs w' K k [] ∧ Below W10.heap.size W10 w') := look_call kL K7.out HG1.out hcapp HDp10.out HRP.out
    go_wp2_with fail
    ((with_reducible refine q_l.mono ?_); rintro e W11 ⟨Kz, kz, kcz, rfl, hkcz, hss_, b_⟩)
    go_upto_region 21 with fail
    have h_b := (bch HB10.out b_).alloc (bch HB10.out b_).size (.cells #[.int .i64 0, .int .i64 1, .string ⟨#[]⟩, .slice Kz kz kcz] 31)
    have h_X := (HX10.out.below b_).below ((Below.refl _ _).alloc (Nat.le_refl _) (.cells #[.int .i64 0, .int .i64 1, .string ⟨#[]⟩, .slice Kz kz kcz] 31))
    have h_SX := (HSX10.out.below b_).below ((Below.refl _ _).alloc (Nat.le_refl _) (.cells #[.int .i64 0, .int .i64 1, .string ⟨#[]⟩, .slice Kz kz kcz] 31))
    have h_By := (HBy10.out.below b_).below ((Below.refl _ _).alloc (Nat.le_refl _) (.cells #[.int .i64 0, .int .i64 1, .string ⟨#[]⟩, .slice Kz kz kcz] 31))
    have h_Sy := (HSy10.out.below b_).below ((Below.refl _ _).alloc (Nat.le_refl _) (.cells #[.int .i64 0, .int .i64 1, .string ⟨#[]⟩, .slice Kz kz kcz] 31))
    have h_Dp := (HDp10.out.below b_).below ((Below.refl _ _).alloc (Nat.le_refl _) (.cells #[.int .i64 0, .int .i64 1, .string ⟨#[]⟩, .slice Kz kz kcz] 31))
    have h_Bz := Blk.new W11 (.cells #[.int .i64 0, .int .i64 1, .string ⟨#[]⟩, .slice Kz kz kcz] 31)
    have h_Sz := IsSs.below hss_ ((Below.refl _ _).alloc (Nat.le_refl _) (.cells #[.int .i64 0, .int .i64 1, .string ⟨#[]⟩, .slice Kz kz kcz] 31))
    obtain ⟨V_W11, hV_⟩ : ∃ W, W11.alloc (.cells #[.int .i64 0, .int .i64 1, .string ⟨#[]⟩, .slice Kz kz kcz] 31) = W := ⟨_, rfl⟩
    rw [hV_] at h_b h_X h_SX h_By h_Sy h_Dp h_Bz h_Sz ⊢
    clear hV_
    have HB11 := Lib.hid h_b; clear h_b
    have HX11 := Lib.hid h_X; clear h_X
    have HSX11 := Lib.hid h_SX; clear h_SX
    have HBy11 := Lib.hid h_By; clear h_By
    have HSy11 := Lib.hid h_Sy; clear h_Sy
    have HDp11 := Lib.hid h_Dp; clear h_Dp
    have HBz11 := Lib.hid h_Bz; clear h_Bz
    have HSz11 := Lib.hid h_Sz; clear h_Sz
    clear b_ hss_ q_l
    have q_l : Calls Try.prog 12 #[.slice Ap np capp, .int .i64 a, .int .i64 n] V_W11 (fun e w' => ∃ K k kc, e = .returned (.tuple #[.agg #[.int .i64 0, .int .i64 0, .string ⟨#[]⟩, .slice K k kc], .int .i64 81]) ∧ k ≤ kc ∧ IsSs w' K k [] ∧ Below V_W11.heap.size V_W11 w') := look_call kL K8.out HG0.out hcapp HDp11.out HRP.out
    go_wp2_with fail
    ((with_reducible refine q_l.mono ?_); rintro e W12 ⟨Ks, ks, kcs, rfl, hkcs, hss_, b_⟩)
    go_upto_region 22 with fail
    have h_b := (bch HB11.out b_).alloc (bch HB11.out b_).size (.cells #[.int .i64 0, .int .i64 0, .string ⟨#[]⟩, .slice Ks ks kcs] 31)
    have h_X := (HX11.out.below b_).below ((Below.refl _ _).alloc (Nat.le_refl _) (.cells #[.int .i64 0, .int .i64 0, .string ⟨#[]⟩, .slice Ks ks kcs] 31))
    have h_SX := (HSX11.out.below b_).below ((Below.refl _ _).alloc (Nat.le_refl _) (.cells #[.int .i64 0, .int .i64 0, .string ⟨#[]⟩, .slice Ks ks kcs] 31))
    have h_By := (HBy11.out.below b_).below ((Below.refl _ _).alloc (Nat.le_refl _) (.cells #[.int .i64 0, .int .i64 0, .string ⟨#[]⟩, .slice Ks ks kcs] 31))
    have h_Sy := (HSy11.out.below b_).below ((Below.refl _ _).alloc (Nat.le_refl _) (.cells #[.int .i64 0, .int .i64 0, .string ⟨#[]⟩, .slice Ks ks kcs] 31))
    have h_Dp := (HDp11.out.below b_).below ((Below.refl _ _).alloc (Nat.le_refl _) (.cells #[.int .i64 0, .int .i64 0, .string ⟨#[]⟩, .slice Ks ks kcs] 31))
    have h_Bz := (HBz11.out.below b_).below ((Below.refl _ _).alloc (Nat.le_refl _) (.cells #[.int .i64 0, .int .i64 0, .string ⟨#[]⟩, .slice Ks ks kcs] 31))
    obtain ⟨V_W12, hV_⟩ : ∃ W, W12.alloc (.cells #[.int .i64 0, .int .i64 0, .string ⟨#[]⟩, .slice Ks ks kcs] 31) = W := ⟨_, rfl⟩
    rw [hV_] at h_b h_X h_SX h_By h_Sy h_Dp h_Bz ⊢
    clear hV_
    have HB12 := Lib.hid h_b; clear h_b
    have HX12 := Lib.hid h_X; clear h_X
    have HSX12 := Lib.hid h_SX; clear h_SX
    have HBy12 := Lib.hid h_By; clear h_By
    have HSy12 := Lib.hid h_Sy; clear h_Sy
    have HDp12 := Lib.hid h_Dp; clear h_Dp
    have HBz12 := Lib.hid h_Bz; clear h_Bz
    clear b_ hss_ q_l
    have y0 := Blk.cell HX12.out 0
    have y1 := Blk.cell HX12.out 1
    have y2 := Blk.cell HX12.out 2
    have y3 := Blk.cell HX12.out 3
    simp only [List.getElem?_toArray, List.getElem?_cons_zero, List.getElem?_cons_succ] at y0 y1 y2 y3
    have u0 := Blk.cell HBy12.out 0
    have u1 := Blk.cell HBy12.out 1
    have u2 := Blk.cell HBy12.out 2
    have u3 := Blk.cell HBy12.out 3
    simp only [List.getElem?_toArray, List.getElem?_cons_zero, List.getElem?_cons_succ] at u0 u1 u2 u3
    have v0 := Blk.cell HBz12.out 0
    have v1 := Blk.cell HBz12.out 1
    simp only [List.getElem?_toArray, List.getElem?_cons_zero, List.getElem?_cons_succ] at v0 v1
    have q_s := refsame13_any x x Kx Ky kx kcx ky kcy _ HSX12.out HSy12.out
    rw [sameRp_self] at q_s
    unfold rpV at q_s
    go_wp2_with fail
    ((with_reducible refine q_s.mono ?_); rintro e W13 ⟨rfl, b_⟩)
    clear q_s
    have v1b := (HBz12.out.below b_).cell 1
    simp only [List.getElem?_toArray, List.getElem?_cons_zero, List.getElem?_cons_succ] at v1b
    clear y0 y1 y2 y3 u0 u1 u2 u3 v0 v1
    have HD_ := Lib.hid (HDp12.out.below b_)
    have HB_ := Lib.hid (bch HB12.out b_); clear b_
    have q_r := right_call kR HRP.out hcapp HD_.out
    go_wp2_with fail
    ((with_reducible refine q_r.mono ?_); rintro e W14 ⟨rfl, b_⟩)
    clear q_r v1b
    have HBZ := Lib.hid (bch HB_.out b_); clear b_
    go_wp2_with fail
    go_ret
    exact ⟨rfl, HBZ.out⟩
  · subst h1
    subst h2
    have q_k : Calls Try.prog 11 #[.slice Am nm capm, .int .i64 b, .int .i64 1000, .agg #[.int .i64 0, .int .i64 0, .string ⟨#[]⟩, .slice none 0 0]] W4 (KeepPost W4 OO 0) := keep_call kK K1.out HGB.out (rev_may (by omega) (by omega)) hcapm HDm4.out HRM.out (Nat.le_refl 0) (isSs_nil _ none)
    go_wp2_with fail
    ((with_reducible refine q_k.mono ?_); rintro e W5 ⟨Ao, no, capo, rfl, hcapo, hds_, b_⟩)
    have h_b := bch HB4.out b_
    have h_X := HX4.out.below b_
    have h_SX := HSX4.out.below b_
    have h_Do := hds_
    have HB5 := Lib.hid h_b; clear h_b
    have HX5 := Lib.hid h_X; clear h_X
    have HSX5 := Lib.hid h_SX; clear h_SX
    have HDo5 := Lib.hid h_Do; clear h_Do
    clear b_ hds_ q_k
    have q_l : Calls Try.prog 12 #[.slice Ao no capo, .int .i64 a, .int .i64 n] W5 (fun e w' => ∃ K k kc, e = .returned (.tuple #[.agg #[.int .i64 x.errno, .int .i64 x.rev, .string x.value, .slice K k kc], .int .i64 0]) ∧ k ≤ kc ∧ IsSs w' K k x.keys ∧ Below W5.heap.size W5 w') := look_call kL K2.out HG0.out hcapo HDo5.out HROO.out
    go_wp2_with fail
    ((with_reducible refine q_l.mono ?_); rintro e W6 ⟨Ky, ky, kcy, rfl, hkcy, hss_, b_⟩)
    go_upto_region 16 with fail
    have h_b := (bch HB5.out b_).alloc (bch HB5.out b_).size (.cells #[.int .i64 x.errno, .int .i64 x.rev, .string x.value, .slice Ky ky kcy] 31)
    have h_X := (HX5.out.below b_).below ((Below.refl _ _).alloc (Nat.le_refl _) (.cells #[.int .i64 x.errno, .int .i64 x.rev, .string x.value, .slice Ky ky kcy] 31))
    have h_SX := (HSX5.out.below b_).below ((Below.refl _ _).alloc (Nat.le_refl _) (.cells #[.int .i64 x.errno, .int .i64 x.rev, .string x.value, .slice Ky ky kcy] 31))
    have h_Do := (HDo5.out.below b_).below ((Below.refl _ _).alloc (Nat.le_refl _) (.cells #[.int .i64 x.errno, .int .i64 x.rev, .string x.value, .slice Ky ky kcy] 31))
    have h_By := Blk.new W6 (.cells #[.int .i64 x.errno, .int .i64 x.rev, .string x.value, .slice Ky ky kcy] 31)
    have h_Sy := IsSs.below hss_ ((Below.refl _ _).alloc (Nat.le_refl _) (.cells #[.int .i64 x.errno, .int .i64 x.rev, .string x.value, .slice Ky ky kcy] 31))
    obtain ⟨V_W6, hV_⟩ : ∃ W, W6.alloc (.cells #[.int .i64 x.errno, .int .i64 x.rev, .string x.value, .slice Ky ky kcy] 31) = W := ⟨_, rfl⟩
    rw [hV_] at h_b h_X h_SX h_Do h_By h_Sy ⊢
    clear hV_
    have HB6 := Lib.hid h_b; clear h_b
    have HX6 := Lib.hid h_X; clear h_X
    have HSX6 := Lib.hid h_SX; clear h_SX
    have HDo6 := Lib.hid h_Do; clear h_Do
    have HBy6 := Lib.hid h_By; clear h_By
    have HSy6 := Lib.hid h_Sy; clear h_Sy
    clear b_ hss_ q_l
    have q_l : Calls Try.prog 12 #[.slice Ao no capo, .int .i64 a, .int .i64 (n + 1)] V_W6 (fun e w' => ∃ K k kc, e = .returned (.tuple #[.agg #[.int .i64 0, .int .i64 0, .string ⟨#[]⟩, .slice K k kc], .int .i64 70]) ∧ k ≤ kc ∧ IsSs w' K k [] ∧ Below V_W6.heap.size V_W6 w') := look_call kL K3.out HG1.out hcapo HDo6.out HROO.out
    go_wp2_with fail
    ((with_reducible refine q_l.mono ?_); rintro e W7 ⟨Ku, ku, kcu, rfl, hkcu, hss_, b_⟩)
    go_upto_region 17 with fail
    have h_b := (bch HB6.out b_).alloc (bch HB6.out b_).size (.cells #[.int .i64 0, .int .i64 0, .string ⟨#[]⟩, .slice Ku ku kcu] 31)
    have h_X := (HX6.out.below b_).below ((Below.refl _ _).alloc (Nat.le_refl _) (.cells #[.int .i64 0, .int .i64 0, .string ⟨#[]⟩, .slice Ku ku kcu] 31))
    have h_SX := (HSX6.out.below b_).below ((Below.refl _ _).alloc (Nat.le_refl _) (.cells #[.int .i64 0, .int .i64 0, .string ⟨#[]⟩, .slice Ku ku kcu] 31))
    have h_Do := (HDo6.out.below b_).below ((Below.refl _ _).alloc (Nat.le_refl _) (.cells #[.int .i64 0, .int .i64 0, .string ⟨#[]⟩, .slice Ku ku kcu] 31))
    have h_By := (HBy6.out.below b_).below ((Below.refl _ _).alloc (Nat.le_refl _) (.cells #[.int .i64 0, .int .i64 0, .string ⟨#[]⟩, .slice Ku ku kcu] 31))
    have h_Sy := (HSy6.out.below b_).below ((Below.refl _ _).alloc (Nat.le_refl _) (.cells #[.int .i64 0, .int .i64 0, .string ⟨#[]⟩, .slice Ku ku kcu] 31))
    obtain ⟨V_W7, hV_⟩ : ∃ W, W7.alloc (.cells #[.int .i64 0, .int .i64 0, .string ⟨#[]⟩, .slice Ku ku kcu] 31) = W := ⟨_, rfl⟩
    rw [hV_] at h_b h_X h_SX h_Do h_By h_Sy ⊢
    clear hV_
    have HB7 := Lib.hid h_b; clear h_b
    have HX7 := Lib.hid h_X; clear h_X
    have HSX7 := Lib.hid h_SX; clear h_SX
    have HDo7 := Lib.hid h_Do; clear h_Do
    have HBy7 := Lib.hid h_By; clear h_By
    have HSy7 := Lib.hid h_Sy; clear h_Sy
    clear b_ hss_ q_l
    have q_l : Calls Try.prog 12 #[.slice Ao no capo, .int .i64 a, .int .i64 (n - 1)] V_W7 (fun e w' => ∃ K k kc, e = .returned (.tuple #[.agg #[.int .i64 0, .int .i64 0, .string ⟨#[]⟩, .slice K k kc], .int .i64 81]) ∧ k ≤ kc ∧ IsSs w' K k [] ∧ Below V_W7.heap.size V_W7 w') := look_call kL K4.out HG2.out hcapo HDo7.out HROO.out
    go_wp2_with fail
    ((with_reducible refine q_l.mono ?_); rintro e W8 ⟨Kv, kv, kcv, rfl, hkcv, hss_, b_⟩)
    go_upto_region 18 with fail
    have h_b := (bch HB7.out b_).alloc (bch HB7.out b_).size (.cells #[.int .i64 0, .int .i64 0, .string ⟨#[]⟩, .slice Kv kv kcv] 31)
    have h_X := (HX7.out.below b_).below ((Below.refl _ _).alloc (Nat.le_refl _) (.cells #[.int .i64 0, .int .i64 0, .string ⟨#[]⟩, .slice Kv kv kcv] 31))
    have h_SX := (HSX7.out.below b_).below ((Below.refl _ _).alloc (Nat.le_refl _) (.cells #[.int .i64 0, .int .i64 0, .string ⟨#[]⟩, .slice Kv kv kcv] 31))
    have h_Do := (HDo7.out.below b_).below ((Below.refl _ _).alloc (Nat.le_refl _) (.cells #[.int .i64 0, .int .i64 0, .string ⟨#[]⟩, .slice Kv kv kcv] 31))
    have h_By := (HBy7.out.below b_).below ((Below.refl _ _).alloc (Nat.le_refl _) (.cells #[.int .i64 0, .int .i64 0, .string ⟨#[]⟩, .slice Kv kv kcv] 31))
    have h_Sy := (HSy7.out.below b_).below ((Below.refl _ _).alloc (Nat.le_refl _) (.cells #[.int .i64 0, .int .i64 0, .string ⟨#[]⟩, .slice Kv kv kcv] 31))
    obtain ⟨V_W8, hV_⟩ : ∃ W, W8.alloc (.cells #[.int .i64 0, .int .i64 0, .string ⟨#[]⟩, .slice Kv kv kcv] 31) = W := ⟨_, rfl⟩
    rw [hV_] at h_b h_X h_SX h_Do h_By h_Sy ⊢
    clear hV_
    have HB8 := Lib.hid h_b; clear h_b
    have HX8 := Lib.hid h_X; clear h_X
    have HSX8 := Lib.hid h_SX; clear h_SX
    have HDo8 := Lib.hid h_Do; clear h_Do
    have HBy8 := Lib.hid h_By; clear h_By
    have HSy8 := Lib.hid h_Sy; clear h_Sy
    clear b_ hss_ q_l
    have y0 := Blk.cell HX8.out 0
    have y1 := Blk.cell HX8.out 1
    have y2 := Blk.cell HX8.out 2
    have y3 := Blk.cell HX8.out 3
    simp only [List.getElem?_toArray, List.getElem?_cons_zero, List.getElem?_cons_succ] at y0 y1 y2 y3
    have q_k : Calls Try.prog 11 #[.slice Ao no capo, .int .i64 a, .int .i64 n, .agg #[.int .i64 x.errno, .int .i64 x.rev, .string x.value, .slice Kx kx kcx]] V_W8 (KeepPost V_W8 [] 1) := keep_call kK K5.out HG0.out HMX.out hcapo HDo8.out HROO.out hkcx HSX8.out
    go_wp2_with fail
    ((with_reducible refine q_k.mono ?_); rintro e W9 ⟨Aj, nj, capj, rfl, hcapj, hds_, b_⟩)
    clear y0 y1 y2 y3
    have h_b := bch HB8.out b_
    have h_X := HX8.out.below b_
    have h_SX := HSX8.out.below b_
    have h_Do := HDo8.out.below b_
    have h_By := HBy8.out.below b_
    have h_Sy := HSy8.out.below b_
    have h_Dj := hds_
    have HB9 := Lib.hid h_b; clear h_b
    have HX9 := Lib.hid h_X; clear h_X
    have HSX9 := Lib.hid h_SX; clear h_SX
    have HDo9 := Lib.hid h_Do; clear h_Do
    have HBy9 := Lib.hid h_By; clear h_By
    have HSy9 := Lib.hid h_Sy; clear h_Sy
    have HDj9 := Lib.hid h_Dj; clear h_Dj
    clear b_ hds_ q_k
    have q_k : Calls Try.prog 11 #[.slice Ao no capo, .int .i64 a, .int .i64 (n + 1), .agg #[.int .i64 0, .int .i64 1, .string ⟨#[]⟩, .slice none 0 0]] W9 (KeepPost W9 P 0) := keep_call kK K6.out HG1.out (rev_may (by omega) (by omega)) hcapo HDo9.out HROO.out (Nat.le_refl 0) (isSs_nil _ none)
    go_wp2_with fail
    ((with_reducible refine q_k.mono ?_); rintro e W10 ⟨Ap, np, capp, rfl, hcapp, hds_, b_⟩)
    have h_b := bch HB9.out b_
    have h_X := HX9.out.below b_
    have h_SX := HSX9.out.below b_
    have h_Do := HDo9.out.below b_
    have h_By := HBy9.out.below b_
    have h_Sy := HSy9.out.below b_
    have h_Dp := hds_
    have HB10 := Lib.hid h_b; clear h_b
    have HX10 := Lib.hid h_X; clear h_X
    have HSX10 := Lib.hid h_SX; clear h_SX
    have HDo10 := Lib.hid h_Do; clear h_Do
    have HBy10 := Lib.hid h_By; clear h_By
    have HSy10 := Lib.hid h_Sy; clear h_Sy
    have HDp10 := Lib.hid h_Dp; clear h_Dp
    clear b_ hds_ q_k
    have hnO : no = OO.length := HDo10.out.1
    have hnP : np = P.length := HDp10.out.1
    have enn : ((np : Int) == (no : Int)) = true := by rw [beq_iff_eq]; have := HLN.out; omega
    clear hnO hnP
    have q_l : Calls Try.prog 12 #[.slice Ap np capp, .int .i64 a, .int .i64 (n + 1)] W10 (fun e w' => ∃ K k kc, e = .returned (.tuple #[.agg #[.int .i64 0, .int .i64 1, .string ⟨#[]⟩, .slice K k kc], .int .i64 0]) ∧ k ≤ kc ∧ IsSs w' K k [] ∧ Below W10.heap.size W10 w') := look_call kL K7.out HG1.out hcapp HDp10.out HRP.out
    go_wp2_with fail
    ((with_reducible refine q_l.mono ?_); rintro e W11 ⟨Kz, kz, kcz, rfl, hkcz, hss_, b_⟩)
    go_upto_region 21 with fail
    have h_b := (bch HB10.out b_).alloc (bch HB10.out b_).size (.cells #[.int .i64 0, .int .i64 1, .string ⟨#[]⟩, .slice Kz kz kcz] 31)
    have h_X := (HX10.out.below b_).below ((Below.refl _ _).alloc (Nat.le_refl _) (.cells #[.int .i64 0, .int .i64 1, .string ⟨#[]⟩, .slice Kz kz kcz] 31))
    have h_SX := (HSX10.out.below b_).below ((Below.refl _ _).alloc (Nat.le_refl _) (.cells #[.int .i64 0, .int .i64 1, .string ⟨#[]⟩, .slice Kz kz kcz] 31))
    have h_By := (HBy10.out.below b_).below ((Below.refl _ _).alloc (Nat.le_refl _) (.cells #[.int .i64 0, .int .i64 1, .string ⟨#[]⟩, .slice Kz kz kcz] 31))
    have h_Sy := (HSy10.out.below b_).below ((Below.refl _ _).alloc (Nat.le_refl _) (.cells #[.int .i64 0, .int .i64 1, .string ⟨#[]⟩, .slice Kz kz kcz] 31))
    have h_Dp := (HDp10.out.below b_).below ((Below.refl _ _).alloc (Nat.le_refl _) (.cells #[.int .i64 0, .int .i64 1, .string ⟨#[]⟩, .slice Kz kz kcz] 31))
    have h_Bz := Blk.new W11 (.cells #[.int .i64 0, .int .i64 1, .string ⟨#[]⟩, .slice Kz kz kcz] 31)
    have h_Sz := IsSs.below hss_ ((Below.refl _ _).alloc (Nat.le_refl _) (.cells #[.int .i64 0, .int .i64 1, .string ⟨#[]⟩, .slice Kz kz kcz] 31))
    obtain ⟨V_W11, hV_⟩ : ∃ W, W11.alloc (.cells #[.int .i64 0, .int .i64 1, .string ⟨#[]⟩, .slice Kz kz kcz] 31) = W := ⟨_, rfl⟩
    rw [hV_] at h_b h_X h_SX h_By h_Sy h_Dp h_Bz h_Sz ⊢
    clear hV_
    have HB11 := Lib.hid h_b; clear h_b
    have HX11 := Lib.hid h_X; clear h_X
    have HSX11 := Lib.hid h_SX; clear h_SX
    have HBy11 := Lib.hid h_By; clear h_By
    have HSy11 := Lib.hid h_Sy; clear h_Sy
    have HDp11 := Lib.hid h_Dp; clear h_Dp
    have HBz11 := Lib.hid h_Bz; clear h_Bz
    have HSz11 := Lib.hid h_Sz; clear h_Sz
    clear b_ hss_ q_l
    have q_l : Calls Try.prog 12 #[.slice Ap np capp, .int .i64 a, .int .i64 n] V_W11 (fun e w' => ∃ K k kc, e = .returned (.tuple #[.agg #[.int .i64 0, .int .i64 0, .string ⟨#[]⟩, .slice K k kc], .int .i64 81]) ∧ k ≤ kc ∧ IsSs w' K k [] ∧ Below V_W11.heap.size V_W11 w') := look_call kL K8.out HG0.out hcapp HDp11.out HRP.out
    go_wp2_with fail
    ((with_reducible refine q_l.mono ?_); rintro e W12 ⟨Ks, ks, kcs, rfl, hkcs, hss_, b_⟩)
    go_upto_region 22 with fail
    have h_b := (bch HB11.out b_).alloc (bch HB11.out b_).size (.cells #[.int .i64 0, .int .i64 0, .string ⟨#[]⟩, .slice Ks ks kcs] 31)
    have h_X := (HX11.out.below b_).below ((Below.refl _ _).alloc (Nat.le_refl _) (.cells #[.int .i64 0, .int .i64 0, .string ⟨#[]⟩, .slice Ks ks kcs] 31))
    have h_SX := (HSX11.out.below b_).below ((Below.refl _ _).alloc (Nat.le_refl _) (.cells #[.int .i64 0, .int .i64 0, .string ⟨#[]⟩, .slice Ks ks kcs] 31))
    have h_By := (HBy11.out.below b_).below ((Below.refl _ _).alloc (Nat.le_refl _) (.cells #[.int .i64 0, .int .i64 0, .string ⟨#[]⟩, .slice Ks ks kcs] 31))
    have h_Sy := (HSy11.out.below b_).below ((Below.refl _ _).alloc (Nat.le_refl _) (.cells #[.int .i64 0, .int .i64 0, .string ⟨#[]⟩, .slice Ks ks kcs] 31))
    have h_Dp := (HDp11.out.below b_).below ((Below.refl _ _).alloc (Nat.le_refl _) (.cells #[.int .i64 0, .int .i64 0, .string ⟨#[]⟩, .slice Ks ks kcs] 31))
    have h_Bz := (HBz11.out.below b_).below ((Below.refl _ _).alloc (Nat.le_refl _) (.cells #[.int .i64 0, .int .i64 0, .string ⟨#[]⟩, .slice Ks ks kcs] 31))
    obtain ⟨V_W12, hV_⟩ : ∃ W, W12.alloc (.cells #[.int .i64 0, .int .i64 0, .string ⟨#[]⟩, .slice Ks ks kcs] 31) = W := ⟨_, rfl⟩
    rw [hV_] at h_b h_X h_SX h_By h_Sy h_Dp h_Bz ⊢
    clear hV_
    have HB12 := Lib.hid h_b; clear h_b
    have HX12 := Lib.hid h_X; clear h_X
    have HSX12 := Lib.hid h_SX; clear h_SX
    have HBy12 := Lib.hid h_By; clear h_By
    have HSy12 := Lib.hid h_Sy; clear h_Sy
    have HDp12 := Lib.hid h_Dp; clear h_Dp
    have HBz12 := Lib.hid h_Bz; clear h_Bz
    clear b_ hss_ q_l
    have y0 := Blk.cell HX12.out 0
    have y1 := Blk.cell HX12.out 1
    have y2 := Blk.cell HX12.out 2
    have y3 := Blk.cell HX12.out 3
    simp only [List.getElem?_toArray, List.getElem?_cons_zero, List.getElem?_cons_succ] at y0 y1 y2 y3
    have u0 := Blk.cell HBy12.out 0
    have u1 := Blk.cell HBy12.out 1
    have u2 := Blk.cell HBy12.out 2
    have u3 := Blk.cell HBy12.out 3
    simp only [List.getElem?_toArray, List.getElem?_cons_zero, List.getElem?_cons_succ] at u0 u1 u2 u3
    have v0 := Blk.cell HBz12.out 0
    have v1 := Blk.cell HBz12.out 1
    simp only [List.getElem?_toArray, List.getElem?_cons_zero, List.getElem?_cons_succ] at v0 v1
    have q_s := refsame13_any x x Kx Ky kx kcx ky kcy _ HSX12.out HSy12.out
    rw [sameRp_self] at q_s
    unfold rpV at q_s
    go_wp2_with fail
    ((with_reducible refine q_s.mono ?_); rintro e W13 ⟨rfl, b_⟩)
    clear q_s
    have v1b := (HBz12.out.below b_).cell 1
    simp only [List.getElem?_toArray, List.getElem?_cons_zero, List.getElem?_cons_succ] at v1b
    clear y0 y1 y2 y3 u0 u1 u2 u3 v0 v1
    have HD_ := Lib.hid (HDp12.out.below b_)
    have HB_ := Lib.hid (bch HB12.out b_); clear b_
    have q_r := right_call kR HRP.out hcapp HD_.out
    go_wp2_with fail
    ((with_reducible refine q_r.mono ?_); rintro e W14 ⟨rfl, b_⟩)
    clear q_r v1b
    have HBZ := Lib.hid (bch HB_.out b_); clear b_
    go_wp2_with fail
    go_ret
    exact ⟨rfl, HBZ.out⟩
end Go.Proofs.Ytgckoihangccbaa
