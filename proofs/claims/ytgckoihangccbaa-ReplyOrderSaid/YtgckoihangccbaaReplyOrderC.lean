import Derived.Test.YtgckoihangccbaaRpLaw
/-
  The walk of the law ReplyOrder, over what is asked of the program (stage 13).
-/
namespace Go.Proofs.Ytgckoihangccbaa
open Go.RowKit
set_option linter.unusedVariables false
set_option linter.unusedSimpArgs false

set_option maxRecDepth 100000 in
set_option maxHeartbeats 8000000 in
theorem replyOrder_core (kK : KeepQ) (kL : LookQ) (kR : RightQ13) (kS : SameQ13) (kA : SameAllQ) (a0 : Option Addr) (n0 cap0 : Nat) (f : Nat → Nat → Int) (x1 x2 x30 x31 x32 : Int) (w : World) (h0 : IsRaw w a0 n0 5 f) (w1 : (Lit.int .i64 x1).wf = true) (w2 : (Lit.int .i64 x2).wf = true) (w30 : (Lit.int .i64 x30).wf = true) (w31 : (Lit.int .i64 x31).wf = true) (w32 : (Lit.int .i64 x32).wf = true) :
    Calls Try.prog 4 #[.slice a0 n0 cap0, .int .i64 x1, .int .i64 x2, .agg #[.int .i64 x30, .int .i64 x31, .int .i64 x32]] w fun e w' => e = .returned (.bool true) ∧ Below w.heap.size w w' := by
  have p1 := fun W => pickN13_nat x1 10 (by omega) (by omega) w1 W
  have p2 := fun W => pickN13_nat x2 10 (by omega) (by omega) w2 W
  have qa : ∀ W, Calls Try.prog 10 #[.agg #[.int .i64 x30, .int .i64 x31, .int .i64 x32]] W (OwnR13 W (ansR (three x30 x31 x32))) := fun W => answer_any (three x30 x31 x32) (three_wf w30 w31 w32) W
  have HMX := Lib.hid (ans_may (three x30 x31 x32))
  generalize ansR (three x30 x31 x32) = x at *
  have b1 := pickN_lt x1 10 (by omega)
  have b2 := pickN_lt x2 10 (by omega)
  generalize pickN x1 10 = i1 at *
  generalize pickN x2 10 = i2 at *
  obtain ⟨a, ha⟩ : ∃ a : Int, 1 + (i1 : Int) = a := ⟨_, rfl⟩
  obtain ⟨b, hb⟩ : ∃ b : Int, 1 + (i2 : Int) = b := ⟨_, rfl⟩
  have wa : IntKind.i64.wrap (1 + (i1 : Int)) = a := by rw [← ha]; exact IntWalk.i64_in _ (by omega)
  have wb : IntKind.i64.wrap (1 + (i2 : Int)) = b := by rw [← hb]; exact IntWalk.i64_in _ (by omega)
  have HA : Hid (1 ≤ a ∧ a ≤ 10) := ⟨by omega, by omega⟩
  have HBN : Hid (1 ≤ b ∧ b ≤ 10) := ⟨by omega, by omega⟩
  clear b1 b2 ha hb
  have HRL := Lib.hid (cacheR_right f n0)
  have HID := Lib.hid (cacheR_ids f n0)
  have hbw : Below w.heap.size w (w.alloc (.cells #[.int .i64 x30, .int .i64 x31, .int .i64 x32] 23)) := (Below.refl _ _).alloc (Nat.le_refl _) _
  have hra := Blk.new w (.cells #[.int .i64 x30, .int .i64 x31, .int .i64 x32] 23)
  have hraw := h0.below hbw
  obtain ⟨W0, hW0⟩ : ∃ W, w.alloc (.cells #[.int .i64 x30, .int .i64 x31, .int .i64 x32] 23) = W := ⟨_, rfl⟩
  rw [hW0] at hbw hra hraw
  have HB0 := Lib.hid hbw; clear hbw
  have Hraw0 := Lib.hid hraw; clear hraw h0
  have Hans0 := Lib.hid hra; clear hra
  go_enter Try.func4, Try.ntmps4
  go_upto_region 1 with fail
  try rw [hW0]
  clear hW0
  have q_aw := fun W => awake13_any kK kL kR kS kA W
  go_wp2_with fail
  ((with_reducible refine (q_aw _).mono ?_); rintro e W1 ⟨rfl, b_⟩)
  have h_b := bch HB0.out b_
  have h_raw := Hraw0.out.below b_
  have h_ans := Hans0.out.below b_
  have HB1 := Lib.hid h_b; clear h_b
  have Hraw1 := Lib.hid h_raw; clear h_raw
  have Hans1 := Lib.hid h_ans; clear h_ans
  clear b_
  clear q_aw
  have q_c := cache_any answer_any f a0 n0 cap0 _ Hraw1.out
  go_wp2_with fail
  ((with_reducible refine q_c.mono ?_); rintro e W2 ⟨Al, nl, capl, rfl, hcapl, hds_, b_⟩)
  have h_b := bch HB1.out b_
  have h_ans := Hans1.out.below b_
  have h_Dl := hds_
  have HB2 := Lib.hid h_b; clear h_b
  have Hans2 := Lib.hid h_ans; clear h_ans
  have HDl2 := Lib.hid h_Dl; clear h_Dl
  clear b_ hds_ q_c
  generalize cacheR f n0 = l at *
  have hnl : nl = l.length := HDl2.out.1
  have hn8 : nl ≤ 8 := ds_len HDl2.out HRL.out
  have HNL := Lib.hid hnl; clear hnl
  go_wp2_with fail
  ((with_reducible refine (p1 _).mono ?_); rintro e W_ ⟨rfl, rfl⟩)
  go_wp2_with fail
  ((with_reducible refine (p2 _).mono ?_); rintro e W_ ⟨rfl, rfl⟩)
  clear p1 p2
  by_cases hab : a = b
  · have eab : (a == b) = true := by rw [beq_iff_eq]; exact hab
    clear hab
    go_wp2_with fail
    go_ret
    exact ⟨rfl, HB2.out⟩
  have eab : (a == b) = false := by rw [beq_eq_false_iff_ne]; exact hab
  by_cases h6 : 6 < nl
  · have e6 : decide ((6 : Int) < (nl : Int)) = true := decide_eq_true (by omega)
    clear hab
    go_wp2_with fail
    go_ret
    exact ⟨rfl, HB2.out⟩
  have e6 : decide ((6 : Int) < (nl : Int)) = false := decide_eq_false (by omega)
  obtain ⟨M1, M2, N1, R1, R2, R3, k1, k2, k3, k4⟩ := order_math HRL.out HID.out (by have := HNL.out; omega) HA.out HBN.out hab HMX.out
  have K1 := Lib.hid k1; clear k1
  have K2 := Lib.hid k2; clear k2
  have K3 := Lib.hid k3; clear k3
  have K4 := Lib.hid k4; clear k4
  have HR1 := Lib.hid R1; clear R1
  have HR2 := Lib.hid R2; clear R2
  have HR3 := Lib.hid R3; clear R3
  clear hab
  have HGA : Hid (GoodC a 50) := goodC_of HA.out.1 (by have := HA.out; omega) (by omega) (by omega)
  have HGB : Hid (GoodC b 60) := goodC_of HBN.out.1 (by have := HBN.out; omega) (by omega) (by omega)
  have y0 := Blk.cell Hans2.out 0
  have y1 := Blk.cell Hans2.out 1
  have y2 := Blk.cell Hans2.out 2
  simp only [List.getElem?_toArray, List.getElem?_cons_zero, List.getElem?_cons_succ] at y0 y1 y2
  go_wp2_with fail
  ((with_reducible refine (qa _).mono ?_); rintro e W3 ⟨Kx, kx, kcx, rfl, hkcx, hss_, b_⟩)
  clear y0 y1 y2
  unfold rpV
  have h_b := bch HB2.out b_
  have h_ans := Hans2.out.below b_
  have h_Dl := HDl2.out.below b_
  have h_Sx := hss_
  have HB3 := Lib.hid h_b; clear h_b
  have Hans3 := Lib.hid h_ans; clear h_ans
  have HDl3 := Lib.hid h_Dl; clear h_Dl
  have HSx3 := Lib.hid h_Sx; clear h_Sx
  clear b_ hss_
  have q_k : Calls Try.prog 11 #[.slice Al nl capl, .int .i64 a, .int .i64 50, .agg #[.int .i64 x.errno, .int .i64 x.rev, .string x.value, .slice Kx kx kcx]] W3 (KeepPost W3 M1 0) := keep_call kK K1.out HGA.out HMX.out hcapl HDl3.out HRL.out hkcx HSx3.out
  go_wp2_with fail
  ((with_reducible refine q_k.mono ?_); rintro e W4 ⟨Am, nm, capm, rfl, hcapm, hds_, b_⟩)
  have h_b := bch HB3.out b_
  have h_ans := Hans3.out.below b_
  have h_Dl := HDl3.out.below b_
  have h_Dm := hds_
  have HB4 := Lib.hid h_b; clear h_b
  have Hans4 := Lib.hid h_ans; clear h_ans
  have HDl4 := Lib.hid h_Dl; clear h_Dl
  have HDm4 := Lib.hid h_Dm; clear h_Dm
  clear b_ hds_ q_k
  have q_k : Calls Try.prog 11 #[.slice Am nm capm, .int .i64 b, .int .i64 60, .agg #[.int .i64 0, .int .i64 2, .string ⟨#[]⟩, .slice none 0 0]] W4 (KeepPost W4 M2 0) := keep_call kK K2.out HGB.out (rev_may (by omega) (by omega)) hcapm HDm4.out HR1.out (Nat.le_refl 0) (isSs_nil _ none)
  go_wp2_with fail
  ((with_reducible refine q_k.mono ?_); rintro e W5 ⟨Ap, np, capp, rfl, hcapp, hds_, b_⟩)
  have h_b := bch HB4.out b_
  have h_ans := Hans4.out.below b_
  have h_Dl := HDl4.out.below b_
  have h_Dp := hds_
  have HB5 := Lib.hid h_b; clear h_b
  have Hans5 := Lib.hid h_ans; clear h_ans
  have HDl5 := Lib.hid h_Dl; clear h_Dl
  have HDp5 := Lib.hid h_Dp; clear h_Dp
  clear b_ hds_ q_k
  have q_k : Calls Try.prog 11 #[.slice Al nl capl, .int .i64 b, .int .i64 60, .agg #[.int .i64 0, .int .i64 2, .string ⟨#[]⟩, .slice none 0 0]] W5 (KeepPost W5 N1 0) := keep_call kK K3.out HGB.out (rev_may (by omega) (by omega)) hcapl HDl5.out HRL.out (Nat.le_refl 0) (isSs_nil _ none)
  go_wp2_with fail
  ((with_reducible refine q_k.mono ?_); rintro e W6 ⟨Aq, nq, capq, rfl, hcapq, hds_, b_⟩)
  have h_b := bch HB5.out b_
  have h_ans := Hans5.out.below b_
  have h_Dp := HDp5.out.below b_
  have h_Dq := hds_
  have HB6 := Lib.hid h_b; clear h_b
  have Hans6 := Lib.hid h_ans; clear h_ans
  have HDp6 := Lib.hid h_Dp; clear h_Dp
  have HDq6 := Lib.hid h_Dq; clear h_Dq
  clear b_ hds_ q_k
  have y0 := Blk.cell Hans6.out 0
  have y1 := Blk.cell Hans6.out 1
  have y2 := Blk.cell Hans6.out 2
  simp only [List.getElem?_toArray, List.getElem?_cons_zero, List.getElem?_cons_succ] at y0 y1 y2
  go_wp2_with fail
  ((with_reducible refine (qa _).mono ?_); rintro e W7 ⟨Kz, kz, kcz, rfl, hkcz, hss_, b_⟩)
  clear y0 y1 y2
  unfold rpV
  have h_b := bch HB6.out b_
  have h_Dp := HDp6.out.below b_
  have h_Dq := HDq6.out.below b_
  have h_Sz := hss_
  have HB7 := Lib.hid h_b; clear h_b
  have HDp7 := Lib.hid h_Dp; clear h_Dp
  have HDq7 := Lib.hid h_Dq; clear h_Dq
  have HSz7 := Lib.hid h_Sz; clear h_Sz
  clear b_ hss_
  have q_k : Calls Try.prog 11 #[.slice Aq nq capq, .int .i64 a, .int .i64 50, .agg #[.int .i64 x.errno, .int .i64 x.rev, .string x.value, .slice Kz kz kcz]] W7 (KeepPost W7 M2 0) := keep_call kK K4.out HGA.out HMX.out hcapq HDq7.out HR3.out hkcz HSz7.out
  go_wp2_with fail
  ((with_reducible refine q_k.mono ?_); rintro e W8 ⟨Ar, nr, capr, rfl, hcapr, hds_, b_⟩)
  have h_b := bch HB7.out b_
  have h_Dp := HDp7.out.below b_
  have h_Dr := hds_
  have HB8 := Lib.hid h_b; clear h_b
  have HDp8 := Lib.hid h_Dp; clear h_Dp
  have HDr8 := Lib.hid h_Dr; clear h_Dr
  clear b_ hds_ q_k
  have q_s := refsameall_any M2 M2 Ap Ar np nr capp capr _ HDp8.out HDr8.out
  rw [sameDs_self] at q_s
  go_wp2_with fail
  ((with_reducible refine q_s.mono ?_); rintro e W9 ⟨rfl, b_⟩)
  have HBZ := Lib.hid (bch HB8.out b_); clear b_ q_s
  go_wp2_with fail
  go_ret
  exact ⟨rfl, HBZ.out⟩
end Go.Proofs.Ytgckoihangccbaa
