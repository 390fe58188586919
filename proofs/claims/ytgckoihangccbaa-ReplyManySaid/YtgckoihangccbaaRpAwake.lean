import Derived.Test.YtgckoihangccbaaRpRef
/-
  The contract of 'awake' of stage 13: it returns true.
-/
namespace Go.Proofs.Ytgckoihangccbaa
open Go.RowKit
set_option linter.unusedVariables false
set_option linter.unusedSimpArgs false

def awR13 : RepR := ⟨0, 7, ByteArray.empty, []⟩
def awD13 : DnR := ⟨2, 5, awR13⟩
theorem aw_may13 : MayP awR13 := ⟨fun k h => (by cases h), ⟨by decide, by unfold maxN; decide⟩, by decide, by decide, by decide⟩
theorem zero_may13 : MayP zeroP13 := ⟨fun k h => (by cases h), ⟨by decide, by unfold maxN; decide⟩, by decide, by decide, by decide⟩
theorem aw_right13 : RightD [awD13] := by
  refine ⟨fun d hd => ?_, List.pairwise_singleton _ _, by simp⟩
  rw [List.mem_singleton.1 hd]
  exact ⟨aw_may13, ⟨by decide, by decide⟩, by decide, by decide⟩
theorem aw_good13 {i : Int} (h1 : 1 ≤ i) (h2 : i ≤ 100) : GoodC 2 i := ⟨⟨by decide, by decide⟩, h1, by unfold maxN; omega⟩
theorem aw_look13 : lookD [awD13] 2 = some awD13 := lookD_of_mem aw_right13.2.1 (d := awD13) (List.mem_singleton.2 rfl)
theorem aw1_13 : keepL [] 2 5 awR13 = ([awD13], 0) := by
  have h : lookL [] 2 5 = (zeroP13, 70) := by rw [look_tell rightD_nil (aw_good13 (by decide) (by decide))]; rfl
  unfold keepL
  rw [h, if_neg (by rintro (e | e | e); cases e; cases e; exact e aw_may13), if_neg (by decide)]
  rfl
theorem aw2_13 : lookL [awD13] 2 5 = (awR13, 0) := by rw [look_tell aw_right13 (aw_good13 (by decide) (by decide)), aw_look13]; rfl
theorem aw3_13 : lookL [awD13] 2 6 = (zeroP13, 70) := by rw [look_tell aw_right13 (aw_good13 (by decide) (by decide)), aw_look13]; rfl
theorem aw4_13 : lookL [awD13] 2 4 = (zeroP13, 81) := by rw [look_tell aw_right13 (aw_good13 (by decide) (by decide)), aw_look13]; rfl
theorem aw5_13 : lookL [awD13] 0 4 = (zeroP13, 1) := by unfold lookL; rw [if_pos (fun h => by have := h.2.1.1; omega)]
theorem aw6_13 : keepL [awD13] 2 5 zeroP13 = ([], 1) := by rw [keep_old aw_right13 (aw_good13 (by decide) (by decide)) aw_look13 (by decide) zero_may13]; rfl
theorem aw7_13 : rightD [awD13] = true := rightD_iff.2 aw_right13
theorem aw8_13 : rightD [zeroD] = false := rightD_no fun h => by have := (h.1 zeroD (List.mem_singleton.2 rfl)).2.1.1; simp [zeroD] at this
theorem aw9_13 : sameRp awR13 zeroP13 = false := by rw [Bool.eq_false_iff]; exact fun e => by have := congrArg RepR.rev (sameRp_iff.1 e); simp [awR13, zeroP13] at this
theorem aw10_13 : sameDs [awD13] [] = false := by rw [Bool.eq_false_iff]; exact fun e => by have := sameDs_iff.1 e; cases this
theorem aw_w13 : RpW awR13 ∧ RpW zeroP13 := ⟨⟨by decide, by decide, by decide⟩, by decide, by decide, by decide⟩
theorem zero_ds13 (w : World) : IsDs (w.alloc (.cells #[.int .i64 0, .int .i64 0, .int .i64 0, .int .i64 0, .string ⟨#[]⟩, .slice none 0 0] 45)) (some ⟨w.heap.size, 0, none⟩) 1 [zeroD] := by
  have hx := Blk.new w (.cells #[.int .i64 0, .int .i64 0, .int .i64 0, .int .i64 0, .string ⟨#[]⟩, .slice none 0 0] 45)
  refine ⟨rfl, by unfold maxLen; omega, fun r hr => ?_, fun _ => ⟨w.heap.size, 0, rfl, hx.lt, fun i hi => ?_⟩⟩
  · rw [List.mem_singleton.1 hr]
    exact ⟨by decide, by decide, aw_w13.2, by decide⟩
  · have : i = 0 := by simpa using hi
    subst this
    exact ⟨none, 0, 0, ⟨hx.cell 0, hx.cell 1, hx.cell 2, hx.cell 3, hx.cell 4, hx.cell 5⟩, Nat.le_refl _, isSs_nil _ _⟩

set_option maxRecDepth 100000 in
set_option maxHeartbeats 8000000 in
theorem awake13_any (kK : KeepQ) (kL : LookQ) (kR : RightQ13) (kS : SameQ13) (kA : SameAllQ) (w : World) :
    Calls Try.prog 7 #[] w fun e w' => e = .returned (.bool true) ∧ Below w.heap.size w w' := by
  have q1 : Calls Try.prog 11 #[.slice none 0 0, .int .i64 2, .int .i64 5, .agg #[.int .i64 0, .int .i64 7, .string ⟨#[]⟩, .slice none 0 0]] w (KeepPost w [awD13] 0) := by
    have h := kK [] 2 5 awR13 none none 0 0 0 0 w (Nat.le_refl _) (isDs_nil _ _) (by omega) (by decide) (by decide) aw_w13.1 (Nat.le_refl _) (isSs_nil _ _) (by omega)
    rw [aw1_13] at h; exact h
  go_enter Try.func7, Try.ntmps7
  go_wp2_with fail
  ((with_reducible refine q1.mono ?_); rintro e W1 ⟨A1, n1, cap1, rfl, hcap, hds, b1⟩)
  have hn1 : n1 = 1 := hds.1
  subst hn1
  clear q1
  have HD1 := Lib.hid hds; clear hds
  have HB1 := Lib.hid b1; clear b1
  have q2 : Calls Try.prog 12 #[.slice A1 1 cap1, .int .i64 2, .int .i64 5] W1 (fun e w' => ∃ K k kc, e = .returned (.tuple #[.agg #[.int .i64 0, .int .i64 7, .string ⟨#[]⟩, .slice K k kc], .int .i64 0]) ∧ k ≤ kc ∧ IsSs w' K k [] ∧ Below W1.heap.size W1 w') := by
    have h := kL [awD13] 2 5 A1 1 cap1 W1 hcap HD1.out (by omega) (by decide) (by decide)
    rw [aw2_13] at h; exact h
  go_wp2_with fail
  ((with_reducible refine q2.mono ?_); rintro e W2 ⟨K2, k2, kc2, rfl, hk2, hs2, b2⟩)
  have hk0 : k2 = 0 := hs2.1
  subst hk0
  have hal : Below W2.heap.size W2 (W2.alloc (.cells #[.int .i64 0, .int .i64 7, .string ⟨#[]⟩, .slice K2 0 kc2] 31)) := (Below.refl _ _).alloc (Nat.le_refl _) _
  have HD2 := Lib.hid ((HD1.out.below b2).below hal)
  have HB2 := Lib.hid (bch (bch HB1.out b2) hal)
  have hx := Blk.new W2 (.cells #[.int .i64 0, .int .i64 7, .string ⟨#[]⟩, .slice K2 0 kc2] 31)
  go_upto_region 3 with fail
  obtain ⟨U2, hU⟩ : ∃ W, W2.alloc (.cells #[.int .i64 0, .int .i64 7, .string ⟨#[]⟩, .slice K2 0 kc2] 31) = W := ⟨_, rfl⟩
  rw [hU] at HD2 HB2 hx ⊢
  clear hU hal q2 b2 hs2 hk2 HD1 HB1
  obtain ⟨g, hg⟩ : ∃ g, W2.heap.size = g := ⟨_, rfl⟩
  rw [hg] at hx ⊢
  clear hg
  have HX2 := Lib.hid hx; clear hx
  have q3 : Calls Try.prog 12 #[.slice A1 1 cap1, .int .i64 2, .int .i64 6] U2 (fun e w' => ∃ K k kc, e = .returned (.tuple #[.agg #[.int .i64 0, .int .i64 0, .string ⟨#[]⟩, .slice K k kc], .int .i64 70]) ∧ k ≤ kc ∧ IsSs w' K k [] ∧ Below U2.heap.size U2 w') := by
    have h := kL [awD13] 2 6 A1 1 cap1 U2 hcap HD2.out (by omega) (by decide) (by decide)
    rw [aw3_13] at h; exact h
  go_wp2_with fail
  ((with_reducible refine q3.mono ?_); rintro e W3 ⟨K3, k3, kc3, rfl, hk3, hs3, b3⟩)
  have hk0 : k3 = 0 := hs3.1
  subst hk0
  have hal : Below W3.heap.size W3 (W3.alloc (.cells #[.int .i64 0, .int .i64 0, .string ⟨#[]⟩, .slice K3 0 kc3] 31)) := (Below.refl _ _).alloc (Nat.le_refl _) _
  have HD3 := Lib.hid ((HD2.out.below b3).below hal)
  have HB3 := Lib.hid (bch (bch HB2.out b3) hal)
  have hx := Blk.below (Blk.below HX2.out b3) hal
  go_upto_region 4 with fail
  obtain ⟨U3, hU⟩ : ∃ W, W3.alloc (.cells #[.int .i64 0, .int .i64 0, .string ⟨#[]⟩, .slice K3 0 kc3] 31) = W := ⟨_, rfl⟩
  rw [hU] at HD3 HB3 hx ⊢
  clear hU hal q3 b3 hs3 hk3 HD2 HB2
  have HX3 := Lib.hid hx; clear hx
  clear HX2
  have q4 : Calls Try.prog 12 #[.slice A1 1 cap1, .int .i64 2, .int .i64 4] U3 (fun e w' => ∃ K k kc, e = .returned (.tuple #[.agg #[.int .i64 0, .int .i64 0, .string ⟨#[]⟩, .slice K k kc], .int .i64 81]) ∧ k ≤ kc ∧ IsSs w' K k [] ∧ Below U3.heap.size U3 w') := by
    have h := kL [awD13] 2 4 A1 1 cap1 U3 hcap HD3.out (by omega) (by decide) (by decide)
    rw [aw4_13] at h; exact h
  go_wp2_with fail
  ((with_reducible refine q4.mono ?_); rintro e W4 ⟨K4, k4, kc4, rfl, hk4, hs4, b4⟩)
  have hk0 : k4 = 0 := hs4.1
  subst hk0
  have hal : Below W4.heap.size W4 (W4.alloc (.cells #[.int .i64 0, .int .i64 0, .string ⟨#[]⟩, .slice K4 0 kc4] 31)) := (Below.refl _ _).alloc (Nat.le_refl _) _
  have HD4 := Lib.hid ((HD3.out.below b4).below hal)
  have HB4 := Lib.hid (bch (bch HB3.out b4) hal)
  have hx := Blk.below (Blk.below HX3.out b4) hal
  go_upto_region 5 with fail
  obtain ⟨U4, hU⟩ : ∃ W, W4.alloc (.cells #[.int .i64 0, .int .i64 0, .string ⟨#[]⟩, .slice K4 0 kc4] 31) = W := ⟨_, rfl⟩
  rw [hU] at HD4 HB4 hx ⊢
  clear hU hal q4 b4 hs4 hk4 HD3 HB3
  have HX4 := Lib.hid hx; clear hx
  clear HX3
  have q5 : Calls Try.prog 12 #[.slice A1 1 cap1, .int .i64 0, .int .i64 4] U4 (fun e w' => ∃ K k kc, e = .returned (.tuple #[.agg #[.int .i64 0, .int .i64 0, .string ⟨#[]⟩, .slice K k kc], .int .i64 1]) ∧ k ≤ kc ∧ IsSs w' K k [] ∧ Below U4.heap.size U4 w') := by
    have h := kL [awD13] 0 4 A1 1 cap1 U4 hcap HD4.out (by omega) (by decide) (by decide)
    rw [aw5_13] at h; exact h
  go_wp2_with fail
  ((with_reducible refine q5.mono ?_); rintro e W5 ⟨K5, k5, kc5, rfl, hk5, hs5, b5⟩)
  have hk0 : k5 = 0 := hs5.1
  subst hk0
  have hal : Below W5.heap.size W5 (W5.alloc (.cells #[.int .i64 0, .int .i64 0, .string ⟨#[]⟩, .slice K5 0 kc5] 31)) := (Below.refl _ _).alloc (Nat.le_refl _) _
  have HD5 := Lib.hid ((HD4.out.below b5).below hal)
  have HB5 := Lib.hid (bch (bch HB4.out b5) hal)
  have hx := Blk.below (Blk.below HX4.out b5) hal
  go_upto_region 6 with fail
  obtain ⟨U5, hU⟩ : ∃ W, W5.alloc (.cells #[.int .i64 0, .int .i64 0, .string ⟨#[]⟩, .slice K5 0 kc5] 31) = W := ⟨_, rfl⟩
  rw [hU] at HD5 HB5 hx ⊢
  clear hU hal q5 b5 hs5 hk5 HD4 HB4
  have HX5 := Lib.hid hx; clear hx
  clear HX4
  have q6 : Calls Try.prog 11 #[.slice A1 1 cap1, .int .i64 2, .int .i64 5, .agg #[.int .i64 0, .int .i64 0, .string ⟨#[]⟩, .slice none 0 0]] U5 (KeepPost U5 [] 1) := by
    have h := kK [awD13] 2 5 zeroP13 A1 none 1 cap1 0 0 U5 hcap HD5.out (by omega) (by decide) (by decide) aw_w13.2 (Nat.le_refl _) (isSs_nil _ _) (by omega)
    rw [aw6_13] at h; exact h
  go_wp2_with fail
  ((with_reducible refine q6.mono ?_); rintro e W6 ⟨A6, n6, cap6, rfl, _, _, bq⟩)
  clear q6
  have HD6 := Lib.hid (HD5.out.below bq)
  have HX6 := Lib.hid (Blk.below HX5.out bq)
  have HB6 := Lib.hid (bch HB5.out bq)
  clear HD5 HX5 HB5 bq
  have q7 : Calls Try.prog 14 #[.slice A1 1 cap1] W6 (fun e w' => e = .returned (.bool true) ∧ Below W6.heap.size W6 w') := by
    have h := kR [awD13] A1 1 cap1 W6 hcap HD6.out (by omega)
    rw [aw7_13] at h; exact h
  have hxc := HX6.out
  have c0 := Blk.cell hxc 0
  have c1 := Blk.cell hxc 1
  have c2 := Blk.cell hxc 2
  have c3 := Blk.cell hxc 3
  simp only [List.getElem?_toArray, List.getElem?_cons_zero, List.getElem?_cons_succ] at c0 c1 c2 c3
  clear hxc
  go_wp2_with fail
  ((with_reducible refine q7.mono ?_); rintro e W7 ⟨rfl, bq⟩)
  clear q7 c0 c1 c2 c3
  have HD7 := Lib.hid (HD6.out.below bq)
  have HX7 := Lib.hid (Blk.below HX6.out bq)
  have HB7 := Lib.hid (bch HB6.out bq)
  clear HD6 HX6 HB6 bq
  have hal : Below W7.heap.size W7 (W7.alloc (.cells #[.int .i64 0, .int .i64 0, .int .i64 0, .int .i64 0, .string ⟨#[]⟩, .slice none 0 0] 45)) := (Below.refl _ _).alloc (Nat.le_refl _) _
  have hzd := zero_ds13 W7
  obtain ⟨V7, hV⟩ : ∃ W, W7.alloc (.cells #[.int .i64 0, .int .i64 0, .int .i64 0, .int .i64 0, .string ⟨#[]⟩, .slice none 0 0] 45) = W := ⟨_, rfl⟩
  rw [hV] at hal hzd
  have HV := hV
  clear HV
  have HD8 := Lib.hid (HD7.out.below hal)
  have HX8 := Lib.hid (Blk.below HX7.out hal)
  have HB8 := Lib.hid (bch HB7.out hal)
  clear HD7 HX7 HB7 hal
  have q9 : Calls Try.prog 14 #[.slice (some ⟨W7.heap.size, 0, none⟩) 1 1] V7 (fun e w' => e = .returned (.bool false) ∧ Below V7.heap.size V7 w') := by
    have h := kR [zeroD] (some ⟨W7.heap.size, 0, none⟩) 1 1 V7 (Nat.le_refl _) hzd (by omega)
    rw [aw8_13] at h; exact h
  have hxc := HX8.out
  have c0 := Blk.cell hxc 0
  have c1 := Blk.cell hxc 1
  have c2 := Blk.cell hxc 2
  have c3 := Blk.cell hxc 3
  simp only [List.getElem?_toArray, List.getElem?_cons_zero, List.getElem?_cons_succ] at c0 c1 c2 c3
  clear hxc
  go_wp2_with fail
  ((with_reducible refine q9.mono ?_); rintro e W9 ⟨rfl, bq⟩)
  clear hzd hV q9 c0 c1 c2 c3
  have HD9 := Lib.hid (HD8.out.below bq)
  have HX9 := Lib.hid (Blk.below HX8.out bq)
  have HB9 := Lib.hid (bch HB8.out bq)
  clear HD8 HX8 HB8 bq
  have q10 : Calls Try.prog 16 #[.agg #[.int .i64 0, .int .i64 7, .string ⟨#[]⟩, .slice K2 0 kc2], .agg #[.int .i64 0, .int .i64 7, .string ⟨#[]⟩, .slice K2 0 kc2]] W9 (fun e w' => e = .returned (.bool true) ∧ Below W9.heap.size W9 w') := by
    have h := kS awR13 awR13 K2 K2 0 kc2 0 kc2 W9 (Nat.zero_le _) (Nat.zero_le _) (isSs_nil _ _) (isSs_nil _ _) aw_w13.1 aw_w13.1 (by omega) (by omega)
    rw [sameRp_self] at h; exact h
  have hxc := HX9.out
  have c0 := Blk.cell hxc 0
  have c1 := Blk.cell hxc 1
  have c2 := Blk.cell hxc 2
  have c3 := Blk.cell hxc 3
  simp only [List.getElem?_toArray, List.getElem?_cons_zero, List.getElem?_cons_succ] at c0 c1 c2 c3
  clear hxc
  go_wp2_with fail
  ((with_reducible refine q10.mono ?_); rintro e W10 ⟨rfl, bq⟩)
  clear q10 c0 c1 c2 c3
  have HD10 := Lib.hid (HD9.out.below bq)
  have HX10 := Lib.hid (Blk.below HX9.out bq)
  have HB10 := Lib.hid (bch HB9.out bq)
  clear HD9 HX9 HB9 bq
  have q11 : Calls Try.prog 16 #[.agg #[.int .i64 0, .int .i64 7, .string ⟨#[]⟩, .slice K2 0 kc2], .agg #[.int .i64 0, .int .i64 0, .string ⟨#[]⟩, .slice none 0 0]] W10 (fun e w' => e = .returned (.bool false) ∧ Below W10.heap.size W10 w') := by
    have h := kS awR13 zeroP13 K2 none 0 kc2 0 0 W10 (Nat.zero_le _) (Nat.le_refl _) (isSs_nil _ _) (isSs_nil _ _) aw_w13.1 aw_w13.2 (by omega) (by omega)
    rw [aw9_13] at h; exact h
  have hxc := HX10.out
  have c0 := Blk.cell hxc 0
  have c1 := Blk.cell hxc 1
  have c2 := Blk.cell hxc 2
  have c3 := Blk.cell hxc 3
  simp only [List.getElem?_toArray, List.getElem?_cons_zero, List.getElem?_cons_succ] at c0 c1 c2 c3
  clear hxc
  go_wp2_with fail
  ((with_reducible refine q11.mono ?_); rintro e W11 ⟨rfl, bq⟩)
  clear q11 c0 c1 c2 c3
  have HD11 := Lib.hid (HD10.out.below bq)
  have HX11 := Lib.hid (Blk.below HX10.out bq)
  have HB11 := Lib.hid (bch HB10.out bq)
  clear HD10 HX10 HB10 bq
  have q12 : Calls Try.prog 17 #[.slice A1 1 cap1, .slice A1 1 cap1] W11 (fun e w' => e = .returned (.bool true) ∧ Below W11.heap.size W11 w') := by
    have h := kA [awD13] [awD13] A1 A1 1 cap1 1 cap1 W11 hcap hcap HD11.out HD11.out (by omega) (by omega)
    rw [sameDs_self] at h; exact h
  have hxc := HX11.out
  have c0 := Blk.cell hxc 0
  have c1 := Blk.cell hxc 1
  have c2 := Blk.cell hxc 2
  have c3 := Blk.cell hxc 3
  simp only [List.getElem?_toArray, List.getElem?_cons_zero, List.getElem?_cons_succ] at c0 c1 c2 c3
  clear hxc
  go_wp2_with fail
  ((with_reducible refine q12.mono ?_); rintro e W12 ⟨rfl, bq⟩)
  clear q12 c0 c1 c2 c3
  have HD12 := Lib.hid (HD11.out.below bq)
  have HX12 := Lib.hid (Blk.below HX11.out bq)
  have HB12 := Lib.hid (bch HB11.out bq)
  clear HD11 HX11 HB11 bq
  have q13 : Calls Try.prog 17 #[.slice A1 1 cap1, .slice none 0 0] W12 (fun e w' => e = .returned (.bool false) ∧ Below W12.heap.size W12 w') := by
    have h := kA [awD13] [] A1 none 1 cap1 0 0 W12 hcap (Nat.le_refl _) HD12.out (isDs_nil _ _) (by omega) (by omega)
    rw [aw10_13] at h; exact h
  have hxc := HX12.out
  have c0 := Blk.cell hxc 0
  have c1 := Blk.cell hxc 1
  have c2 := Blk.cell hxc 2
  have c3 := Blk.cell hxc 3
  simp only [List.getElem?_toArray, List.getElem?_cons_zero, List.getElem?_cons_succ] at c0 c1 c2 c3
  clear hxc
  go_wp2_with fail
  ((with_reducible refine q13.mono ?_); rintro e W13 ⟨rfl, bq⟩)
  clear q13 c0 c1 c2 c3
  have HD13 := Lib.hid (HD12.out.below bq)
  have HX13 := Lib.hid (Blk.below HX12.out bq)
  have HB13 := Lib.hid (bch HB12.out bq)
  clear HD12 HX12 HB12 bq
  go_wp2_with fail
  go_ret
  exact ⟨rfl, HB13.out⟩
end Go.Proofs.Ytgckoihangccbaa
