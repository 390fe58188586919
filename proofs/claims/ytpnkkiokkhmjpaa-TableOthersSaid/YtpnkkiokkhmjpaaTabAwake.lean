import Derived.Test.YtpnkkiokkhmjpaaTabDo
/-
  The contract of 'awake' of stage 12: it returns true.
-/
namespace Go.Proofs.Ytpnkkiokkhmjpaa
open Go.RowKit
set_option linter.unusedVariables false
set_option linter.unusedSimpArgs false

def awA : Rcd := ⟨⟨#[97]⟩, ⟨#[120]⟩, 1, 0, ⟨#[]⟩, []⟩
def awB : Rcd := ⟨⟨#[97]⟩, ⟨#[121]⟩, 2, 0, ⟨#[]⟩, []⟩
theorem awA_right : RightT [awA] := ⟨fun r h => by rw [List.mem_singleton] at h; subst h; decide, List.pairwise_singleton _ _, by simp⟩
theorem awB_right : RightT [awB] := ⟨fun r h => by rw [List.mem_singleton] at h; subst h; decide, List.pairwise_singleton _ _, by simp⟩
theorem aw0 : doT [] (⟨2, ⟨#[97]⟩, ⟨#[120]⟩, 0, ⟨#[]⟩, 0, ⟨#[]⟩⟩ : OpR) = ([awA], ⟨0, 1, ⟨#[]⟩, []⟩) := by rw [doT_ok ⟨right_nil, by decide⟩]; rfl
theorem aw1 : doT [awA] (⟨4, ⟨#[97]⟩, ⟨#[121]⟩, 1, ⟨#[]⟩, 0, ⟨#[]⟩⟩ : OpR) = ([awB], ⟨0, 2, ⟨#[]⟩, []⟩) := by rw [doT_ok ⟨awA_right, by decide⟩]; rfl
theorem aw2 : doT [awB] (⟨4, ⟨#[97]⟩, ⟨#[122]⟩, 1, ⟨#[]⟩, 0, ⟨#[]⟩⟩ : OpR) = ([awB], ⟨71, 2, ⟨#[]⟩, []⟩) := by rw [doT_ok ⟨awB_right, by decide⟩]; rfl
theorem aw3s : scanT [awB] (⟨6, ⟨#[]⟩, ⟨#[]⟩, 0, ⟨#[]⟩, 0, ⟨#[]⟩⟩ : OpR) = [⟨#[97]⟩] := by
  simp [scanT, inScan, ltB, tl_data, Go.Op.bytesLess, awB]
  try decide
theorem aw3 : doT [awB] (⟨6, ⟨#[]⟩, ⟨#[]⟩, 0, ⟨#[]⟩, 0, ⟨#[]⟩⟩ : OpR) = ([awB], ⟨0, 0, ⟨#[]⟩, [⟨#[97]⟩]⟩) := by rw [doT_ok ⟨awB_right, by decide⟩, if_pos rfl, aw3s]; rfl
theorem aw4 : doT [awB] (⟨1, ⟨#[98]⟩, ⟨#[]⟩, 0, ⟨#[]⟩, 0, ⟨#[]⟩⟩ : OpR) = ([awB], ⟨70, 0, ⟨#[]⟩, []⟩) := by rw [doT_ok ⟨awB_right, by decide⟩]; rfl
theorem awf0 : OpWf (⟨2, ⟨#[97]⟩, ⟨#[120]⟩, 0, ⟨#[]⟩, 0, ⟨#[]⟩⟩ : OpR) := by unfold OpWf; decide
theorem awf1 : OpWf (⟨4, ⟨#[97]⟩, ⟨#[121]⟩, 1, ⟨#[]⟩, 0, ⟨#[]⟩⟩ : OpR) := by unfold OpWf; decide
theorem awf2 : OpWf (⟨4, ⟨#[97]⟩, ⟨#[122]⟩, 1, ⟨#[]⟩, 0, ⟨#[]⟩⟩ : OpR) := by unfold OpWf; decide
theorem awf3 : OpWf (⟨6, ⟨#[]⟩, ⟨#[]⟩, 0, ⟨#[]⟩, 0, ⟨#[]⟩⟩ : OpR) := by unfold OpWf; decide
theorem awf4 : OpWf (⟨1, ⟨#[98]⟩, ⟨#[]⟩, 0, ⟨#[]⟩, 0, ⟨#[]⟩⟩ : OpR) := by unfold OpWf; decide
theorem aw5 : checkO 1 (⟨5, ⟨#[97]⟩, ⟨#[]⟩, 0, ⟨#[]⟩, 0, ⟨#[]⟩⟩ : OpR) = 22 := by decide
theorem aw6 : checkO 2 (⟨0, ⟨#[]⟩, ⟨#[]⟩, 0, ⟨#[]⟩, 0, ⟨#[]⟩⟩ : OpR) = 1 := by decide
theorem aw7 : writesO (⟨4, ⟨#[]⟩, ⟨#[]⟩, 0, ⟨#[]⟩, 0, ⟨#[]⟩⟩ : OpR) = true := by decide
theorem awf5 : OpWf (⟨5, ⟨#[97]⟩, ⟨#[]⟩, 0, ⟨#[]⟩, 0, ⟨#[]⟩⟩ : OpR) := by unfold OpWf; decide
theorem awf6 : OpWf (⟨0, ⟨#[]⟩, ⟨#[]⟩, 0, ⟨#[]⟩, 0, ⟨#[]⟩⟩ : OpR) := by unfold OpWf; decide
theorem awf7 : OpWf (⟨4, ⟨#[]⟩, ⟨#[]⟩, 0, ⟨#[]⟩, 0, ⟨#[]⟩⟩ : OpR) := by unfold OpWf; decide
theorem aw8 : rightT [zeroR] = false := rightT_no fun h => by have := h.1 zeroR (List.mem_singleton.2 rfl); revert this; decide
theorem aw9 : sameT [awB] [awA] = false := by
  rw [Bool.eq_false_iff]; intro h
  have := sameT_iff.1 h
  simp [awA, awB] at this
theorem zero_ts (w : World) : IsTs (w.alloc (.cells #[.string ⟨#[]⟩, .string ⟨#[]⟩, .int .i64 0, .int .i64 0, .string ⟨#[]⟩, .slice none 0 0] 47)) (some ⟨w.heap.size, 0, none⟩) 1 [zeroR] := by
  have hx := World.alloc_heap_new w (.cells #[.string ⟨#[]⟩, .string ⟨#[]⟩, .int .i64 0, .int .i64 0, .string ⟨#[]⟩, .slice none 0 0] 47)
  refine ⟨rfl, by unfold maxLen; omega, fun r hr => ?_, fun _ => ⟨w.heap.size, 0, rfl, by simp, fun i hi => ?_⟩⟩
  · rw [List.mem_singleton] at hr; subst hr
    unfold RcW RcWf
    decide
  · have : i = 0 := by simpa using hi
    subst this
    exact ⟨none, 0, 0, ⟨cell_blk hx 0, cell_blk hx 1, cell_blk hx 2, cell_blk hx 3, cell_blk hx 4, cell_blk hx 5⟩, Nat.le_refl _, isFs_nil _ _⟩
set_option maxRecDepth 100000 in
set_option maxHeartbeats 8000000 in
theorem awakeT_any (kH : CheckT) (kW : WritesT) (kR : RightQT) (kS : SameQT) (kD : DoT) (w : World) :
    Calls Try.prog 11 #[] w fun e w' => e = .returned (.bool true) ∧ Below w.heap.size w w' := by
  go_enter Try.func11, Try.ntmps11
  have q0 : Calls Try.prog 16 #[.slice none 0 0, .agg #[.int .i64 2, .string ⟨#[97]⟩, .string ⟨#[120]⟩, .int .i64 0, .string ⟨#[]⟩, .int .i64 0, .string ⟨#[]⟩]] w (fun e w' => ∃ A n cap K k kc, e = .returned (.tuple #[.slice A n cap, .agg #[.int .i64 0, .int .i64 1, .string ⟨#[]⟩, .slice K k kc]]) ∧ n ≤ cap ∧ IsTs w' A n [awA] ∧ k ≤ kc ∧ IsSs w' K k [] ∧ Below w.heap.size w w') := by
    have h := kD [] (⟨2, ⟨#[97]⟩, ⟨#[120]⟩, 0, ⟨#[]⟩, 0, ⟨#[]⟩⟩ : OpR) none 0 0 w awf0 (Nat.le_refl _) (isTs_nil _ _) (by omega)
    rw [aw0] at h
    exact h
  go_wp2_with fail
  ((with_reducible refine q0.mono ?_); rintro e W0 ⟨A0, n0, cap0, K0, k0, kc0, rfl, hcap0, hts0, hkc0, hss0, b0⟩)
  have hn0 : n0 = 1 := hts0.1
  subst hn0
  have hkn0 : k0 = 0 := hss0.1
  subst hkn0
  clear q0
  have ha0 : Below W0.heap.size W0 (W0.alloc (.cells #[.int .i64 0, .int .i64 1, .string ⟨#[]⟩, .slice K0 0 kc0] 37)) := (Below.refl _ _).alloc (Nat.le_refl _) _
  have hb0 := Blk.new W0 (.cells #[.int .i64 0, .int .i64 1, .string ⟨#[]⟩, .slice K0 0 kc0] 37)
  obtain ⟨V0, hV0⟩ : ∃ V, W0.alloc (.cells #[.int .i64 0, .int .i64 1, .string ⟨#[]⟩, .slice K0 0 kc0] 37) = V := ⟨_, rfl⟩
  rw [hV0] at ha0 hb0
  have hbb0 := bch b0 ha0
  have HRP0 := Lib.hid hb0
  have HBL0 := Lib.hid hbb0
  clear hb0
  have HT0 := Lib.hid (hts0.below ha0)
  clear hts0 ha0 hbb0 b0
  have q1 : Calls Try.prog 16 #[.slice A0 1 cap0, .agg #[.int .i64 4, .string ⟨#[97]⟩, .string ⟨#[121]⟩, .int .i64 1, .string ⟨#[]⟩, .int .i64 0, .string ⟨#[]⟩]] V0 (fun e w' => ∃ A n cap K k kc, e = .returned (.tuple #[.slice A n cap, .agg #[.int .i64 0, .int .i64 2, .string ⟨#[]⟩, .slice K k kc]]) ∧ n ≤ cap ∧ IsTs w' A n [awB] ∧ k ≤ kc ∧ IsSs w' K k [] ∧ Below V0.heap.size V0 w') := by
    have h := kD [awA] (⟨4, ⟨#[97]⟩, ⟨#[121]⟩, 1, ⟨#[]⟩, 0, ⟨#[]⟩⟩ : OpR) A0 1 cap0 V0 awf1 hcap0 HT0.out (by omega)
    rw [aw1] at h
    exact h
  go_wp2_with fail
  ((with_reducible refine q1.mono ?_); rintro e W1 ⟨A1, n1, cap1, K1, k1, kc1, rfl, hcap1, hts1, hkc1, hss1, b1⟩)
  have hn1 : n1 = 1 := hts1.1
  subst hn1
  have hkn1 : k1 = 0 := hss1.1
  subst hkn1
  clear q1
  have ha1 : Below W1.heap.size W1 (W1.alloc (.cells #[.int .i64 0, .int .i64 2, .string ⟨#[]⟩, .slice K1 0 kc1] 37)) := (Below.refl _ _).alloc (Nat.le_refl _) _
  have hb1 := Blk.new W1 (.cells #[.int .i64 0, .int .i64 2, .string ⟨#[]⟩, .slice K1 0 kc1] 37)
  obtain ⟨V1, hV1⟩ : ∃ V, W1.alloc (.cells #[.int .i64 0, .int .i64 2, .string ⟨#[]⟩, .slice K1 0 kc1] 37) = V := ⟨_, rfl⟩
  rw [hV1] at ha1 hb1
  have hbb1 := bch b1 ha1
  have HRP1 := Lib.hid hb1
  have HBL1 := Lib.hid (bch HBL0.out hbb1)
  clear hb1
  have HU1 := Lib.hid (hts1.below ha1)
  have HT1 := Lib.hid (HT0.out.below hbb1)
  have HP01 := Lib.hid (Blk.below HRP0.out hbb1)
  clear hts1 ha1 hbb1 b1 HT0 HRP0
  have q2 : Calls Try.prog 16 #[.slice A1 1 cap1, .agg #[.int .i64 4, .string ⟨#[97]⟩, .string ⟨#[122]⟩, .int .i64 1, .string ⟨#[]⟩, .int .i64 0, .string ⟨#[]⟩]] V1 (fun e w' => ∃ A n cap K k kc, e = .returned (.tuple #[.slice A n cap, .agg #[.int .i64 71, .int .i64 2, .string ⟨#[]⟩, .slice K k kc]]) ∧ n ≤ cap ∧ IsTs w' A n [awB] ∧ k ≤ kc ∧ IsSs w' K k [] ∧ Below V1.heap.size V1 w') := by
    have h := kD [awB] (⟨4, ⟨#[97]⟩, ⟨#[122]⟩, 1, ⟨#[]⟩, 0, ⟨#[]⟩⟩ : OpR) A1 1 cap1 V1 awf2 hcap1 HU1.out (by omega)
    rw [aw2] at h
    exact h
  go_wp2_with fail
  ((with_reducible refine q2.mono ?_); rintro e W2 ⟨A2, n2, cap2, K2, k2, kc2, rfl, hcap2, hts2, hkc2, hss2, b2⟩)
  have hn2 : n2 = 1 := hts2.1
  subst hn2
  have hkn2 : k2 = 0 := hss2.1
  subst hkn2
  clear q2
  have ha2 : Below W2.heap.size W2 (W2.alloc (.cells #[.int .i64 71, .int .i64 2, .string ⟨#[]⟩, .slice K2 0 kc2] 37)) := (Below.refl _ _).alloc (Nat.le_refl _) _
  have hb2 := Blk.new W2 (.cells #[.int .i64 71, .int .i64 2, .string ⟨#[]⟩, .slice K2 0 kc2] 37)
  obtain ⟨V2, hV2⟩ : ∃ V, W2.alloc (.cells #[.int .i64 71, .int .i64 2, .string ⟨#[]⟩, .slice K2 0 kc2] 37) = V := ⟨_, rfl⟩
  rw [hV2] at ha2 hb2
  have hbb2 := bch b2 ha2
  have HRP2 := Lib.hid hb2
  have HBL2 := Lib.hid (bch HBL1.out hbb2)
  clear hb2
  have HU2 := Lib.hid (HU1.out.below hbb2)
  have HT2 := Lib.hid (HT1.out.below hbb2)
  have HP02 := Lib.hid (Blk.below HP01.out hbb2)
  have HP12 := Lib.hid (Blk.below HRP1.out hbb2)
  clear hts2 ha2 hbb2 b2 HU1 HT1 HP01 HRP1
  have q3 : Calls Try.prog 16 #[.slice A1 1 cap1, .agg #[.int .i64 6, .string ⟨#[]⟩, .string ⟨#[]⟩, .int .i64 0, .string ⟨#[]⟩, .int .i64 0, .string ⟨#[]⟩]] V2 (fun e w' => ∃ A n cap K k kc, e = .returned (.tuple #[.slice A n cap, .agg #[.int .i64 0, .int .i64 0, .string ⟨#[]⟩, .slice K k kc]]) ∧ n ≤ cap ∧ IsTs w' A n [awB] ∧ k ≤ kc ∧ IsSs w' K k [⟨#[97]⟩] ∧ Below V2.heap.size V2 w') := by
    have h := kD [awB] (⟨6, ⟨#[]⟩, ⟨#[]⟩, 0, ⟨#[]⟩, 0, ⟨#[]⟩⟩ : OpR) A1 1 cap1 V2 awf3 hcap1 HU2.out (by omega)
    rw [aw3] at h
    exact h
  go_wp2_with fail
  ((with_reducible refine q3.mono ?_); rintro e W3 ⟨A3, n3, cap3, K3, k3, kc3, rfl, hcap3, hts3, hkc3, hss3, b3⟩)
  have hn3 : n3 = 1 := hts3.1
  subst hn3
  have hkn3 : k3 = 1 := hss3.1
  subst hkn3
  clear q3
  have ha3 : Below W3.heap.size W3 (W3.alloc (.cells #[.int .i64 0, .int .i64 0, .string ⟨#[]⟩, .slice K3 1 kc3] 37)) := (Below.refl _ _).alloc (Nat.le_refl _) _
  have hb3 := Blk.new W3 (.cells #[.int .i64 0, .int .i64 0, .string ⟨#[]⟩, .slice K3 1 kc3] 37)
  obtain ⟨V3, hV3⟩ : ∃ V, W3.alloc (.cells #[.int .i64 0, .int .i64 0, .string ⟨#[]⟩, .slice K3 1 kc3] 37) = V := ⟨_, rfl⟩
  rw [hV3] at ha3 hb3
  have hbb3 := bch b3 ha3
  have HRP3 := Lib.hid hb3
  have HBL3 := Lib.hid (bch HBL2.out hbb3)
  clear hb3
  have HK3 := Lib.hid (hss3.below ha3)
  have HU3 := Lib.hid (HU2.out.below hbb3)
  have HT3 := Lib.hid (HT2.out.below hbb3)
  have HP03 := Lib.hid (Blk.below HP02.out hbb3)
  have HP13 := Lib.hid (Blk.below HP12.out hbb3)
  have HP23 := Lib.hid (Blk.below HRP2.out hbb3)
  clear hts3 ha3 hbb3 b3 HU2 HT2 HP02 HP12 HRP2
  have q4 : Calls Try.prog 16 #[.slice A1 1 cap1, .agg #[.int .i64 1, .string ⟨#[98]⟩, .string ⟨#[]⟩, .int .i64 0, .string ⟨#[]⟩, .int .i64 0, .string ⟨#[]⟩]] V3 (fun e w' => ∃ A n cap K k kc, e = .returned (.tuple #[.slice A n cap, .agg #[.int .i64 70, .int .i64 0, .string ⟨#[]⟩, .slice K k kc]]) ∧ n ≤ cap ∧ IsTs w' A n [awB] ∧ k ≤ kc ∧ IsSs w' K k [] ∧ Below V3.heap.size V3 w') := by
    have h := kD [awB] (⟨1, ⟨#[98]⟩, ⟨#[]⟩, 0, ⟨#[]⟩, 0, ⟨#[]⟩⟩ : OpR) A1 1 cap1 V3 awf4 hcap1 HU3.out (by omega)
    rw [aw4] at h
    exact h
  go_wp2_with fail
  ((with_reducible refine q4.mono ?_); rintro e W4 ⟨A4, n4, cap4, K4, k4, kc4, rfl, hcap4, hts4, hkc4, hss4, b4⟩)
  have hn4 : n4 = 1 := hts4.1
  subst hn4
  have hkn4 : k4 = 0 := hss4.1
  subst hkn4
  clear q4
  have ha4 : Below W4.heap.size W4 (W4.alloc (.cells #[.int .i64 70, .int .i64 0, .string ⟨#[]⟩, .slice K4 0 kc4] 37)) := (Below.refl _ _).alloc (Nat.le_refl _) _
  have hb4 := Blk.new W4 (.cells #[.int .i64 70, .int .i64 0, .string ⟨#[]⟩, .slice K4 0 kc4] 37)
  obtain ⟨V4, hV4⟩ : ∃ V, W4.alloc (.cells #[.int .i64 70, .int .i64 0, .string ⟨#[]⟩, .slice K4 0 kc4] 37) = V := ⟨_, rfl⟩
  rw [hV4] at ha4 hb4
  have hbb4 := bch b4 ha4
  have HRP4 := Lib.hid hb4
  have HBL4 := Lib.hid (bch HBL3.out hbb4)
  clear hb4
  have HK4 := Lib.hid (HK3.out.below hbb4)
  have HU4 := Lib.hid (HU3.out.below hbb4)
  have HT4 := Lib.hid (HT3.out.below hbb4)
  have HP04 := Lib.hid (Blk.below HP03.out hbb4)
  have HP14 := Lib.hid (Blk.below HP13.out hbb4)
  have HP24 := Lib.hid (Blk.below HP23.out hbb4)
  have HP34 := Lib.hid (Blk.below HRP3.out hbb4)
  clear hts4 ha4 hbb4 b4 HU3 HT3 HP03 HP13 HP23 HRP3 HK3
  obtain ⟨bu, ou, hAu, hbu, hcu⟩ := HU4.out.2.2.2 (by omega)
  subst hAu
  obtain ⟨Eu, mu, cu, hxu, _, _⟩ := hcu 0 (by decide)
  obtain ⟨u0, u1, u2, u3, u4, u5⟩ := hxu
  obtain ⟨bk, ok, hAk, hbk, hck⟩ := HK4.out.2.2.2 (by omega)
  subst hAk
  have key0 := hck 0 (by decide)
  simp only [awB, atR, List.getD_cons_zero, Nat.zero_mul, Nat.add_zero] at u0 u1 u2 u3 u4 u5 key0
  have r0 := Blk.cell HP04.out 1
  have r1 := Blk.cell HP14.out 1
  have r2 := Blk.cell HP24.out 0
  have r3 := Blk.cell HP24.out 1
  have r4 := Blk.cell HP34.out 3
  have r5 := Blk.cell HRP4.out 0
  simp only [List.getElem?_toArray, List.getElem?_cons_zero, List.getElem?_cons_succ] at r0 r1 r2 r3 r4 r5
  clear hcu hck
  have qc1 : ∀ W, Calls Try.prog 13 #[.int .i64 1, .agg #[.int .i64 5, .string ⟨#[97]⟩, .string ⟨#[]⟩, .int .i64 0, .string ⟨#[]⟩, .int .i64 0, .string ⟨#[]⟩]] W (fun e w' => e = .returned (.int .i64 22) ∧ Below W.heap.size W w') := fun W => by
    have h := kH 1 (⟨5, ⟨#[97]⟩, ⟨#[]⟩, 0, ⟨#[]⟩, 0, ⟨#[]⟩⟩ : OpR) (by decide) awf5 W
    rw [aw5] at h; exact h
  have qc2 : ∀ W, Calls Try.prog 13 #[.int .i64 2, .agg #[.int .i64 0, .string ⟨#[]⟩, .string ⟨#[]⟩, .int .i64 0, .string ⟨#[]⟩, .int .i64 0, .string ⟨#[]⟩]] W (fun e w' => e = .returned (.int .i64 1) ∧ Below W.heap.size W w') := fun W => by
    have h := kH 2 (⟨0, ⟨#[]⟩, ⟨#[]⟩, 0, ⟨#[]⟩, 0, ⟨#[]⟩⟩ : OpR) (by decide) awf6 W
    rw [aw6] at h; exact h
  have qw : ∀ W, Calls Try.prog 23 #[.agg #[.int .i64 4, .string ⟨#[]⟩, .string ⟨#[]⟩, .int .i64 0, .string ⟨#[]⟩, .int .i64 0, .string ⟨#[]⟩]] W (fun e w' => e = .returned (.bool true) ∧ Below W.heap.size W w') := fun W => by
    have h := kW (⟨4, ⟨#[]⟩, ⟨#[]⟩, 0, ⟨#[]⟩, 0, ⟨#[]⟩⟩ : OpR) awf7 W
    rw [aw7] at h; exact h
  go_upto_region 8 with fail
  simp only [List.append_eq, List.cons_append, List.nil_append]
  go_wp2_with fail
  ((with_reducible refine (qc1 _).mono ?_); rintro e X1 ⟨rfl, y1⟩)
  have HU5 := Lib.hid (HU4.out.below y1)
  have HT5 := Lib.hid (HT4.out.below y1)
  have HB5 := Lib.hid (bch HBL4.out y1)
  clear r0 r1 r2 r3 r4 r5 u0 u1 u2 u3 u4 u5 key0 y1 HU4 HT4
  go_wp2_with fail
  ((with_reducible refine (qc2 _).mono ?_); rintro e X2 ⟨rfl, y2⟩)
  have HU6 := Lib.hid (HU5.out.below y2)
  have HT6 := Lib.hid (HT5.out.below y2)
  have HB6 := Lib.hid (bch HB5.out y2)
  clear y2 HU5 HT5
  go_wp2_with fail
  ((with_reducible refine (qw _).mono ?_); rintro e X3 ⟨rfl, y3⟩)
  have HU7 := Lib.hid (HU6.out.below y3)
  have HT7 := Lib.hid (HT6.out.below y3)
  have HB7 := Lib.hid (bch HB6.out y3)
  clear y3 HU6 HT6
  have qr := kR [awB] _ 1 cap1 X3 hcap1 HU7.out (by omega)
  rw [rightT_iff.2 awB_right] at qr
  go_wp2_with fail
  ((with_reducible refine qr.mono ?_); rintro e X4 ⟨rfl, y4⟩)
  have hz := zero_ts X4
  have hzb : Below X4.heap.size X4 (X4.alloc (.cells #[.string ⟨#[]⟩, .string ⟨#[]⟩, .int .i64 0, .int .i64 0, .string ⟨#[]⟩, .slice none 0 0] 47)) := (Below.refl _ _).alloc (Nat.le_refl _) _
  obtain ⟨X5, hX5⟩ : ∃ V, X4.alloc (.cells #[.string ⟨#[]⟩, .string ⟨#[]⟩, .int .i64 0, .int .i64 0, .string ⟨#[]⟩, .slice none 0 0] 47) = V := ⟨_, rfl⟩
  rw [hX5] at hz hzb
  have hyb := bch y4 hzb
  have HU8 := Lib.hid (HU7.out.below hyb)
  have HT8 := Lib.hid (HT7.out.below hyb)
  have HB8 := Lib.hid (bch HB7.out hyb)
  have qz := kR [zeroR] _ 1 1 X5 (Nat.le_refl _) hz (by omega)
  rw [aw8] at qz
  clear qr y4 hz hzb hyb HU7 HT7
  go_wp2_with fail
  ((with_reducible refine qz.mono ?_); rintro e X6 ⟨rfl, y6⟩)
  have HU9 := Lib.hid (HU8.out.below y6)
  have HT9 := Lib.hid (HT8.out.below y6)
  have HB9 := Lib.hid (bch HB8.out y6)
  have qs := kS [awB] [awB] _ _ 1 1 cap1 cap1 X6 hcap1 hcap1 HU9.out HU9.out (by omega) (by omega)
  rw [sameT_self] at qs
  clear qz y6 HU8 HT8 hX5
  go_wp2_with fail
  ((with_reducible refine qs.mono ?_); rintro e X7 ⟨rfl, y7⟩)
  have HB10 := Lib.hid (bch HB9.out y7)
  have qt := kS [awB] [awA] _ _ 1 1 cap1 cap0 X7 hcap1 hcap0 (HU9.out.below y7) (HT9.out.below y7) (by omega) (by omega)
  rw [aw9] at qt
  clear qs y7
  go_wp2_with fail
  ((with_reducible refine qt.mono ?_); rintro e X8 ⟨rfl, y8⟩)
  have HB11 := Lib.hid (bch HB10.out y8)
  clear qt y8
  go_wp2_with fail
  go_ret
  exact ⟨rfl, HB11.out⟩
end Go.Proofs.Ytpnkkiokkhmjpaa
