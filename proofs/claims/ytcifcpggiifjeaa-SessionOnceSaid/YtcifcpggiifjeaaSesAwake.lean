import Derived.Test.YtcifcpggiifjeaaSes
import Derived.Test.YtcifcpggiifjeaaGPick
import Derived.Deep.DeepCutAuto
/-
  The contract of 'awake' of stage 10: it returns true.
-/
namespace Go.Proofs.Ytcifcpggiifjeaa
open Go.RowKit
set_option linter.unusedVariables false

def sAt (k : Nat) : Sn := if k = 0 then newS else if k = 1 then ⟨1, 1, []⟩ else if k = 2 then ⟨1, 1, [3]⟩ else ⟨1, 3, []⟩
def nAt (k : Nat) : Int := if k = 0 then 1 else if k = 2 then 2 else 3
def wAt (k : Nat) : Bool := decide (k < 3)
theorem take_at (k : Nat) (h : k < 4) : takeS (sAt k) (nAt k) = (sAt (k + 1), wAt k, 0) := by
  rcases (by omega : k = 0 ∨ k = 1 ∨ k = 2 ∨ k = 3) with rfl | rfl | rfl | rfl <;> rfl
theorem sAt_wf (k : Nat) : SnWf (sAt k) := by
  unfold sAt
  split
  · exact ⟨by decide, by decide⟩
  · split
    · exact ⟨by decide, by decide⟩
    · split
      · exact ⟨by decide, by decide⟩
      · exact ⟨by decide, by decide⟩
theorem sAt_len (k : Nat) : (sAt k).ahead.length ≤ 1 := by
  unfold sAt
  split
  · decide
  · split
    · decide
    · split <;> decide
def s3 : Sn := ⟨1, 3, []⟩
theorem aw_far : takeS s3 68 = (s3, false, 60) := rfl
theorem aw_arg : takeS s3 0 = (s3, false, 1) := rfl
theorem aw_stamp : stampS s3 = (⟨2, 3, []⟩, 1, 0) := rfl
theorem aw_right : rightS ⟨2, 3, []⟩ = true := by decide
theorem aw_zero : rightS zeroS = false := by decide

set_option maxRecDepth 100000 in
set_option maxHeartbeats 8000000 in
theorem awakeS_any (kR : RightQ) (kN : NewQ) (kS : StampQ) (kT : TakeQ) (w : World) :
    Calls Try.prog 8 #[] w fun e w' => e = .returned (.bool true) ∧ Below w.heap.size w w' := by
  have q0 := kN w
  have qz := fun W => kR zeroS none 0 0 W ⟨by decide, by decide⟩ (Nat.le_refl _) (isNs_nil _ _)
  rw [aw_zero] at qz
  simp only [zeroS] at qz
  have KR := Lib.hid kR; clear kR
  have KS := Lib.hid kS; clear kS
  have KT := Lib.hid kT; clear kT
  clear kN
  go_enter Try.func8, Try.ntmps8
  go_wp2_with fail
  ((with_reducible refine q0.mono ?_); rintro e W1 ⟨A, n, cap, rfl, hcap, hns, hnew, b1⟩)
  try simp only [id]
  have hn0 : n = 0 := hns.1
  subst hn0
  clear q0
  have hn0 : newS.next = 1 := rfl
  have hs0 : newS.seen = 0 := rfl
  go_upto_region 2 with fail
  try simp only [hn0, hs0]
  have hm2 : SnBlk (W1.alloc (.cells #[.int .i64 1, .int .i64 0, .slice A 0 cap] 24)) W1.heap.size newS (.slice A 0 cap) := SnBlk.new W1 newS _
  have hb2 := (Below.refl W1.heap.size W1).alloc (Nat.le_refl _) (.cells #[.int .i64 1, .int .i64 0, .slice A 0 cap] 24)
  have hz2 : (W1.alloc (.cells #[.int .i64 1, .int .i64 0, .slice A 0 cap] 24)).heap.size = W1.heap.size + 1 := by simp
  obtain ⟨W2, hW2⟩ : ∃ W, W1.alloc (.cells #[.int .i64 1, .int .i64 0, .slice A 0 cap] 24) = W := ⟨_, rfl⟩
  rw [hW2] at hm2 hb2 hz2 ⊢
  clear hW2 hn0 hs0
  have HZ2 := Lib.hid hz2; clear hz2
  go_upto_region 3 with fail
  have hw3 := Blk.new W2 (.cells #[.bool true, .bool true, .bool true, .bool false] 4 (0, 0))
  have hb3 := (Below.refl W2.heap.size W2).alloc (Nat.le_refl _) (.cells #[.bool true, .bool true, .bool true, .bool false] 4)
  have hz3 : (W2.alloc (.cells #[.bool true, .bool true, .bool true, .bool false] 4)).heap.size = W2.heap.size + 1 := by simp
  obtain ⟨W3, hW3⟩ : ∃ W, W2.alloc (.cells #[.bool true, .bool true, .bool true, .bool false] 4) = W := ⟨_, rfl⟩
  rw [hW3] at hw3 hb3 hz3 ⊢
  clear hW3
  have HZ3 := Lib.hid hz3; clear hz3
  have hn4 := Blk.new W3 (.cells #[.int .i64 1, .int .i64 3, .int .i64 2, .int .i64 3] 3 (0, 0))
  have hb4 := (Below.refl W3.heap.size W3).alloc (Nat.le_refl _) (.cells #[.int .i64 1, .int .i64 3, .int .i64 2, .int .i64 3] 3)
  obtain ⟨W4, hW4⟩ : ∃ W, W3.alloc (.cells #[.int .i64 1, .int .i64 3, .int .i64 2, .int .i64 3] 3) = W := ⟨_, rfl⟩
  rw [hW4] at hn4 hb4
  have hv4 : SnVar W4 W1.heap.size (sAt 0) (W3.heap.size + 1) := ⟨A, 0, cap, (hm2.below hb3).below hb4, Nat.zero_le _, isNs_nil _ _, fun h => by omega⟩
  have hw4 := hw3.below hb4
  have hb := bch b1 (bch hb2 (bch hb3 hb4))
  have e1 : W1.heap.size < W2.heap.size := by have := HZ2.out; omega
  have e2 : W2.heap.size < W3.heap.size := by have := HZ3.out; omega
  have e0 : w.heap.size ≤ W1.heap.size := b1.size
  clear hm2 hw3 hb2 hb3 hb4 hns hnew HZ2 HZ3 b1 hcap
  have HV4 := Lib.hid hv4; clear hv4
  have HW4 := Lib.hid hw4; clear hw4
  have HN4 := Lib.hid hn4; clear hn4
  have HB4 := Lib.hid hb; clear hb
  go_wp2_with fail
  clear hW4
  generalize W1.heap.size = gs at e0 e1 HV4 ⊢
  generalize W2.heap.size = gw at e1 e2 HW4 ⊢
  generalize W3.heap.size = gn at e2 HV4 HN4 ⊢
  go_loopw [21] (fun i wr => ∃ k : Nat, k ≤ 4 ∧ i = .int .i64 k ∧ SnVar wr gs (sAt k) (gn + 1) ∧ Blk wr gw (.cells #[.bool true, .bool true, .bool true, .bool false] 4 (0, 0)) ∧ Blk wr gn (.cells #[.int .i64 1, .int .i64 3, .int .i64 2, .int .i64 3] 3 (0, 0)) ∧ Below w.heap.size w wr) (fun i _ => 4 - (intOf i).toNat)
  case atStart => exact ⟨0, by omega, rfl, HV4.out, HW4.out, HN4.out, HB4.out⟩
  case round =>
    clear HV4 HW4 HN4 HB4
    obtain ⟨k, hk, rfl, ⟨A, n, cap, hm, hcap, hns, hnew⟩, hw, hn, hb⟩ := hrel
    have hlen := sAt_len k
    have hnl : n ≤ 1 := by rw [hns.1]; exact hlen
    by_cases hlt : k < 4
    · have q := KT.out (sAt k) A n cap (nAt k) _ (sAt_wf k) hcap hns (by omega) (by unfold nAt; split; decide; split <;> decide)
      rw [take_at k hlt] at q
      have cn : wr.cell? ⟨gn, k, none⟩ = some (.int .i64 (nAt k)) := by
        rcases (by omega : k = 0 ∨ k = 1 ∨ k = 2 ∨ k = 3) with rfl | rfl | rfl | rfl
        · exact hn.cell 0
        · exact hn.cell 1
        · exact hn.cell 2
        · exact hn.cell 3
      have HCW : Hid (∀ W, Blk W gw (.cells #[.bool true, .bool true, .bool true, .bool false] 4 (0, 0)) → W.cell? ⟨gw, k, none⟩ = some (.bool (wAt k))) := fun W hw => by
        rcases (by omega : k = 0 ∨ k = 1 ∨ k = 2 ∨ k = 3) with rfl | rfl | rfl | rfl
        · exact hw.cell 0
        · exact hw.cell 1
        · exact hw.cell 2
        · exact hw.cell 3
      obtain ⟨c0, c1, c2⟩ := hm.cells
      have HM := Lib.hid hm; clear hm
      have HW := Lib.hid hw; clear hw
      have HN := Lib.hid hn; clear hn
      have HB := Lib.hid hb; clear hb
      have HNW0 := Lib.hid hnew
      clear hns hnew
      generalize hS : sAt (k + 1) = t at *
      generalize wAt k = wk at *
      go_wp2_with fail
      ((with_reducible refine q.mono ?_); rintro e W5 ⟨A5, n5, cap5, rfl, hcap5, hns5, hnew5, b5⟩)
      clear c0 c1 c2 q cn
      have hgl := HN.out.lt
      have hnw : NewN (gn + 1) A5 n5 := hnew5.new (by omega) HNW0.out
      have HM5 := Lib.hid (HM.out.below b5)
      have HW5 := Lib.hid (HW.out.below b5)
      have HN5 := Lib.hid (HN.out.below b5)
      have HB5 := Lib.hid (bch HB.out b5)
      clear HM HW HN HB b5 hnew5 HNW0
      go_upto_region 7 with fail
      have hal := (Below.refl W5.heap.size W5).alloc (Nat.le_refl _) (.cells #[.int .i64 t.next, .int .i64 t.seen, .slice A5 n5 cap5] 24)
      have ht6 := SnBlk.new W5 t (.slice A5 n5 cap5)
      obtain ⟨W6, hW6⟩ : ∃ W, W5.alloc (.cells #[.int .i64 t.next, .int .i64 t.seen, .slice A5 n5 cap5] 24) = W := ⟨_, rfl⟩
      rw [hW6] at hal ht6 ⊢
      clear hW6
      have hns6 := hns5.below hal
      have hm6 := HM5.out.below hal
      have hw6 := HW5.out.below hal
      have hn6 := HN5.out.below hal
      have hb6 := bch HB5.out hal
      clear HM5 HW5 HN5 HB5 hal hns5
      have cw := HCW.out W6 hw6
      obtain ⟨c0, c1, c2⟩ := ht6.cells
      obtain ⟨d0, d1, d2⟩ := hm6.cells
      have f0 := hm6.frozen 0
      have f1 := hm6.frozen 1
      have f2 := hm6.frozen 2
      have HV := Lib.hid (SnVar.put (t := t) hm6 hcap5 hns6 hnw (by omega)); clear hm6 hns6 hnw
      have HW := Lib.hid hw6; clear hw6
      have HN := Lib.hid hn6; clear hn6
      have HB := Lib.hid hb6; clear hb6
      clear ht6 hcap5
      go_wp2_with fail
      go_roundw
      case rel =>
        refine ⟨k + 1, by omega, by go_num, by rw [hS]; exact HV.out, ((HW.out.far (by omega) _ _).far (by omega) _ _).far (by omega) _ _, ((HN.out.far (by omega) _ _).far (by omega) _ _).far (by omega) _ _, ?_⟩
        exact ((HB.out.setCell (p := ⟨gs, 0, none⟩) e0 _).setCell (p := ⟨gs, 1, none⟩) e0 _).setCell (p := ⟨gs, 2, none⟩) e0 _
      case measure => simp [intOf]; omega
    · have hke : k = 4 := by omega
      subst hke
      have hs4 : sAt 4 = s3 := rfl
      rw [hs4] at hm hns hlen
      clear hw hn hs4
      have hn0 : n = 0 := hns.1
      subst hn0
      have q1 := fun W h => KT.out s3 A 0 cap 68 W ⟨by decide, by decide⟩ hcap h (by omega) (by decide)
      have q2 := fun W h => KT.out s3 A 0 cap 0 W ⟨by decide, by decide⟩ hcap h (by omega) (by decide)
      have q3 := fun W h => KS.out s3 A 0 cap W ⟨by decide, by decide⟩ hcap h (by omega)
      rw [aw_far] at q1
      rw [aw_arg] at q2
      rw [aw_stamp] at q3
      obtain ⟨c0, c1, c2⟩ := hm.cells
      have HM := Lib.hid hm; clear hm
      have HB := Lib.hid hb; clear hb
      simp only [s3] at c0 c1 c2 q1 q2 q3
      go_wp2_with fail
      ((with_reducible refine (q1 _ (isNs_nil _ _)).mono ?_); rintro e V6 ⟨A6, n6, cap6, rfl, hcap6, hns, hnew, b⟩)
      have hn0 : n6 = 0 := hns.1
      subst hn0
      clear c0 c1 c2 hns hnew
      go_upto_region 12 with fail
      have hal := (Below.refl V6.heap.size V6).alloc (Nat.le_refl _) (.cells #[.int .i64 1, .int .i64 3, .slice A6 0 cap6] 24)
      have ht := SnBlk.new V6 ⟨1, 3, []⟩ (.slice A6 0 cap6)
      simp only at ht
      obtain ⟨U6, hU⟩ : ∃ W, V6.alloc (.cells #[.int .i64 1, .int .i64 3, .slice A6 0 cap6] 24) = W := ⟨_, rfl⟩
      rw [hU] at hal ht ⊢
      clear hU
      have HM6 := Lib.hid ((HM.out.below b).below hal)
      have HB6 := Lib.hid (bch (bch HB.out b) hal)
      obtain ⟨c0, c1, c2⟩ := HM6.out.cells
      simp only [s3] at c0 c1 c2
      clear hal b
      clear ht
      go_wp2_with fail
      ((with_reducible refine (q2 _ (isNs_nil _ _)).mono ?_); rintro e V7 ⟨A7, n7, cap7, rfl, hcap7, hns, hnew, b⟩)
      have hn0 : n7 = 0 := hns.1
      subst hn0
      clear c0 c1 c2 hns hnew
      go_upto_region 13 with fail
      have hal := (Below.refl V7.heap.size V7).alloc (Nat.le_refl _) (.cells #[.int .i64 1, .int .i64 3, .slice A7 0 cap7] 24)
      have ht := SnBlk.new V7 ⟨1, 3, []⟩ (.slice A7 0 cap7)
      simp only at ht
      obtain ⟨U7, hU⟩ : ∃ W, V7.alloc (.cells #[.int .i64 1, .int .i64 3, .slice A7 0 cap7] 24) = W := ⟨_, rfl⟩
      rw [hU] at hal ht ⊢
      clear hU
      have HM7 := Lib.hid ((HM6.out.below b).below hal)
      have HB7 := Lib.hid (bch (bch HB6.out b) hal)
      obtain ⟨c0, c1, c2⟩ := HM7.out.cells
      simp only [s3] at c0 c1 c2
      clear hal b
      clear ht
      go_wp2_with fail
      ((with_reducible refine (q3 _ (isNs_nil _ _)).mono ?_); rintro e V8 ⟨A8, n8, cap8, rfl, hcap8, hns, hnew, b⟩)
      have hn0 : n8 = 0 := hns.1
      subst hn0
      clear c0 c1 c2 hns hnew
      go_upto_region 14 with fail
      have hal := (Below.refl V8.heap.size V8).alloc (Nat.le_refl _) (.cells #[.int .i64 2, .int .i64 3, .slice A8 0 cap8] 24)
      have ht := SnBlk.new V8 ⟨2, 3, []⟩ (.slice A8 0 cap8)
      simp only at ht
      obtain ⟨U8, hU⟩ : ∃ W, V8.alloc (.cells #[.int .i64 2, .int .i64 3, .slice A8 0 cap8] 24) = W := ⟨_, rfl⟩
      rw [hU] at hal ht ⊢
      clear hU
      have HM8 := Lib.hid ((HM7.out.below b).below hal)
      have HB8 := Lib.hid (bch (bch HB7.out b) hal)
      obtain ⟨c0, c1, c2⟩ := HM8.out.cells
      simp only [s3] at c0 c1 c2
      clear hal b
      have q4 := fun W => KR.out ⟨2, 3, []⟩ A8 0 cap8 W ⟨by decide, by decide⟩ hcap8 (isNs_nil _ _)
      rw [aw_right] at q4
      obtain ⟨d0, d1, d2⟩ := ht.cells
      clear ht
      go_wp2_with fail
      ((with_reducible refine (q4 _).mono ?_); rintro e V9 ⟨rfl, b⟩)
      have HB9 := Lib.hid (bch HB8.out b)
      clear b c0 c1 c2 d0 d1 d2
      go_wp2_with fail
      ((with_reducible refine (qz _).mono ?_); rintro e V10 ⟨rfl, b⟩)
      have HB10 := Lib.hid (bch HB9.out b)
      clear b
      go_wp2_with fail
      go_ret
      exact ⟨rfl, HB10.out⟩
end Go.Proofs.Ytcifcpggiifjeaa
