import Derived.Test.YtcifcpggiifjeaaSesAwake
import Derived.Test.YtcifcpggiifjeaaSesRefB
import Derived.Deep.RegionLaw
/-
  The walk of the law SessionFar, over what is asked of the program (stage 10).
-/
namespace Go.Proofs.Ytcifcpggiifjeaa
open Go.RowKit
set_option linter.unusedVariables false
set_option linter.unusedSimpArgs false

theorem right_nil {j : Int} (h0 : 0 ≤ j) (h1 : j ≤ 1000) : RightS ⟨1, j, []⟩ := ⟨⟨by show (1 : Int) ≤ 1; omega, by show (1 : Int) ≤ _; omega⟩, ⟨h0, by show j ≤ _; omega⟩, List.Pairwise.nil, fun n h => by simp at h⟩
theorem right_one {j m : Int} (h0 : 0 ≤ j) (h1 : j ≤ 1000) (h2 : j + 1 < m) (h3 : m ≤ j + 64) : RightS ⟨1, j, [m]⟩ := ⟨⟨by show (1 : Int) ≤ 1; omega, by show (1 : Int) ≤ _; omega⟩, ⟨h0, by show j ≤ _; omega⟩, List.pairwise_singleton _ _, fun n h => by
  simp only [List.mem_singleton] at h; subst h; exact ⟨h2, h3, by omega⟩⟩
theorem far_step {j : Int} {l : List Int} (h0 : 0 ≤ j) (h1 : j ≤ 1000) (hr : RightS ⟨1, j, l⟩) (hr2 : RightS ⟨1, j + 1, l⟩) : takeS ⟨1, j, l⟩ (j + 1) = (⟨1, j + 1, l⟩, true, 0) := by
  have hn : ¬ came ⟨1, j, l⟩ (j + 1) := by
    rintro (h | h)
    · simp only at h; omega
    · have := (hr.2.2.2 _ h).1; simp only at this; omega
  rw [takeS_new hr (by omega) (by omega) (by show j + 1 ≤ j + 64; omega) hn]
  rw [came_ext (took_right hr (by omega) (by show j + 1 ≤ j + 64; omega) hn) hr2 rfl (fun n => ?_)]
  rw [took_came hr (by show j + 1 ≤ j + 64; omega) hn]
  show (n ≤ j ∨ n ∈ l) ∨ n = j + 1 ↔ n ≤ j + 1 ∨ n ∈ l
  constructor
  · rintro ((h | h) | h)
    · exact .inl (by omega)
    · exact .inr h
    · exact .inl (by omega)
  · rintro (h | h)
    · by_cases e : n = j + 1
      · exact .inr e
      · exact .inl (.inl (by omega))
    · exact .inl (.inr h)
theorem far_put {j : Int} (h0 : 0 ≤ j) (h1 : j ≤ 900) : takeS ⟨1, j, []⟩ (j + 64) = (⟨1, j, [j + 64]⟩, true, 0) := by
  have hr := right_nil h0 (by omega)
  have hr2 := right_one (m := j + 64) h0 (by omega) (by omega) (by omega)
  have hn : ¬ came ⟨1, j, []⟩ (j + 64) := by
    rintro (h | h)
    · simp only at h; omega
    · simp at h
  rw [takeS_new hr (by omega) (by omega) (by show j + 64 ≤ j + 64; omega) hn]
  rw [came_ext (took_right hr (by omega) (by show j + 64 ≤ j + 64; omega) hn) hr2 rfl (fun n => ?_)]
  rw [took_came hr (by show j + 64 ≤ j + 64; omega) hn]
  show (n ≤ j ∨ n ∈ []) ∨ n = j + 64 ↔ n ≤ j ∨ n ∈ [j + 64]
  simp
set_option maxRecDepth 100000 in
set_option maxHeartbeats 8000000 in
theorem sessionFar_core (kR : RightQ) (kN : NewQ) (kS : StampQ) (kT : TakeQ) (a0 a1 : Int) (w : World) (h0 : (Lit.int .i64 a0).wf = true) (h1 : (Lit.int .i64 a1).wf = true) :
    Calls Try.prog 7 #[.int .i64 a0, .int .i64 a1] w fun e w' => e = .returned (.bool true) ∧ Below w.heap.size w w' := by
  have qw := awakeS_any kR kN kS kT
  have qn := kN
  unfold NewQ at qn
  have KT := Lib.hid kT; clear kT
  clear kN kR kS
  have hp := pickN_lt a0 100 (by omega)
  have qp := fun W => pickN10_nat a0 100 (by omega) (by omega) h0 W
  generalize pickN a0 100 = p at *
  have hq := pickN_lt a1 30 (by omega)
  have qq := fun W => pickN10_nat a1 30 (by omega) (by omega) h1 W
  generalize pickN a1 30 = q at *
  clear h0 h1
  go_enter Try.func7, Try.ntmps7
  go_wp2_with fail
  ((with_reducible refine (qw _).mono ?_); rintro e Wa ⟨rfl, ba⟩)
  go_wp2_with fail
  ((with_reducible refine (qp _).mono ?_); rintro e W0_ ⟨rfl, rfl⟩)
  go_wp2_with fail
  ((with_reducible refine (qq _).mono ?_); rintro e W0_ ⟨rfl, rfl⟩)
  clear qp qq
  go_wp2_with fail
  ((with_reducible refine (qn _).mono ?_); rintro e W1 ⟨A1, n1, cap1, rfl, hcap1, hns1, hnew1, b1⟩)
  try simp only [id]
  have hn0 : n1 = 0 := hns1.1
  subst hn0
  clear qw qn
  have HB1 := Lib.hid (bch ba b1); clear ba b1 hns1 hnew1 hcap1
  have hnx : newS.next = 1 := rfl
  have hsn : newS.seen = 0 := rfl
  go_upto_region 5 with fail
  try simp only [hnx, hsn]
  have hm2 : SnBlk (W1.alloc (.cells #[.int .i64 1, .int .i64 0, .slice A1 0 cap1] 24)) W1.heap.size newS (.slice A1 0 cap1) := SnBlk.new W1 newS _
  have hb2 := (Below.refl W1.heap.size W1).alloc (Nat.le_refl _) (.cells #[.int .i64 1, .int .i64 0, .slice A1 0 cap1] 24)
  have hz2 : (W1.alloc (.cells #[.int .i64 1, .int .i64 0, .slice A1 0 cap1] 24)).heap.size = W1.heap.size + 1 := by simp
  obtain ⟨W2, hW2⟩ : ∃ W, W1.alloc (.cells #[.int .i64 1, .int .i64 0, .slice A1 0 cap1] 24) = W := ⟨_, rfl⟩
  rw [hW2] at hm2 hb2 hz2 ⊢
  clear hW2 hnx hsn
  have HB2 := Lib.hid (bch HB1.out hb2); clear hb2
  have hgsw : w.heap.size ≤ W1.heap.size := HB1.out.size
  have HZ2 : Hid (W1.heap.size < W2.heap.size) := by show _ < _; omega
  clear hz2 HB1
  have HV : Hid (SnVar W2 W1.heap.size ⟨1, 0, []⟩ (W1.heap.size + 1)) := ⟨A1, 0, cap1, hm2, Nat.zero_le _, isNs_nil _ _, fun h => by omega⟩
  clear hm2
  generalize W1.heap.size = gs at hgsw HZ2 HV ⊢
  clear HZ2
  go_wp2_with fail
  go_loopw [9] (fun i wy => ∃ (k : Nat) (wr : World), wr = wy ∧ k ≤ p ∧ i = .int .i64 ((k : Int) + 1) ∧ SnVar wr gs ⟨1, (k : Int), []⟩ (gs + 1) ∧ Below w.heap.size w wr) (fun i _ => 101 - (intOf i).toNat)
  case atStart => exact ⟨0, _, rfl, by omega, rfl, HV.out, HB2.out⟩
  case round =>
    clear HV HB2
    obtain ⟨k, wr, rfl, hk, rfl, ⟨A, n, cap, hm, hcap, hns, hnew⟩, hb⟩ := hrel
    have hn0 : n = 0 := hns.1
    subst hn0
    have HM := Lib.hid hm; clear hm
    have HB := Lib.hid hb; clear hb
    have hgl : gs < wr.heap.size := lt_of_blk HM.out
    by_cases hlt : k < p
    · have qt := KT.out ⟨1, (k : Int), []⟩ A 0 cap ((k : Int) + 1) wr (right_nil (by omega) (by omega)).wf hcap hns (by omega) (wf_within (by omega) (by omega))
      rw [far_step (by omega) (by omega) (right_nil (by omega) (by omega)) (right_nil (by omega) (by omega))] at qt
      obtain ⟨c0, c1, c2⟩ := HM.out.cells
      simp only at c0 c1 c2
      have hle : (k : Int) + 1 ≤ (p : Int) := by omega
      clear hns hnew
      go_wp2_with fail
      ((with_reducible refine (qt).mono ?_); rintro e V5 ⟨A5, n5, cap5, rfl, hcap5, hns, hnew5, b⟩)
      clear c0 c1 c2
      try simp only at hns
      go_upto_region 9 with fail
      have hal := (Below.refl V5.heap.size V5).alloc (Nat.le_refl _) (.cells #[.int .i64 1, .int .i64 ((k : Int) + 1), .slice A5 n5 cap5] 24)
      have ht : SnBlk (V5.alloc (.cells #[.int .i64 1, .int .i64 ((k : Int) + 1), .slice A5 n5 cap5] 24)) V5.heap.size ⟨1, ((k : Int) + 1), []⟩ (.slice A5 n5 cap5) := SnBlk.new V5 ⟨1, ((k : Int) + 1), []⟩ (.slice A5 n5 cap5)
      obtain ⟨U5, hU⟩ : ∃ W, V5.alloc (.cells #[.int .i64 1, .int .i64 ((k : Int) + 1), .slice A5 n5 cap5] 24) = W := ⟨_, rfl⟩
      rw [hU] at hal ht ⊢
      clear hU
      have bb := bch b hal
      have HT5 := Lib.hid ht
      have HN5 := Lib.hid (hns.below hal)
      have HG5 : Hid (V5.heap.size < U5.heap.size) := lt_of_blk ht
      have HL5 := Lib.hid b.size
      have HB5 := Lib.hid (bch HB.out bb)
      have HM5 := Lib.hid (HM.out.below bb)
      clear hal b bb ht hns HB HM
      have hn5 : n5 = 0 := HN5.out.1
      subst hn5
      obtain ⟨c0, c1, c2⟩ := HT5.out.cells
      obtain ⟨d0, d1, d2⟩ := HM5.out.cells
      simp only at c0 c1 c2 d0 d1 d2
      have f0 := HM5.out.frozen 0
      have f1 := HM5.out.frozen 1
      have f2 := HM5.out.frozen 2
      have HV := Lib.hid (SnVar.put (B := gs + 1) (t := ⟨1, (k : Int) + 1, []⟩) HM5.out hcap5 HN5.out (fun h => by omega) (by omega))
      clear HM5 HN5 HT5 hnew5 qt
      go_wp2_with fail
      go_roundw
      case rel =>
        exact ⟨k + 1, _, rfl, by omega, by go_num, HV.out, ((HB5.out.setCell (p := ⟨gs, 0, none⟩) hgsw _).setCell (p := ⟨gs, 1, none⟩) hgsw _).setCell (p := ⟨gs, 2, none⟩) hgsw _⟩
      case measure => simp [intOf]; omega
    · have hke : k = p := by omega
      subst hke
      clear hk hlt
      have hrs := right_nil (j := (k : Int)) (by omega) (by omega)
      have q1 := KT.out ⟨1, (k : Int), []⟩ A 0 cap ((k : Int) + (65 + (q : Int))) wr hrs.wf hcap hns (by omega) (wf_within (by omega) (by omega))
      rw [takeS_far hrs (by omega) (by omega) (by show (k : Int) + 64 < _; omega)] at q1
      have q2 := fun W => KT.out ⟨1, (k : Int), []⟩ A 0 cap ((k : Int) + 64) W hrs.wf hcap (isNs_nil _ _) (by omega) (wf_within (by omega) (by omega))
      rw [far_put (by omega) (by omega)] at q2
      clear hns hnew hrs
      obtain ⟨c0, c1, c2⟩ := HM.out.cells
      simp only at c0 c1 c2
      go_wp2_with fail
      ((with_reducible refine (q1).mono ?_); rintro e V6 ⟨A6, n6, cap6, rfl, hcap6, hns, hnew6, b⟩)
      clear c0 c1 c2
      try simp only at hns
      go_upto_region 13 with fail
      have hal := (Below.refl V6.heap.size V6).alloc (Nat.le_refl _) (.cells #[.int .i64 1, .int .i64 (k : Int), .slice A6 n6 cap6] 24)
      have ht : SnBlk (V6.alloc (.cells #[.int .i64 1, .int .i64 (k : Int), .slice A6 n6 cap6] 24)) V6.heap.size ⟨1, (k : Int), []⟩ (.slice A6 n6 cap6) := SnBlk.new V6 ⟨1, (k : Int), []⟩ (.slice A6 n6 cap6)
      obtain ⟨U6, hU⟩ : ∃ W, V6.alloc (.cells #[.int .i64 1, .int .i64 (k : Int), .slice A6 n6 cap6] 24) = W := ⟨_, rfl⟩
      rw [hU] at hal ht ⊢
      clear hU
      have bb := bch b hal
      have HT6 := Lib.hid ht
      have HN6 := Lib.hid (hns.below hal)
      have HG6 : Hid (V6.heap.size < U6.heap.size) := lt_of_blk ht
      have HL6 := Lib.hid b.size
      have HB6 := Lib.hid (bch HB.out bb)
      have HM6 := Lib.hid (HM.out.below bb)
      clear hal b bb ht hns HB HM
      have hn6 : n6 = 0 := HN6.out.1
      subst hn6
      clear hnew6 q1
      obtain ⟨c0, c1, c2⟩ := HM6.out.cells
      simp only at c0 c1 c2
      go_wp2_with fail
      ((with_reducible refine (q2 _).mono ?_); rintro e V7 ⟨A7, n7, cap7, rfl, hcap7, hns, hnew7, b⟩)
      clear c0 c1 c2
      try simp only at hns
      go_upto_region 14 with fail
      have HL7b := Lib.hid (bch HB6.out b).size
      have HAP7 := Lib.hid (hns.apart (Nat.le_refl _))
      have hal := (Below.refl V7.heap.size V7).alloc (Nat.le_refl _) (.cells #[.int .i64 1, .int .i64 (k : Int), .slice A7 n7 cap7] 24)
      have ht : SnBlk (V7.alloc (.cells #[.int .i64 1, .int .i64 (k : Int), .slice A7 n7 cap7] 24)) V7.heap.size ⟨1, (k : Int), [(k : Int) + 64]⟩ (.slice A7 n7 cap7) := SnBlk.new V7 ⟨1, (k : Int), [(k : Int) + 64]⟩ (.slice A7 n7 cap7)
      obtain ⟨U7, hU⟩ : ∃ W, V7.alloc (.cells #[.int .i64 1, .int .i64 (k : Int), .slice A7 n7 cap7] 24) = W := ⟨_, rfl⟩
      rw [hU] at hal ht ⊢
      clear hU
      have bb := bch b hal
      have HT7 := Lib.hid ht
      have HN7 := Lib.hid (hns.below hal)
      have HG7 : Hid (V7.heap.size < U7.heap.size) := lt_of_blk ht
      have HL7 := Lib.hid b.size
      have HB7 := Lib.hid (bch HB6.out bb)
      have HM7 := Lib.hid (HM6.out.below bb)
      have HT67 := Lib.hid (HT6.out.below bb)
      clear hal b bb ht hns HB6 HM6 HT6
      have hn7 : n7 = 1 := HN7.out.1
      subst hn7
      clear hnew7 q2
      have HS := Lib.hid (refsameS_any ⟨1, (k : Int), []⟩ ⟨1, (k : Int), []⟩ A6 A 0 0 cap6 cap U7 (isNs_nil _ _) (isNs_nil _ _))
      obtain ⟨c0, c1, c2⟩ := HM7.out.cells
      obtain ⟨d0, d1, d2⟩ := HT67.out.cells
      simp only at c0 c1 c2 d0 d1 d2
      have qs := HS.out
      rw [eqS_self] at qs
      clear HS
      obtain ⟨y0, y1, y2⟩ := HT7.out.cells
      simp only at y0 y1 y2
      go_wp2_with fail
      ((with_reducible refine qs.mono ?_); rintro e W8 ⟨rfl, b8⟩)
      have HT8 := Lib.hid (HT7.out.below b8)
      have HN8 := Lib.hid (HN7.out.below b8)
      have HB8 := Lib.hid (bch HB7.out b8)
      have hgb : V7.heap.size < W8.heap.size := lt_of_blk HT8.out
      have hgbw : w.heap.size ≤ V7.heap.size := HL7b.out
      have HAP : Hid (ApartN V7.heap.size A7 1) := HAP7.out
      clear c0 c1 c2 d0 d1 d2 y0 y1 y2 b8 qs HB7 HT7 HN7 HM7 HT67 HL7 HG7 HL6 HG6 HL7b HAP7
      generalize V7.heap.size = gb at *
      obtain ⟨y0, y1, y2⟩ := HT8.out.cells
      simp only at y0 y1 y2
      go_wp2_with fail
      clear y0 y1 y2
      go_loopw [19] (fun i wy => ∃ (j : Nat) (A : Option Addr) (n cap : Nat) (wr : World), wr = wy ∧ j ≤ q + 1 ∧ i = .int .i64 ((k : Int) + 1 + (j : Int)) ∧ SnBlk wr gb ⟨1, (k : Int) + (j : Int), [(k : Int) + 64]⟩ (.slice A n cap) ∧ n ≤ cap ∧ IsNs wr A n [(k : Int) + 64] ∧ ApartN gb A n ∧ Below w.heap.size w wr) (fun i _ => 300 - (intOf i).toNat)
      case atStart =>
        refine ⟨0, A7, 1, cap7, _, rfl, by omega, by simp, ?_, hcap7, HN8.out, HAP.out, HB8.out⟩
        have := HT8.out
        simpa using this
      case round =>
        clear HT8 HN8 HAP HB8 hcap7 hcap6
        obtain ⟨j, A9, n9, cap9, wx, rfl, hj, rfl, hm, hcap9, hns9, hap9, hb⟩ := hrel
        have hn9 : n9 = 1 := hns9.1
        subst hn9
        have hgl9 := lt_of_blk hm
        have HM := Lib.hid hm; clear hm
        have HB := Lib.hid hb; clear hb
        obtain ⟨c0, c1, c2⟩ := HM.out.cells
        simp only at c0 c1 c2
        by_cases hlt : j < q + 1
        · have hle : (k : Int) + 1 + (j : Int) ≤ (k : Int) + (65 + (q : Int)) - 64 := by omega
          have qt := KT.out ⟨1, (k : Int) + (j : Int), [(k : Int) + 64]⟩ A9 1 cap9 ((k : Int) + 1 + (j : Int)) wx (right_one (by omega) (by omega) (by omega) (by omega)).wf hcap9 hns9 (by omega) (wf_within (by omega) (by omega))
          rw [show (k : Int) + 1 + (j : Int) = (k : Int) + (j : Int) + 1 by omega, far_step (by omega) (by omega) (right_one (by omega) (by omega) (by omega) (by omega)) (right_one (by omega) (by omega) (by omega) (by omega)), show (k : Int) + (j : Int) + 1 = (k : Int) + 1 + (j : Int) by omega] at qt
          have HAP9 := Lib.hid hap9
          clear hns9 hap9
          go_wp2_with fail
          ((with_reducible refine (qt).mono ?_); rintro e V10 ⟨A10, n10, cap10, rfl, hcap10, hns, hnew10, b⟩)
          clear c0 c1 c2
          try simp only at hns
          go_upto_region 20 with fail
          have hal := (Below.refl V10.heap.size V10).alloc (Nat.le_refl _) (.cells #[.int .i64 1, .int .i64 ((k : Int) + 1 + (j : Int)), .slice A10 n10 cap10] 24)
          have ht : SnBlk (V10.alloc (.cells #[.int .i64 1, .int .i64 ((k : Int) + 1 + (j : Int)), .slice A10 n10 cap10] 24)) V10.heap.size ⟨1, ((k : Int) + 1 + (j : Int)), [(k : Int) + 64]⟩ (.slice A10 n10 cap10) := SnBlk.new V10 ⟨1, ((k : Int) + 1 + (j : Int)), [(k : Int) + 64]⟩ (.slice A10 n10 cap10)
          obtain ⟨U10, hU⟩ : ∃ W, V10.alloc (.cells #[.int .i64 1, .int .i64 ((k : Int) + 1 + (j : Int)), .slice A10 n10 cap10] 24) = W := ⟨_, rfl⟩
          rw [hU] at hal ht ⊢
          clear hU
          have bb := bch b hal
          have HT10 := Lib.hid ht
          have HN10 := Lib.hid (hns.below hal)
          have HG10 : Hid (V10.heap.size < U10.heap.size) := lt_of_blk ht
          have HL10 := Lib.hid b.size
          have HB10 := Lib.hid (bch HB.out bb)
          have HM10 := Lib.hid (HM.out.below bb)
          clear hal b bb ht hns HB HM
          have hn10 : n10 = 1 := HN10.out.1
          subst hn10
          obtain ⟨c0, c1, c2⟩ := HT10.out.cells
          obtain ⟨d0, d1, d2⟩ := HM10.out.cells
          simp only at c0 c1 c2 d0 d1 d2
          have f0 := HM10.out.frozen 0
          have f1 := HM10.out.frozen 1
          have f2 := HM10.out.frozen 2
          have hap10 : ApartN gb A10 1 := hnew10.apart (by omega) HAP9.out
          have HV := Lib.hid (HM10.out.put ⟨1, (k : Int) + 1 + (j : Int), [(k : Int) + 64]⟩ (.slice A10 1 cap10))
          have HNN := Lib.hid (((HN10.out.far (j := 0) (u := .int .i64 1) hap10).far (j := 1) (u := .int .i64 ((k : Int) + 1 + (j : Int))) hap10).far (j := 2) (u := .slice A10 1 cap10) hap10)
          clear HM10 HN10 HT10 hnew10 HAP9 qt
          go_wp2_with fail
          go_roundw
          case rel =>
            refine ⟨j + 1, A10, 1, cap10, _, rfl, by omega, by go_num, ?_, hcap10, HNN.out, hap10, ((HB10.out.setCell (p := ⟨gb, 0, none⟩) hgbw _).setCell (p := ⟨gb, 1, none⟩) hgbw _).setCell (p := ⟨gb, 2, none⟩) hgbw _⟩
            rw [show (k : Int) + ((j + 1 : Nat) : Int) = (k : Int) + 1 + (j : Int) by omega]; exact HV.out
          case measure => simp [intOf]; omega
        · have hje : j = q + 1 := by omega
          have hgt : (k : Int) + (65 + (q : Int)) - 64 < (k : Int) + 1 + (j : Int) := by omega
          have hrs := right_one (j := (k : Int) + (j : Int)) (m := (k : Int) + 64) (by omega) (by omega) (by omega) (by omega)
          have hnc : ¬ came ⟨1, (k : Int) + (j : Int), [(k : Int) + 64]⟩ ((k : Int) + (65 + (q : Int))) := by
            rintro (h | h)
            · simp only at h; omega
            · simp only [List.mem_singleton] at h; omega
          have qt := KT.out ⟨1, (k : Int) + (j : Int), [(k : Int) + 64]⟩ A9 1 cap9 ((k : Int) + (65 + (q : Int))) wx hrs.wf hcap9 hns9 (by omega) (wf_within (by omega) (by omega))
          rw [takeS_new hrs (by omega) (by omega) (by show (k : Int) + (65 + (q : Int)) ≤ (k : Int) + (j : Int) + 64; omega) hnc] at qt
          generalize tookS ⟨1, (k : Int) + (j : Int), [(k : Int) + 64]⟩ ((k : Int) + (65 + (q : Int))) = T at *
          obtain ⟨tn, ts, tl⟩ := T
          clear hns9 hap9 hnc hrs hje
          go_wp2_with fail
          ((with_reducible refine (qt).mono ?_); rintro e V11 ⟨A11, n11, cap11, rfl, hcap11, hns, hnew11, b⟩)
          clear c0 c1 c2
          try simp only at hns
          go_upto_region 24 with fail
          have hal := (Below.refl V11.heap.size V11).alloc (Nat.le_refl _) (.cells #[.int .i64 tn, .int .i64 ts, .slice A11 n11 cap11] 24)
          have ht : SnBlk (V11.alloc (.cells #[.int .i64 tn, .int .i64 ts, .slice A11 n11 cap11] 24)) V11.heap.size ⟨tn, ts, tl⟩ (.slice A11 n11 cap11) := SnBlk.new V11 ⟨tn, ts, tl⟩ (.slice A11 n11 cap11)
          obtain ⟨U11, hU⟩ : ∃ W, V11.alloc (.cells #[.int .i64 tn, .int .i64 ts, .slice A11 n11 cap11] 24) = W := ⟨_, rfl⟩
          rw [hU] at hal ht ⊢
          clear hU
          have bb := bch b hal
          have HT11 := Lib.hid ht
          have HN11 := Lib.hid (hns.below hal)
          have HG11 : Hid (V11.heap.size < U11.heap.size) := lt_of_blk ht
          have HL11 := Lib.hid b.size
          have HB11 := Lib.hid (bch HB.out bb)
          clear hal b bb ht hns HB
          go_wp2_with fail
          go_ret
          exact ⟨rfl, HB11.out⟩
end Go.Proofs.Ytcifcpggiifjeaa
