import Derived.Test.YtcifcpggiifjeaaSesAwake
import Derived.Test.YtcifcpggiifjeaaSesRefB
import Derived.Deep.RegionLaw
/-
  The walk of the law SessionStamps, over what is asked of the program (stage 10).
-/
namespace Go.Proofs.Ytcifcpggiifjeaa
open Go.RowKit
set_option linter.unusedVariables false
set_option linter.unusedSimpArgs false
set_option maxRecDepth 100000 in
set_option maxHeartbeats 8000000 in
theorem sessionStamps_core (kR : RightQ) (kN : NewQ) (kS : StampQ) (kT : TakeQ) (a0 : Option Addr) (len0 cap0 : Nat) (zs : List Int) (w : World) (h0 : IsRow .i64 w a0 len0 cap0 zs) :
    Calls Try.prog 5 #[.slice a0 len0 cap0] w fun e w' => e = .returned (.bool true) ∧ Below w.heap.size w w' := by
  obtain ⟨_, hns0⟩ := h0.isNs
  generalize zs.take len0 = come at *
  clear h0
  have qw := awakeS_any kR kN kS kT
  have qn := kN
  unfold NewQ at qn
  have KR := Lib.hid kR; clear kR
  have KS := Lib.hid kS; clear kS
  have KT := Lib.hid kT; clear kT
  clear kN
  have hl0 := hns0.2.1
  unfold maxLen at hl0
  have HC := Lib.hid hns0; clear hns0
  go_enter Try.func5, Try.ntmps5
  go_wp2_with fail
  ((with_reducible refine (qw _).mono ?_); rintro e Wa ⟨rfl, ba⟩)
  go_wp2_with fail
  ((with_reducible refine (qn _).mono ?_); rintro e W1 ⟨A1, n1, cap1, rfl, hcap1, hns1, hnew1, b1⟩)
  try simp only [id]
  have hn0 : n1 = 0 := hns1.1
  subst hn0
  clear qw qn
  have HB1 := Lib.hid (bch ba b1); clear ba b1 hns1 hnew1 hcap1
  have hnx : newS.next = 1 := rfl
  have hsn : newS.seen = 0 := rfl
  go_upto_region 3 with fail
  try simp only [hnx, hsn]
  have hm2 : SnBlk (W1.alloc (.cells #[.int .i64 1, .int .i64 0, .slice A1 0 cap1] 24)) W1.heap.size newS (.slice A1 0 cap1) := SnBlk.new W1 newS _
  have hb2 := (Below.refl W1.heap.size W1).alloc (Nat.le_refl _) (.cells #[.int .i64 1, .int .i64 0, .slice A1 0 cap1] 24)
  have hz2 : (W1.alloc (.cells #[.int .i64 1, .int .i64 0, .slice A1 0 cap1] 24)).heap.size = W1.heap.size + 1 := by simp
  obtain ⟨W2, hW2⟩ : ∃ W, W1.alloc (.cells #[.int .i64 1, .int .i64 0, .slice A1 0 cap1] 24) = W := ⟨_, rfl⟩
  rw [hW2] at hm2 hb2 hz2 ⊢
  clear hW2 hnx hsn
  have HB2 := Lib.hid (bch HB1.out hb2); clear hb2
  have hgsw : w.heap.size ≤ W1.heap.size := HB1.out.size
  have HZ2 : Hid (W1.heap.size < W2.heap.size) := by show _ < _; omega
  clear hz2 HB1
  have HV : Hid (SnVar W2 W1.heap.size newS (W1.heap.size + 1)) := ⟨A1, 0, cap1, hm2, Nat.zero_le _, isNs_nil _ _, fun h => by omega⟩
  clear hm2
  generalize W1.heap.size = gs at hgsw HZ2 HV ⊢
  go_wp2_with fail
  go_loopw [5] (fun i wy => ∃ (k : Nat) (sn : Int) (al : List Int) (wr : World), wr = wy ∧ k ≤ len0 ∧ k ≤ 40 ∧ i = .int .i64 k ∧ RightS ⟨(k : Int) + 1, sn, al⟩ ∧ SnVar wr gs ⟨(k : Int) + 1, sn, al⟩ (gs + 1) ∧ Below w.heap.size w wr) (fun i _ => 40 - (intOf i).toNat)
  case atStart => exact ⟨0, 0, [], _, rfl, by omega, by omega, rfl, new_right, HV.out, HB2.out⟩
  case round =>
    clear HV HB2 HZ2
    obtain ⟨k, sn, al, wr, rfl, hk, hk40, rfl, hr, ⟨A, n, cap, hm, hcap, hns, hnew⟩, hb⟩ := hrel
    have hlen := hr.len
    simp only at hlen hns
    have hnl : n = al.length := hns.1
    have hn63 : n ≤ 63 := by rw [hnl]; exact hlen
    have HM := Lib.hid hm; clear hm
    have HB := Lib.hid hb; clear hb
    have hgl : gs < wr.heap.size := lt_of_blk HM.out
    by_cases hlt : k < len0
    · by_cases h40 : k < 40
      · have qs := KS.out ⟨(k : Int) + 1, sn, al⟩ A n cap wr hr.wf hcap hns (by omega)
        have hst : stampS ⟨(k : Int) + 1, sn, al⟩ = (⟨(k : Int) + 2, sn, al⟩, (k : Int) + 1, 0) := by
          unfold stampS; rw [if_neg (fun h => h hr), if_neg (by simp only; omega)]
          simp only [Prod.mk.injEq, Sn.mk.injEq, and_true, true_and]
          omega
        have hr2 : RightS ⟨(k : Int) + 2, sn, al⟩ := ⟨⟨by show 1 ≤ (k : Int) + 2; omega, by show (k : Int) + 2 ≤ _; omega⟩, hr.2⟩
        rw [hst] at qs
        have HR2 := Lib.hid hr2
        obtain ⟨bc, oc, hA, hbc, hc⟩ := HC.out.2.2.2 (by omega)
        subst hA
        have HK : Hid (k < come.length) := by have := HC.out.1; show k < come.length; omega
        have xc := (HB.out.cell (p := ⟨bc, oc + k, none⟩) hbc).trans (hc k HK.out)
        have hzw := ints_at HC.out.2.2.1 HK.out
        clear hc
        generalize come.getD k 0 = z at *
        have HXC := Lib.hid xc; clear xc
        have hp := pickN_lt z 40 (by omega)
        have qp := fun W => pickN10_nat z 40 (by omega) (by omega) hzw W
        generalize pickN z 40 = p at *
        obtain ⟨c0, c1, c2⟩ := HM.out.cells
        simp only at c0 c1 c2
        have HNL := Lib.hid hnl
        have HNW0 := Lib.hid hnew
        clear hr hst hr2 hns hnew hzw hnl
        go_wp2_with fail
        ((with_reducible refine qs.mono ?_); rintro e V5 ⟨A5, n5, cap5, rfl, hcap5, hns5, hnew5, b5⟩)
        clear qs c0 c1 c2
        simp only at hns5
        have hl5 : n5 = n := by rw [hns5.1, HNL.out]
        subst hl5
        go_upto_region 7 with fail
        have hal := (Below.refl V5.heap.size V5).alloc (Nat.le_refl _) (.cells #[.int .i64 ((k : Int) + 2), .int .i64 sn, .slice A5 n5 cap5] 24)
        have ht6 : SnBlk (V5.alloc (.cells #[.int .i64 ((k : Int) + 2), .int .i64 sn, .slice A5 n5 cap5] 24)) V5.heap.size ⟨(k : Int) + 2, sn, al⟩ (.slice A5 n5 cap5) := SnBlk.new V5 ⟨(k : Int) + 2, sn, al⟩ (.slice A5 n5 cap5)
        obtain ⟨V6, hW6⟩ : ∃ W, V5.alloc (.cells #[.int .i64 ((k : Int) + 2), .int .i64 sn, .slice A5 n5 cap5] 24) = W := ⟨_, rfl⟩
        rw [hW6] at hal ht6 ⊢
        clear hW6
        have hgt6 : V5.heap.size < V6.heap.size := lt_of_blk ht6
        have b56 := bch b5 hal
        have HM6 := Lib.hid (HM.out.below b56)
        have HB6 := Lib.hid (bch HB.out b56)
        have HCC := Lib.hid ((b56.cell (p := ⟨bc, oc + k, none⟩) (lt_of_cell (a := ⟨bc, oc + k, none⟩) HXC.out)).trans HXC.out)
        have HNS := Lib.hid (hns5.below hal)
        have HNW5 : Hid (NewN (gs + 1) A5 n5) := hnew5.new (by omega) HNW0.out
        have hgs6 : gs < V6.heap.size := lt_of_blk HM6.out
        clear HM HB HXC hns5 hal b5 b56 hnew5 HNW0
        have HT := Lib.hid ht6; clear ht6
        obtain ⟨c0, c1, c2⟩ := HM6.out.cells
        obtain ⟨d0, d1, d2⟩ := HT.out.cells
        simp only at c0 c1 c2 d0 d1 d2
        generalize V5.heap.size = gt at *
        have qt := fun W h => KT.out ⟨(k : Int) + 2, sn, al⟩ A5 n5 cap5 (1 + (p : Int)) W HR2.out.wf hcap5 h (by omega) (wf_within (by omega) (by omega))
        have hwp : IntKind.i64.wrap (1 + (p : Int)) = 1 + (p : Int) := IntWalk.i64_in _ (by omega)
        have hpr := takeS_right (1 + (p : Int)) HR2.out
        have H_t := HT
        clear HT
        go_upto_region 9 with fail
        clear c0 c1 c2 d0 d1 d2
        generalize hTT : takeS ⟨(k : Int) + 2, sn, al⟩ (1 + (p : Int)) = TT at *
        clear hTT
        obtain ⟨T, tb, te⟩ := TT
        simp only at hpr qt
        obtain ⟨tn, ts, tl⟩ := T
        obtain ⟨hpr, hpn⟩ := hpr
        simp only at hpn
        subst hpn
        have HPR := Lib.hid hpr; clear hpr
        go_cut [9] (fun s9 wx => ∃ (g9 : Nat) (A8 : Option Addr) (n8 cap8 : Nat), s9 = .pointer (some ⟨g9, 0, none⟩) ∧ V6.heap.size ≤ g9 ∧ SnBlk wx g9 (⟨(k : Int) + 2, ts, tl⟩ : Sn) (.slice A8 n8 cap8) ∧ n8 ≤ cap8 ∧ IsNs wx A8 n8 (⟨(k : Int) + 2, ts, tl⟩ : Sn).ahead ∧ NewN (gs + 1) A8 n8 ∧ Below V6.heap.size V6 wx)
        case first =>
          refine wp_region_noPanic ?_
          refine wp_region_held_drew (S := fun W => Below V6.heap.size V6 W) (by kernel_rfl) ((Below.refl _ _).drew) (fun hHeld => ?_)
          refine wpAnyH_take (i := 0) (v := ?_) rfl (by kernel_rfl) (by kernel_rfl) (by kernel_rfl) (fun _ _ _ h => h) (Or.inl ⟨by rfl, ?_⟩) (by assumption) ?_
          rotate_left
          · (intro w hSw; (try dsimp only at hSw); obtain ⟨x0, x1, x2⟩ := (H_t.out.below hSw).cells; go_simp; (try with_reducible rfl))
          simp only [Act.put, List.getElem_toArray, List.getElem_cons_zero, List.setIfInBounds_toArray, List.set_cons_zero, List.set_cons_succ]
          refine wpAnyH_take (i := 1) (v := ?_) rfl (by kernel_rfl) (by kernel_rfl) (by kernel_rfl) (fun _ _ _ h => h) (Or.inl ⟨by rfl, ?_⟩) (by assumption) ?_
          rotate_left
          · (intro w hSw; (try dsimp only at hSw); go_simp; (try with_reducible rfl))
          simp only [Act.put, List.getElem_toArray, List.getElem_cons_zero, List.getElem_cons_succ, List.setIfInBounds_toArray, List.set_cons_zero, List.set_cons_succ]
          refine wpAnyH_take (i := 2) (v := ?_) rfl (by kernel_rfl) (by kernel_rfl) (by kernel_rfl) (fun _ _ _ h => h) (Or.inl ⟨by rfl, ?_⟩) (by assumption) ?_
          rotate_left
          · (intro w hSw; (try dsimp only at hSw); go_simp; (try with_reducible rfl))
          simp only [Act.put, List.getElem_toArray, List.getElem_cons_zero, List.getElem_cons_succ, List.setIfInBounds_toArray, List.set_cons_zero, List.set_cons_succ]
          refine wpAnyH_take (i := 3) (v := ?_) rfl (by kernel_rfl) (by kernel_rfl) (by kernel_rfl) (fun _ _ _ h => h) (Or.inl ⟨by rfl, ?_⟩) (by assumption) ?_
          rotate_left
          · (intro w hSw; (try dsimp only at hSw); go_simp; (try with_reducible rfl))
          simp only [Act.put, List.getElem_toArray, List.getElem_cons_zero, List.getElem_cons_succ, List.setIfInBounds_toArray, List.set_cons_zero, List.set_cons_succ]
          refine wpAnyH_take (i := 4) (v := ?_) rfl (by kernel_rfl) (by kernel_rfl) (by kernel_rfl) (fun _ _ _ h => h) (Or.inl ⟨by rfl, ?_⟩) (by assumption) ?_
          rotate_left
          · (intro w hSw; (try dsimp only at hSw); have xc := (hSw.cell (p := ⟨bc, oc + k, none⟩) (lt_of_cell (a := ⟨bc, oc + k, none⟩) HCC.out)).trans HCC.out; go_simp; (try with_reducible rfl))
          simp only [Act.put, List.getElem_toArray, List.getElem_cons_zero, List.getElem_cons_succ, List.setIfInBounds_toArray, List.set_cons_zero, List.set_cons_succ]
          refine wpAnyH_ready (rs := [5, 12]) (by kernel_rfl) (by simp) ?_
          refine AllReadyH.cons rfl (fun K hK => ?_) ?_
          · rw [if_pos (by rfl)]
            go_simp
            ((with_reducible refine (qp _).mono ?_); rintro e w' ⟨rfl, rfl⟩)
            refine hK.out _ _ (hHeld) (fun hHeld2 => ?_)
            clear hK K hHeld
            have hHeld := hHeld2; clear hHeld2
            refine wpAnyH_take (i := 6) (v := ?_) rfl (by kernel_rfl) (by kernel_rfl) (by kernel_rfl) (fun _ _ _ h => h) (Or.inl ⟨by rfl, ?_⟩) (by assumption) ?_
            rotate_left
            · (intro w hSw; (try dsimp only at hSw); go_simp; (try with_reducible rfl))
            simp only [Act.put, List.getElem_toArray, List.getElem_cons_zero, List.getElem_cons_succ, List.setIfInBounds_toArray, List.set_cons_zero, List.set_cons_succ]
            have HBT : Hid (V6.heap.size ≤ _) := hHeld.size
            refine wpAnyH_ready (rs := [7, 12]) (by kernel_rfl) (by simp) ?_
            refine AllReadyH.cons rfl (fun K hK => ?_) ?_
            · rw [if_pos (by rfl)]
              go_simp
              ((with_reducible refine (qt _ (HNS.out.below hHeld)).mono ?_); rintro e w' ⟨A8, n8, cap8, rfl, hcap8, hns8, hnew8, bq⟩)
              refine hK.out _ _ (bch hHeld bq) (fun hHeld2 => ?_)
              clear hK K hHeld
              have hHeld := hHeld2; clear hHeld2
              refine wpAnyH_take (i := 8) (v := ?_) rfl (by kernel_rfl) (by kernel_rfl) (by kernel_rfl) (fun _ _ _ h => h) (Or.inl ⟨by rfl, ?_⟩) (by assumption) ?_
              rotate_left
              · (intro w hSw; (try dsimp only at hSw); go_simp; (try with_reducible rfl))
              simp only [Act.put, List.getElem_toArray, List.getElem_cons_zero, List.getElem_cons_succ, List.setIfInBounds_toArray, List.set_cons_zero, List.set_cons_succ]
              refine wpAnyH_take (i := 9) (v := ?_) rfl (by kernel_rfl) (by kernel_rfl) (by kernel_rfl) (fun _ _ _ h => h) (Or.inl ⟨by rfl, ?_⟩) (by assumption) ?_
              rotate_left
              · (intro w hSw; (try dsimp only at hSw); go_simp; (try with_reducible rfl))
              simp only [Act.put, List.getElem_toArray, List.getElem_cons_zero, List.getElem_cons_succ, List.setIfInBounds_toArray, List.set_cons_zero, List.set_cons_succ]
              refine wpAnyH_take (i := 10) (v := ?_) rfl (by kernel_rfl) (by kernel_rfl) (by kernel_rfl) (fun _ _ _ h => h) (Or.inl ⟨by rfl, ?_⟩) (by assumption) ?_
              rotate_left
              · (intro w hSw; (try dsimp only at hSw); go_simp; (try with_reducible rfl))
              simp only [Act.put, List.getElem_toArray, List.getElem_cons_zero, List.getElem_cons_succ, List.setIfInBounds_toArray, List.set_cons_zero, List.set_cons_succ]
              refine wpAnyH_take (i := 11) (v := ?_) rfl (by kernel_rfl) (by kernel_rfl) (by kernel_rfl) (fun _ _ _ h => h) (Or.inl ⟨by rfl, ?_⟩) (by assumption) ?_
              rotate_left
              · (intro w hSw; (try dsimp only at hSw); go_simp; (try with_reducible rfl))
              simp only [Act.put, List.getElem_toArray, List.getElem_cons_zero, List.getElem_cons_succ, List.setIfInBounds_toArray, List.set_cons_zero, List.set_cons_succ]
              refine wpAnyH_ready (rs := [12]) (by kernel_rfl) (by simp) ?_
              refine AllReadyH.cons rfl (fun K hK => ?_) AllReadyH.nil
              rw [if_pos (by rfl)]
              go_simp
              have HBW := Lib.hid hHeld
              refine hK.out _ _ (hHeld.alloc hHeld.size _) (fun hHeld2 => ?_)
              clear hK K hHeld
              have hHeld := hHeld2; clear hHeld2
              refine wpAnyH_ready (rs := [13]) (by kernel_rfl) (by simp) ?_
              refine AllReadyH.cons rfl (fun K hK => ?_) AllReadyH.nil
              rw [if_pos (by rfl)]
              go_simp
              refine hK.out _ _ (HBW.out.alloc HBW.out.size _) (fun hHeld2 => ?_)
              clear hK K hHeld
              have hHeld := hHeld2; clear hHeld2
              refine wpAnyH_take (i := 14) (v := ?_) rfl (by kernel_rfl) (by kernel_rfl) (by kernel_rfl) (fun _ _ _ h => h) (Or.inl ⟨by rfl, ?_⟩) (by assumption) ?_
              rotate_left
              · (intro w hSw; (try dsimp only at hSw); go_simp; (try with_reducible rfl))
              simp only [Act.put, List.getElem_toArray, List.getElem_cons_zero, List.getElem_cons_succ, List.setIfInBounds_toArray, List.set_cons_zero, List.set_cons_succ]
              refine wpAnyH_take (i := 15) (v := ?_) rfl (by kernel_rfl) (by kernel_rfl) (by kernel_rfl) (fun _ _ _ h => h) (Or.inl ⟨by rfl, ?_⟩) (by assumption) ?_
              rotate_left
              · (intro w hSw; (try dsimp only at hSw); go_simp; (try with_reducible rfl))
              simp only [Act.put, List.getElem_toArray, List.getElem_cons_zero, List.getElem_cons_succ, List.setIfInBounds_toArray, List.set_cons_zero, List.set_cons_succ]
              refine wpAnyH_done (by kernel_rfl) ?_ _
              refine NoPanic.normal ?_
              go_wp2_with fail
              go_meet
              exact ⟨_, A8, n8, cap8, rfl, HBW.out.size, SnBlk.new w' (⟨(k : Int) + 2, ts, tl⟩ : Sn) (.slice A8 n8 cap8), hcap8, hns8.below ((Below.refl _ _).alloc (Nat.le_refl _) _), hnew8.new (Nat.le_trans (by omega) HBT.out) HNW5.out, hHeld⟩
            refine AllReadyH.cons rfl (fun K hK => ?_) ?_
            · rw [if_pos (by rfl)]
              go_simp
              have hg9 : SnBlk (V6.drew.alloc (.cells #[.int .i64 0, .int .i64 0, .slice none 0 0] 24)) V6.heap.size zeroS (.slice none 0 0) := SnBlk.new V6.drew zeroS (.slice none 0 0)
              refine hK.out _ _ (hHeld.alloc hHeld.size _) (fun hHeld2 => ?_)
              clear hK K hHeld
              have hHeld := hHeld2; clear hHeld2
              have HBT : Hid (V6.heap.size ≤ _) := hHeld.size
              have HBT2 : Hid (V6.heap.size + 1 ≤ _) := lt_of_blk hg9
              refine wpAnyH_ready (rs := [7]) (by kernel_rfl) (by simp) ?_
              refine AllReadyH.cons rfl (fun K hK => ?_) AllReadyH.nil
              rw [if_pos (by rfl)]
              go_simp
              ((with_reducible refine (qt _ (HNS.out.below hHeld)).mono ?_); rintro e w' ⟨A8, n8, cap8, rfl, hcap8, hns8, hnew8, bq⟩)
              have hg8 := hg9.below bq; clear hg9
              have hg9 := hg8; clear hg8
              refine hK.out _ _ (bch hHeld bq) (fun hHeld2 => ?_)
              clear hK K hHeld
              have hHeld := hHeld2; clear hHeld2
              refine wpAnyH_take (i := 8) (v := ?_) rfl (by kernel_rfl) (by kernel_rfl) (by kernel_rfl) (fun _ _ _ h => h) (Or.inl ⟨by rfl, ?_⟩) (by assumption) ?_
              rotate_left
              · (intro w hSw; (try dsimp only at hSw); go_simp; (try with_reducible rfl))
              simp only [Act.put, List.getElem_toArray, List.getElem_cons_zero, List.getElem_cons_succ, List.setIfInBounds_toArray, List.set_cons_zero, List.set_cons_succ]
              refine wpAnyH_take (i := 9) (v := ?_) rfl (by kernel_rfl) (by kernel_rfl) (by kernel_rfl) (fun _ _ _ h => h) (Or.inl ⟨by rfl, ?_⟩) (by assumption) ?_
              rotate_left
              · (intro w hSw; (try dsimp only at hSw); go_simp; (try with_reducible rfl))
              simp only [Act.put, List.getElem_toArray, List.getElem_cons_zero, List.getElem_cons_succ, List.setIfInBounds_toArray, List.set_cons_zero, List.set_cons_succ]
              refine wpAnyH_take (i := 10) (v := ?_) rfl (by kernel_rfl) (by kernel_rfl) (by kernel_rfl) (fun _ _ _ h => h) (Or.inl ⟨by rfl, ?_⟩) (by assumption) ?_
              rotate_left
              · (intro w hSw; (try dsimp only at hSw); go_simp; (try with_reducible rfl))
              simp only [Act.put, List.getElem_toArray, List.getElem_cons_zero, List.getElem_cons_succ, List.setIfInBounds_toArray, List.set_cons_zero, List.set_cons_succ]
              refine wpAnyH_take (i := 11) (v := ?_) rfl (by kernel_rfl) (by kernel_rfl) (by kernel_rfl) (fun _ _ _ h => h) (Or.inl ⟨by rfl, ?_⟩) (by assumption) ?_
              rotate_left
              · (intro w hSw; (try dsimp only at hSw); go_simp; (try with_reducible rfl))
              simp only [Act.put, List.getElem_toArray, List.getElem_cons_zero, List.getElem_cons_succ, List.setIfInBounds_toArray, List.set_cons_zero, List.set_cons_succ]
              obtain ⟨d0, d1, d2⟩ := hg9.cells
              simp only [zeroS] at d0 d1 d2
              have f0 := hg9.frozen 0
              have f1 := hg9.frozen 1
              have f2 := hg9.frozen 2
              have HGG := Lib.hid hg9; clear hg9
              have hns9 := hns8
              have HAP8 := Lib.hid (hnew8.apart HBT2.out (HNS.out.apart (Nat.le_refl _)))
              refine wpAnyH_ready (rs := [13]) (by kernel_rfl) (by simp) ?_
              refine AllReadyH.cons rfl (fun K hK => ?_) AllReadyH.nil
              rw [if_pos (by rfl)]
              go_simp
              refine hK.out _ _ (below_sn3 hHeld (Nat.le_refl _) _ _ _) (fun hHeld2 => ?_)
              clear hK K hHeld
              have hHeld := hHeld2; clear hHeld2
              refine wpAnyH_take (i := 14) (v := ?_) rfl (by kernel_rfl) (by kernel_rfl) (by kernel_rfl) (fun _ _ _ h => h) (Or.inl ⟨by rfl, ?_⟩) (by assumption) ?_
              rotate_left
              · (intro w hSw; (try dsimp only at hSw); go_simp; (try with_reducible rfl))
              simp only [Act.put, List.getElem_toArray, List.getElem_cons_zero, List.getElem_cons_succ, List.setIfInBounds_toArray, List.set_cons_zero, List.set_cons_succ]
              refine wpAnyH_take (i := 15) (v := ?_) rfl (by kernel_rfl) (by kernel_rfl) (by kernel_rfl) (fun _ _ _ h => h) (Or.inl ⟨by rfl, ?_⟩) (by assumption) ?_
              rotate_left
              · (intro w hSw; (try dsimp only at hSw); go_simp; (try with_reducible rfl))
              simp only [Act.put, List.getElem_toArray, List.getElem_cons_zero, List.getElem_cons_succ, List.setIfInBounds_toArray, List.set_cons_zero, List.set_cons_succ]
              refine wpAnyH_done (by kernel_rfl) ?_ _
              refine NoPanic.normal ?_
              go_wp2_with fail
              go_meet
              exact ⟨_, A8, n8, cap8, rfl, Nat.le_refl _, HGG.out.put (⟨(k : Int) + 2, ts, tl⟩ : Sn) _, hcap8, ((hns8.far HAP8.out).far HAP8.out).far HAP8.out, hnew8.new (Nat.le_trans (by omega) HBT.out) HNW5.out, hHeld⟩
            exact AllReadyH.nil
          refine AllReadyH.cons rfl (fun K hK => ?_) ?_
          · rw [if_pos (by rfl)]
            go_simp
            have hg9 : SnBlk (V6.drew.alloc (.cells #[.int .i64 0, .int .i64 0, .slice none 0 0] 24)) V6.heap.size zeroS (.slice none 0 0) := SnBlk.new V6.drew zeroS (.slice none 0 0)
            refine hK.out _ _ (hHeld.alloc hHeld.size _) (fun hHeld2 => ?_)
            clear hK K hHeld
            have hHeld := hHeld2; clear hHeld2
            refine wpAnyH_ready (rs := [5]) (by kernel_rfl) (by simp) ?_
            refine AllReadyH.cons rfl (fun K hK => ?_) AllReadyH.nil
            rw [if_pos (by rfl)]
            go_simp
            ((with_reducible refine (qp _).mono ?_); rintro e w' ⟨rfl, rfl⟩)
            refine hK.out _ _ (hHeld) (fun hHeld2 => ?_)
            clear hK K hHeld
            have hHeld := hHeld2; clear hHeld2
            refine wpAnyH_take (i := 6) (v := ?_) rfl (by kernel_rfl) (by kernel_rfl) (by kernel_rfl) (fun _ _ _ h => h) (Or.inl ⟨by rfl, ?_⟩) (by assumption) ?_
            rotate_left
            · (intro w hSw; (try dsimp only at hSw); go_simp; (try with_reducible rfl))
            simp only [Act.put, List.getElem_toArray, List.getElem_cons_zero, List.getElem_cons_succ, List.setIfInBounds_toArray, List.set_cons_zero, List.set_cons_succ]
            have HBT : Hid (V6.heap.size ≤ _) := hHeld.size
            have HBT2 : Hid (V6.heap.size + 1 ≤ _) := lt_of_blk hg9
            refine wpAnyH_ready (rs := [7]) (by kernel_rfl) (by simp) ?_
            refine AllReadyH.cons rfl (fun K hK => ?_) AllReadyH.nil
            rw [if_pos (by rfl)]
            go_simp
            ((with_reducible refine (qt _ (HNS.out.below hHeld)).mono ?_); rintro e w' ⟨A8, n8, cap8, rfl, hcap8, hns8, hnew8, bq⟩)
            have hg8 := hg9.below bq; clear hg9
            have hg9 := hg8; clear hg8
            refine hK.out _ _ (bch hHeld bq) (fun hHeld2 => ?_)
            clear hK K hHeld
            have hHeld := hHeld2; clear hHeld2
            refine wpAnyH_take (i := 8) (v := ?_) rfl (by kernel_rfl) (by kernel_rfl) (by kernel_rfl) (fun _ _ _ h => h) (Or.inl ⟨by rfl, ?_⟩) (by assumption) ?_
            rotate_left
            · (intro w hSw; (try dsimp only at hSw); go_simp; (try with_reducible rfl))
            simp only [Act.put, List.getElem_toArray, List.getElem_cons_zero, List.getElem_cons_succ, List.setIfInBounds_toArray, List.set_cons_zero, List.set_cons_succ]
            refine wpAnyH_take (i := 9) (v := ?_) rfl (by kernel_rfl) (by kernel_rfl) (by kernel_rfl) (fun _ _ _ h => h) (Or.inl ⟨by rfl, ?_⟩) (by assumption) ?_
            rotate_left
            · (intro w hSw; (try dsimp only at hSw); go_simp; (try with_reducible rfl))
            simp only [Act.put, List.getElem_toArray, List.getElem_cons_zero, List.getElem_cons_succ, List.setIfInBounds_toArray, List.set_cons_zero, List.set_cons_succ]
            refine wpAnyH_take (i := 10) (v := ?_) rfl (by kernel_rfl) (by kernel_rfl) (by kernel_rfl) (fun _ _ _ h => h) (Or.inl ⟨by rfl, ?_⟩) (by assumption) ?_
            rotate_left
            · (intro w hSw; (try dsimp only at hSw); go_simp; (try with_reducible rfl))
            simp only [Act.put, List.getElem_toArray, List.getElem_cons_zero, List.getElem_cons_succ, List.setIfInBounds_toArray, List.set_cons_zero, List.set_cons_succ]
            refine wpAnyH_take (i := 11) (v := ?_) rfl (by kernel_rfl) (by kernel_rfl) (by kernel_rfl) (fun _ _ _ h => h) (Or.inl ⟨by rfl, ?_⟩) (by assumption) ?_
            rotate_left
            · (intro w hSw; (try dsimp only at hSw); go_simp; (try with_reducible rfl))
            simp only [Act.put, List.getElem_toArray, List.getElem_cons_zero, List.getElem_cons_succ, List.setIfInBounds_toArray, List.set_cons_zero, List.set_cons_succ]
            obtain ⟨d0, d1, d2⟩ := hg9.cells
            simp only [zeroS] at d0 d1 d2
            have f0 := hg9.frozen 0
            have f1 := hg9.frozen 1
            have f2 := hg9.frozen 2
            have HGG := Lib.hid hg9; clear hg9
            have hns9 := hns8
            have HAP8 := Lib.hid (hnew8.apart HBT2.out (HNS.out.apart (Nat.le_refl _)))
            refine wpAnyH_ready (rs := [13]) (by kernel_rfl) (by simp) ?_
            refine AllReadyH.cons rfl (fun K hK => ?_) AllReadyH.nil
            rw [if_pos (by rfl)]
            go_simp
            refine hK.out _ _ (below_sn3 hHeld (Nat.le_refl _) _ _ _) (fun hHeld2 => ?_)
            clear hK K hHeld
            have hHeld := hHeld2; clear hHeld2
            refine wpAnyH_take (i := 14) (v := ?_) rfl (by kernel_rfl) (by kernel_rfl) (by kernel_rfl) (fun _ _ _ h => h) (Or.inl ⟨by rfl, ?_⟩) (by assumption) ?_
            rotate_left
            · (intro w hSw; (try dsimp only at hSw); go_simp; (try with_reducible rfl))
            simp only [Act.put, List.getElem_toArray, List.getElem_cons_zero, List.getElem_cons_succ, List.setIfInBounds_toArray, List.set_cons_zero, List.set_cons_succ]
            refine wpAnyH_take (i := 15) (v := ?_) rfl (by kernel_rfl) (by kernel_rfl) (by kernel_rfl) (fun _ _ _ h => h) (Or.inl ⟨by rfl, ?_⟩) (by assumption) ?_
            rotate_left
            · (intro w hSw; (try dsimp only at hSw); go_simp; (try with_reducible rfl))
            simp only [Act.put, List.getElem_toArray, List.getElem_cons_zero, List.getElem_cons_succ, List.setIfInBounds_toArray, List.set_cons_zero, List.set_cons_succ]
            refine wpAnyH_done (by kernel_rfl) ?_ _
            refine NoPanic.normal ?_
            go_wp2_with fail
            go_meet
            exact ⟨_, A8, n8, cap8, rfl, Nat.le_refl _, HGG.out.put (⟨(k : Int) + 2, ts, tl⟩ : Sn) _, hcap8, ((hns8.far HAP8.out).far HAP8.out).far HAP8.out, hnew8.new (Nat.le_trans (by omega) HBT.out) HNW5.out, hHeld⟩
          exact AllReadyH.nil
        case rest =>
          obtain ⟨g9, A8, n8, cap8, rfl, hg9, hu, hcap8, hns8, hnew8, hbw⟩ := hcut
          have hm8 := HM6.out.below hbw
          simp only at hns8
          obtain ⟨c0, c1, c2⟩ := hu.cells
          obtain ⟨d0, d1, d2⟩ := hm8.cells
          simp only at c0 c1 c2 d0 d1 d2
          have f0 := hm8.frozen 0
          have f1 := hm8.frozen 1
          have f2 := hm8.frozen 2
          have HV := Lib.hid (SnVar.put (t := ⟨(k : Int) + 2, ts, tl⟩) hm8 hcap8 hns8 hnew8 (by omega))
          have HB8 := Lib.hid (bch HB6.out hbw)
          clear hm8 hns8 hnew8 hu hbw qt qp HM6 HB6 HNS H_t HCC
          go_wp2_with fail
          go_roundw
          case rel =>
            refine ⟨k + 1, ts, tl, _, rfl, by omega, by omega, by go_num, ?_, ?_, ((HB8.out.setCell (p := ⟨gs, 0, none⟩) hgsw _).setCell (p := ⟨gs, 1, none⟩) hgsw _).setCell (p := ⟨gs, 2, none⟩) hgsw _⟩
            · rw [show ((k + 1 : Nat) : Int) + 1 = (k : Int) + 2 by omega]; exact HPR.out
            · rw [show ((k + 1 : Nat) : Int) + 1 = (k : Int) + 2 by omega]; exact HV.out
          case measure => simp [intOf]; omega
      · have hke : k = 40 := by omega
        subst hke
        have HQ : Hid (len0 ≥ 40) := by show len0 ≥ 40; omega
        have hmin : min (len0 : Int) 40 = 40 := by omega
        obtain ⟨c0, c1, c2⟩ := HM.out.cells
        simp only at c0 c1 c2
        go_wp2_with fail
        go_ret
        exact ⟨rfl, HB.out⟩
    · have hke : k = len0 := by omega
      subst hke
      obtain ⟨c0, c1, c2⟩ := HM.out.cells
      simp only at c0 c1 c2
      have ek : ((k : Int) + 1 == 1 + (k : Int)) = true := by simp; omega
      go_wp2_with fail
      go_ret
      exact ⟨rfl, HB.out⟩
end Go.Proofs.Ytcifcpggiifjeaa
