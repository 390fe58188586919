import Derived.Test.YtcifcpggiifjeaaSesAwake
import Derived.Test.YtcifcpggiifjeaaSesTake
import Derived.Deep.RegionLaw
/-
  The walk of the law SessionTells, over what is asked of the program (stage 10).
-/
namespace Go.Proofs.Ytcifcpggiifjeaa
open Go.RowKit
set_option linter.unusedVariables false
set_option linter.unusedSimpArgs false
theorem fldS0 (a b : Int) (x : Value) (w : World) : (Instr.field 24 (.agg #[.int .i64 a, .int .i64 b, x]) 0).run Try.prog w = .ok (.int .i64 a) w := by kernel_rfl
theorem fldS1 (a b : Int) (x : Value) (w : World) : (Instr.field 24 (.agg #[.int .i64 a, .int .i64 b, x]) 1).run Try.prog w = .ok (.int .i64 b) w := by kernel_rfl
theorem fldS2 (a b : Int) (A : Option Addr) (n c : Nat) (w : World) : (Instr.field 24 (.agg #[.int .i64 a, .int .i64 b, .slice A n c]) 2).run Try.prog w = .ok (.slice A n c) w := by kernel_rfl
set_option maxRecDepth 100000 in
set_option maxHeartbeats 8000000 in
theorem sessionTells_core (kR : RightQ) (kN : NewQ) (kS : StampQ) (kT : TakeQ) (s0 : Sn) (A0 : Option Addr) (n0 cap0 : Nat) (seq : Int) (a2 : Option Addr) (len2 cap2 : Nat) (zs : List Int) (w : World)
    (hw0 : SnWf s0) (hc0 : n0 ≤ cap0) (hn0 : IsNs w A0 n0 s0.ahead) (hseq : (Lit.int .i64 seq).wf = true) (h2 : IsRow .i64 w a2 len2 cap2 zs) :
    Calls Try.prog 3 #[snV s0 (.slice A0 n0 cap0), .int .i64 seq, .slice a2 len2 cap2] w fun e w' => e = .returned (.bool true) ∧ Below w.heap.size w w' := by
  obtain ⟨_, hns2⟩ := h2.isNs
  generalize zs.take len2 = come at *
  clear h2
  have qw := awakeS_any kR kN kS kT
  have qn := kN
  unfold NewQ at qn
  have qn2 := qn
  have KR := Lib.hid kR; clear kR
  have KS := Lib.hid kS; clear kS
  have KT := Lib.hid kT; clear kT
  clear kN
  have hl2 := hns2.2.1
  unfold maxLen at hl2
  have hb0 : Below w.heap.size w (w.alloc (.cells #[.int .i64 s0.next, .int .i64 s0.seen, .slice A0 n0 cap0] 24)) := (Below.refl _ _).alloc (Nat.le_refl _) _
  have hx0 := SnBlk.new w s0 (.slice A0 n0 cap0)
  obtain ⟨W0, hW0⟩ : ∃ W, w.alloc (.cells #[.int .i64 s0.next, .int .i64 s0.seen, .slice A0 n0 cap0] 24) = W := ⟨_, rfl⟩
  rw [hW0] at hb0 hx0
  have HB0 := Lib.hid hb0; clear hb0
  have HX := Lib.hid hx0; clear hx0
  have HC := Lib.hid hns2; clear hns2
  have HN0 := Lib.hid hn0; clear hn0
  have HW0 := Lib.hid hw0; clear hw0
  go_enter Try.func3, Try.ntmps3
  go_wp2_with fail
  ((with_reducible refine (qw _).mono ?_); rintro e Wa ⟨rfl, ba⟩)
  clear hW0 qw
  have HBa := Lib.hid (bch HB0.out ba)
  have HXa := Lib.hid (HX.out.below ba)
  clear ba HB0 HX
  have hf0 := fldS0 1 0
  have hf1 := fldS1 1 0
  have hf2 := fldS2 1 0
  have hnx : newS.next = 1 := rfl
  have hsn : newS.seen = 0 := rfl
  go_wp2_with fail
  ((with_reducible refine (qn _).mono ?_); rintro e Wb ⟨Ab, nb, capb, rfl, hcapb, hnsb, hnewb, bb⟩)
  try simp only [id, snV, hnx, hsn]
  go_wp2_with fail
  ((with_reducible refine (qn _).mono ?_); rintro e Wc ⟨Ac, nc, capc, rfl, hcapc, hnsc, hnewc, bc⟩)
  try simp only [id, snV, hnx, hsn]
  go_wp2_with fail
  ((with_reducible refine (qn _).mono ?_); rintro e Wd ⟨Ad, nd, capd, rfl, hcapd, hnsd, hnewd, bd⟩)
  try simp only [id, snV, hnx, hsn]
  have hnd : nd = 0 := hnsd.1
  subst hnd
  have HBd := Lib.hid (bch (bch (bch HBa.out bb) bc) bd)
  have HXd := Lib.hid (((HXa.out.below bb).below bc).below bd)
  clear bb bc bd HBa HXa hnsb hnewb hnsc hnewc hnsd hnewd hcapb hcapc hcapd qn
  go_wp2_with fail
  ((with_reducible refine (qn2 _).mono ?_); rintro e W1 ⟨A1, n1, cap1, rfl, hcap1, hns1, hnew1, b1⟩)
  try simp only [id, snV, hnx, hsn]
  have hn1 : n1 = 0 := hns1.1
  subst hn1
  clear qn2
  have HB1 := Lib.hid (bch HBd.out b1)
  have HX1 := Lib.hid (HXd.out.below b1)
  clear b1 hns1 hnew1 hcap1 HBd HXd
  go_upto_region 5 with fail
  try simp only [hnx, hsn]
  have hm2 : SnBlk (W1.alloc (.cells #[.int .i64 1, .int .i64 0, .slice A1 0 cap1] 24)) W1.heap.size newS (.slice A1 0 cap1) := SnBlk.new W1 newS _
  have hb2 := (Below.refl W1.heap.size W1).alloc (Nat.le_refl _) (.cells #[.int .i64 1, .int .i64 0, .slice A1 0 cap1] 24)
  obtain ⟨W2, hW2⟩ : ∃ W, W1.alloc (.cells #[.int .i64 1, .int .i64 0, .slice A1 0 cap1] 24) = W := ⟨_, rfl⟩
  rw [hW2] at hm2 hb2 ⊢
  clear hW2 hnx hsn
  have HB2 := Lib.hid (bch HB1.out hb2)
  have HX2 := Lib.hid (HX1.out.below hb2)
  have hgsw : w.heap.size ≤ W1.heap.size := HB1.out.size
  have hgx : w.heap.size < W1.heap.size := lt_of_blk HX1.out
  clear hb2 HB1 HX1
  have HV : Hid (SnVar W2 W1.heap.size newS (W1.heap.size + 1)) := ⟨A1, 0, cap1, hm2, Nat.zero_le _, isNs_nil _ _, fun h => by omega⟩
  clear hm2
  generalize W1.heap.size = gs at *
  go_wp2_with fail
  go_loopw [9] (fun i wy => ∃ (k : Nat) (s : Sn) (wr : World), wr = wy ∧ k ≤ len2 ∧ k ≤ 60 ∧ i = .int .i64 k ∧ SnVar wr gs s (gs + 1) ∧ SnBlk wr w.heap.size s0 (.slice A0 n0 cap0) ∧ Below w.heap.size w wr ∧ RightS s) (fun i _ => 70 - (intOf i).toNat)
  case atStart => exact ⟨0, newS, _, rfl, by omega, by omega, rfl, HV.out, HX2.out, HB2.out, new_right⟩
  case round =>
    clear HV HX2 HB2
    obtain ⟨k, s, wr, rfl, hk, hk60, rfl, ⟨A, n, cap, hm, hcap, hns, hnew⟩, hx, hb, hr⟩ := hrel
    have hn63 : n ≤ 63 := by rw [hns.1]; exact hr.len
    have hsb := hr.2.1
    have HR := Lib.hid hr; clear hr
    have hgl : gs < wr.heap.size := lt_of_blk hm
    have HM := Lib.hid hm; clear hm
    have HX0 := Lib.hid hx; clear hx
    have HB := Lib.hid hb; clear hb
    have HNS := Lib.hid hns; clear hns
    have HNW0 := Lib.hid hnew
    clear hnew
    by_cases hlt : k < len2
    · by_cases h60 : k < 60
      · obtain ⟨bc, oc, hA, hbc, hc⟩ := HC.out.2.2.2 (by omega)
        subst hA
        have HK : Hid (k < come.length) := by have := HC.out.1; show k < come.length; omega
        have xc := (HB.out.cell (p := ⟨bc, oc + k, none⟩) hbc).trans (hc k HK.out)
        have hzw := ints_at HC.out.2.2.1 HK.out
        clear hc
        generalize come.getD k 0 = z at *
        have hp := pickN_lt z 70 (by omega)
        have qp := fun W => pickN10_nat z 70 (by omega) (by omega) hzw W
        generalize pickN z 70 = p at *
        obtain ⟨c0, c1, c2⟩ := HM.out.cells
        have hkl : (k : Int) < (len2 : Int) := by omega
        have hk0 : (0 : Int) ≤ (k : Int) := by omega
        have hzb := wf_bounds hzw
        go_upto_region 8 with fail
        have hw1 : IntKind.i64.wrap (s.seen + (p : Int)) = s.seen + (p : Int) := IntWalk.i64_in _ (by omega)
        have hw2 : IntKind.i64.wrap (s.seen + (p : Int) - 3) = s.seen + (p : Int) - 3 := IntWalk.i64_in _ (by omega)
        have HXC := Lib.hid xc; clear xc c0 c1 c2
        refine wp_region_noPanic ?_
        refine wp_region_held_drew (S := fun W => Below wr.heap.size wr W) (by kernel_rfl) ((Below.refl _ _).drew) (fun hHeld => ?_)
        refine wpAnyH_take (i := 0) (v := ?_) rfl (by kernel_rfl) (by kernel_rfl) (by kernel_rfl) (fun _ _ _ h => h) (Or.inl ⟨by rfl, ?_⟩) (by assumption) ?_
        rotate_left
        · (intro w hSw; (try dsimp only at hSw); go_simp; (try with_reducible rfl))
        simp only [Act.put, List.getElem_toArray, List.getElem_cons_zero, List.setIfInBounds_toArray, List.set_cons_zero, List.set_cons_succ]
        refine wpAnyH_take (i := 1) (v := ?_) rfl (by kernel_rfl) (by kernel_rfl) (by kernel_rfl) (fun _ _ _ h => h) (Or.inl ⟨by rfl, ?_⟩) (by assumption) ?_
        rotate_left
        · (intro w hSw; (try dsimp only at hSw); obtain ⟨c0, c1, c2⟩ := (HM.out.below hSw).cells; go_simp; (try with_reducible rfl))
        simp only [Act.put, List.getElem_toArray, List.getElem_cons_zero, List.getElem_cons_succ, List.setIfInBounds_toArray, List.set_cons_zero, List.set_cons_succ]
        refine wpAnyH_take (i := 2) (v := ?_) rfl (by kernel_rfl) (by kernel_rfl) (by kernel_rfl) (fun _ _ _ h => h) (Or.inl ⟨by rfl, ?_⟩) (by assumption) ?_
        rotate_left
        · (intro w hSw; (try dsimp only at hSw); go_simp; (try with_reducible rfl))
        simp only [Act.put, List.getElem_toArray, List.getElem_cons_zero, List.getElem_cons_succ, List.setIfInBounds_toArray, List.set_cons_zero, List.set_cons_succ]
        refine wpAnyH_take (i := 3) (v := ?_) rfl (by kernel_rfl) (by kernel_rfl) (by kernel_rfl) (fun _ _ _ h => h) (Or.inl ⟨by rfl, ?_⟩) (by assumption) ?_
        rotate_left
        · (intro w hSw; (try dsimp only at hSw); go_simp; (try with_reducible rfl))
        simp only [Act.put, List.getElem_toArray, List.getElem_cons_zero, List.getElem_cons_succ, List.setIfInBounds_toArray, List.set_cons_zero, List.set_cons_succ]
        refine wpAnyH_take (i := 4) (v := ?_) rfl (by kernel_rfl) (by kernel_rfl) (by kernel_rfl) (fun _ _ _ h => h) (Or.inl ⟨by rfl, ?_⟩) (by assumption) ?_
        rotate_left
        · (intro w hSw; (try dsimp only at hSw); go_simp; (try with_reducible rfl))
        simp only [Act.put, List.getElem_toArray, List.getElem_cons_zero, List.getElem_cons_succ, List.setIfInBounds_toArray, List.set_cons_zero, List.set_cons_succ]
        refine wpAnyH_take (i := 5) (v := ?_) rfl (by kernel_rfl) (by kernel_rfl) (by kernel_rfl) (fun _ _ _ h => h) (Or.inl ⟨by rfl, ?_⟩) (by assumption) ?_
        rotate_left
        · (intro w hSw; (try dsimp only at hSw); have xc := (hSw.cell (p := ⟨bc, oc + k, none⟩) (lt_of_cell (a := ⟨bc, oc + k, none⟩) HXC.out)).trans HXC.out; go_simp; (try with_reducible rfl))
        simp only [Act.put, List.getElem_toArray, List.getElem_cons_zero, List.getElem_cons_succ, List.setIfInBounds_toArray, List.set_cons_zero, List.set_cons_succ]
        refine wpAnyH_ready (rs := [6]) (by kernel_rfl) (by simp) ?_
        refine AllReadyH.cons rfl (fun K hK => ?_) AllReadyH.nil
        rw [if_pos (by rfl)]
        go_simp
        ((with_reducible refine (qp _).mono ?_); rintro e w' ⟨rfl, rfl⟩)
        refine hK.out _ _ (hHeld) (fun hHeld2 => ?_)
        clear hK K hHeld
        have hHeld := hHeld2; clear hHeld2
        refine wpAnyH_take (i := 7) (v := ?_) rfl (by kernel_rfl) (by kernel_rfl) (by kernel_rfl) (fun _ _ _ h => h) (Or.inl ⟨by rfl, ?_⟩) (by assumption) ?_
        rotate_left
        · (intro w hSw; (try dsimp only at hSw); go_simp; (try with_reducible rfl))
        simp only [Act.put, List.getElem_toArray, List.getElem_cons_zero, List.getElem_cons_succ, List.setIfInBounds_toArray, List.set_cons_zero, List.set_cons_succ]
        refine wpAnyH_take (i := 8) (v := ?_) rfl (by kernel_rfl) (by kernel_rfl) (by kernel_rfl) (fun _ _ _ h => h) (Or.inl ⟨by rfl, ?_⟩) (by assumption) ?_
        rotate_left
        · (intro w hSw; (try dsimp only at hSw); go_simp; (try with_reducible rfl))
        simp only [Act.put, List.getElem_toArray, List.getElem_cons_zero, List.getElem_cons_succ, List.setIfInBounds_toArray, List.set_cons_zero, List.set_cons_succ]
        refine wpAnyH_take (i := 9) (v := ?_) rfl (by kernel_rfl) (by kernel_rfl) (by kernel_rfl) (fun _ _ _ h => h) (Or.inl ⟨by rfl, ?_⟩) (by assumption) ?_
        rotate_left
        · (intro w hSw; (try dsimp only at hSw); go_simp; (try with_reducible rfl))
        simp only [Act.put, List.getElem_toArray, List.getElem_cons_zero, List.getElem_cons_succ, List.setIfInBounds_toArray, List.set_cons_zero, List.set_cons_succ]
        refine wpAnyH_done (by kernel_rfl) ?_ _
        refine NoPanic.normal ?_
        clear hHeld
        obtain ⟨Vr, hVr⟩ : ∃ W, wr.drew = W := ⟨_, rfl⟩
        rw [hVr]
        have HMd : Hid (SnBlk Vr gs s (.slice A n cap)) := by rw [← hVr]; exact HM.out.drew
        have HXd : Hid (SnBlk Vr w.heap.size s0 (.slice A0 n0 cap0)) := by rw [← hVr]; exact HX0.out.drew
        have HBd : Hid (Below w.heap.size w Vr) := by rw [← hVr]; exact HB.out.drew
        have HNd : Hid (IsNs Vr A n s.ahead) := by rw [← hVr]; exact HNS.out.drew
        have xc : Vr.cell? ⟨bc, oc + k, none⟩ = some (.int .i64 z) := by rw [← hVr]; exact HXC.out
        have hglv : gs < Vr.heap.size := lt_of_blk HMd.out
        clear hVr HM HX0 HB HNS HXC hgl
        have HM := HMd
        have HX0 := HXd
        have HB := HBd
        have HNS := HNd
        clear HMd HXd HBd HNd
        have hgl := hglv
        clear hglv
        by_cases h11 : Int.tmod z 11 = 0
        · have h11i : (Int.tmod z 11 == 0) = true := by simpa using h11
          clear h11
          go_upto_region 11 with fail
          have hxw := hzw
          clear h11i qp hw1 hw2 hp
          clear xc
          generalize z = x at *
          have qt := KT.out s A n cap x Vr HR.out.wf hcap HNS.out (by omega) hxw
          have hpr := takeS_right x HR.out
          have qr := fun W h => reftakeS_any s A n cap x W HR.out.wf h (by omega) hxw
          generalize takeS s x = TT at *
          obtain ⟨⟨tn, ts, tl⟩, ti, te⟩ := TT
          simp only at qt qr hpr
          have HPR := Lib.hid hpr; clear hpr
          obtain ⟨c0, c1, c2⟩ := HM.out.cells
          go_wp2_with fail
          ((with_reducible refine (qt).mono ?_); rintro e V5 ⟨A5, n5, cap5, rfl, hcap5, hns, hnew5, b⟩)
          clear c0 c1 c2
          try simp only at hns
          go_upto_region 12 with fail
          have hal := (Below.refl V5.heap.size V5).alloc (Nat.le_refl _) (.cells #[.int .i64 tn, .int .i64 ts, .slice A5 n5 cap5] 24)
          have ht : SnBlk (V5.alloc (.cells #[.int .i64 tn, .int .i64 ts, .slice A5 n5 cap5] 24)) V5.heap.size ⟨tn, ts, tl⟩ (.slice A5 n5 cap5) := SnBlk.new V5 ⟨tn, ts, tl⟩ (.slice A5 n5 cap5)
          obtain ⟨U5, hU⟩ : ∃ W, V5.alloc (.cells #[.int .i64 tn, .int .i64 ts, .slice A5 n5 cap5] 24) = W := ⟨_, rfl⟩
          rw [hU] at hal ht ⊢
          clear hU
          have bb := bch b hal
          have HT5 := Lib.hid ht
          have HN5 := Lib.hid (hns.below hal)
          have HG5 : Hid (V5.heap.size < U5.heap.size) := lt_of_blk ht
          have HL5 := Lib.hid b.size
          have HB5 := Lib.hid (bch HB.out bb)
          have HM5 := Lib.hid (HM.out.below bb)
          have HNS5 := Lib.hid (HNS.out.below bb)
          have HX05 := Lib.hid (HX0.out.below bb)
          clear hal b bb ht hns HB HM HNS HX0
          clear qt
          obtain ⟨c0, c1, c2⟩ := HM5.out.cells
          go_wp2_with fail
          ((with_reducible refine (qr _ HNS5.out).mono ?_); rintro e V6 ⟨A6, n6, cap6, rfl, hcap6, hns, hnew6, b⟩)
          clear c0 c1 c2
          try simp only at hns
          go_upto_region 13 with fail
          have hal := (Below.refl V6.heap.size V6).alloc (Nat.le_refl _) (.cells #[.int .i64 tn, .int .i64 ts, .slice A6 n6 cap6] 24)
          have ht : SnBlk (V6.alloc (.cells #[.int .i64 tn, .int .i64 ts, .slice A6 n6 cap6] 24)) V6.heap.size ⟨tn, ts, tl⟩ (.slice A6 n6 cap6) := SnBlk.new V6 ⟨tn, ts, tl⟩ (.slice A6 n6 cap6)
          obtain ⟨U6, hU⟩ : ∃ W, V6.alloc (.cells #[.int .i64 tn, .int .i64 ts, .slice A6 n6 cap6] 24) = W := ⟨_, rfl⟩
          rw [hU] at hal ht ⊢
          clear hU
          have bb := bch b hal
          have HT6 := Lib.hid ht
          have HN6 := Lib.hid (hns.below hal)
          have HG6 : Hid (V6.heap.size < U6.heap.size) := lt_of_blk ht
          have HL6 := Lib.hid b.size
          have HB6 := Lib.hid (bch HB5.out bb)
          have HM6 := Lib.hid (HM5.out.below bb)
          have HNS6 := Lib.hid (HNS5.out.below bb)
          have HX06 := Lib.hid (HX05.out.below bb)
          have HT56 := Lib.hid (HT5.out.below bb)
          have HN56 := Lib.hid (HN5.out.below bb)
          clear hal b bb ht hns HB5 HM5 HNS5 HX05 HT5 HN5
          clear qr
          have qs := refsameS_any ⟨tn, ts, tl⟩ ⟨tn, ts, tl⟩ A5 A6 n5 n6 cap5 cap6 U6 HN56.out HN6.out
          rw [eqS_self] at qs
          obtain ⟨c0, c1, c2⟩ := HT56.out.cells
          obtain ⟨d0, d1, d2⟩ := HT6.out.cells
          simp only at c0 c1 c2 d0 d1 d2
          go_wp2_with fail
          ((with_reducible refine qs.mono ?_); rintro e W8 ⟨rfl, b8⟩)
          have HM8 := Lib.hid (HM6.out.below b8)
          have HX8 := Lib.hid (HX06.out.below b8)
          have HT8 := Lib.hid (HT56.out.below b8)
          have HN8 := Lib.hid (HN56.out.below b8)
          have HB8 := Lib.hid (bch HB6.out b8)
          have hnw8 : NewN (gs + 1) A5 n5 := hnew5.new (by omega) HNW0.out
          have hg5 : gs < V5.heap.size := by have := HL5.out; omega
          clear c0 c1 c2 d0 d1 d2 b8 qs HM6 HNS6 HX06 HT56 HN56 HT6 HN6 HB6 HG5 HG6 HL5 HL6 hnew5 hnew6
          obtain ⟨c0, c1, c2⟩ := HT8.out.cells
          simp only at c0 c1 c2
          obtain ⟨d0, d1, d2⟩ := HM8.out.cells
          have f0 := HM8.out.frozen 0
          have f1 := HM8.out.frozen 1
          have f2 := HM8.out.frozen 2
          have HV := Lib.hid (SnVar.put (B := gs + 1) (t := ⟨tn, ts, tl⟩) HM8.out hcap5 HN8.out hnw8 (by omega))
          have HX9 := Lib.hid (((HX8.out.far (g := gs) (by omega) 0 (.int .i64 tn)).far (g := gs) (by omega) 1 (.int .i64 ts)).far (g := gs) (by omega) 2 (.slice A5 n5 cap5))
          have HB9 := Lib.hid (((HB8.out.setCell (p := ⟨gs, 0, none⟩) hgsw (.int .i64 tn)).setCell (p := ⟨gs, 1, none⟩) hgsw (.int .i64 ts)).setCell (p := ⟨gs, 2, none⟩) hgsw (.slice A5 n5 cap5))
          clear HM8 HX8 HT8 HN8 HB8 hnw8
          generalize V5.heap.size = g5 at *
          go_wp2_with fail
          go_roundw
          case rel => exact ⟨k + 1, ⟨tn, ts, tl⟩, _, rfl, by omega, by omega, by go_num, HV.out, HX9.out, HB9.out, HPR.out.1⟩
          case measure => simp [intOf]; omega
        · have h11i : (Int.tmod z 11 == 0) = false := by simpa using h11
          clear h11
          go_upto_region 11 with fail
          have hxw : (Lit.int .i64 (s.seen + (p : Int) - 3)).wf = true := wf_within (by omega) (by omega)
          clear h11i qp hw1 hw2 xc
          generalize s.seen + (p : Int) - 3 = x at *
          have qt := KT.out s A n cap x Vr HR.out.wf hcap HNS.out (by omega) hxw
          have hpr := takeS_right x HR.out
          have qr := fun W h => reftakeS_any s A n cap x W HR.out.wf h (by omega) hxw
          generalize takeS s x = TT at *
          obtain ⟨⟨tn, ts, tl⟩, ti, te⟩ := TT
          simp only at qt qr hpr
          have HPR := Lib.hid hpr; clear hpr
          obtain ⟨c0, c1, c2⟩ := HM.out.cells
          go_wp2_with fail
          ((with_reducible refine (qt).mono ?_); rintro e V5 ⟨A5, n5, cap5, rfl, hcap5, hns, hnew5, b⟩)
          clear c0 c1 c2
          try simp only at hns
          go_upto_region 12 with fail
          have hal := (Below.refl V5.heap.size V5).alloc (Nat.le_refl _) (.cells #[.int .i64 tn, .int .i64 ts, .slice A5 n5 cap5] 24)
          have ht : SnBlk (V5.alloc (.cells #[.int .i64 tn, .int .i64 ts, .slice A5 n5 cap5] 24)) V5.heap.size ⟨tn, ts, tl⟩ (.slice A5 n5 cap5) := SnBlk.new V5 ⟨tn, ts, tl⟩ (.slice A5 n5 cap5)
          obtain ⟨U5, hU⟩ : ∃ W, V5.alloc (.cells #[.int .i64 tn, .int .i64 ts, .slice A5 n5 cap5] 24) = W := ⟨_, rfl⟩
          rw [hU] at hal ht ⊢
          clear hU
          have bb := bch b hal
          have HT5 := Lib.hid ht
          have HN5 := Lib.hid (hns.below hal)
          have HG5 : Hid (V5.heap.size < U5.heap.size) := lt_of_blk ht
          have HL5 := Lib.hid b.size
          have HB5 := Lib.hid (bch HB.out bb)
          have HM5 := Lib.hid (HM.out.below bb)
          have HNS5 := Lib.hid (HNS.out.below bb)
          have HX05 := Lib.hid (HX0.out.below bb)
          clear hal b bb ht hns HB HM HNS HX0
          clear qt
          obtain ⟨c0, c1, c2⟩ := HM5.out.cells
          go_wp2_with fail
          ((with_reducible refine (qr _ HNS5.out).mono ?_); rintro e V6 ⟨A6, n6, cap6, rfl, hcap6, hns, hnew6, b⟩)
          clear c0 c1 c2
          try simp only at hns
          go_upto_region 13 with fail
          have hal := (Below.refl V6.heap.size V6).alloc (Nat.le_refl _) (.cells #[.int .i64 tn, .int .i64 ts, .slice A6 n6 cap6] 24)
          have ht : SnBlk (V6.alloc (.cells #[.int .i64 tn, .int .i64 ts, .slice A6 n6 cap6] 24)) V6.heap.size ⟨tn, ts, tl⟩ (.slice A6 n6 cap6) := SnBlk.new V6 ⟨tn, ts, tl⟩ (.slice A6 n6 cap6)
          obtain ⟨U6, hU⟩ : ∃ W, V6.alloc (.cells #[.int .i64 tn, .int .i64 ts, .slice A6 n6 cap6] 24) = W := ⟨_, rfl⟩
          rw [hU] at hal ht ⊢
          clear hU
          have bb := bch b hal
          have HT6 := Lib.hid ht
          have HN6 := Lib.hid (hns.below hal)
          have HG6 : Hid (V6.heap.size < U6.heap.size) := lt_of_blk ht
          have HL6 := Lib.hid b.size
          have HB6 := Lib.hid (bch HB5.out bb)
          have HM6 := Lib.hid (HM5.out.below bb)
          have HNS6 := Lib.hid (HNS5.out.below bb)
          have HX06 := Lib.hid (HX05.out.below bb)
          have HT56 := Lib.hid (HT5.out.below bb)
          have HN56 := Lib.hid (HN5.out.below bb)
          clear hal b bb ht hns HB5 HM5 HNS5 HX05 HT5 HN5
          clear qr
          have qs := refsameS_any ⟨tn, ts, tl⟩ ⟨tn, ts, tl⟩ A5 A6 n5 n6 cap5 cap6 U6 HN56.out HN6.out
          rw [eqS_self] at qs
          obtain ⟨c0, c1, c2⟩ := HT56.out.cells
          obtain ⟨d0, d1, d2⟩ := HT6.out.cells
          simp only at c0 c1 c2 d0 d1 d2
          go_wp2_with fail
          ((with_reducible refine qs.mono ?_); rintro e W8 ⟨rfl, b8⟩)
          have HM8 := Lib.hid (HM6.out.below b8)
          have HX8 := Lib.hid (HX06.out.below b8)
          have HT8 := Lib.hid (HT56.out.below b8)
          have HN8 := Lib.hid (HN56.out.below b8)
          have HB8 := Lib.hid (bch HB6.out b8)
          have hnw8 : NewN (gs + 1) A5 n5 := hnew5.new (by omega) HNW0.out
          have hg5 : gs < V5.heap.size := by have := HL5.out; omega
          clear c0 c1 c2 d0 d1 d2 b8 qs HM6 HNS6 HX06 HT56 HN56 HT6 HN6 HB6 HG5 HG6 HL5 HL6 hnew5 hnew6
          obtain ⟨c0, c1, c2⟩ := HT8.out.cells
          simp only at c0 c1 c2
          obtain ⟨d0, d1, d2⟩ := HM8.out.cells
          have f0 := HM8.out.frozen 0
          have f1 := HM8.out.frozen 1
          have f2 := HM8.out.frozen 2
          have HV := Lib.hid (SnVar.put (B := gs + 1) (t := ⟨tn, ts, tl⟩) HM8.out hcap5 HN8.out hnw8 (by omega))
          have HX9 := Lib.hid (((HX8.out.far (g := gs) (by omega) 0 (.int .i64 tn)).far (g := gs) (by omega) 1 (.int .i64 ts)).far (g := gs) (by omega) 2 (.slice A5 n5 cap5))
          have HB9 := Lib.hid (((HB8.out.setCell (p := ⟨gs, 0, none⟩) hgsw (.int .i64 tn)).setCell (p := ⟨gs, 1, none⟩) hgsw (.int .i64 ts)).setCell (p := ⟨gs, 2, none⟩) hgsw (.slice A5 n5 cap5))
          clear HM8 HX8 HT8 HN8 HB8 hnw8
          generalize V5.heap.size = g5 at *
          go_wp2_with fail
          go_roundw
          case rel => exact ⟨k + 1, ⟨tn, ts, tl⟩, _, rfl, by omega, by omega, by go_num, HV.out, HX9.out, HB9.out, HPR.out.1⟩
          case measure => simp [intOf]; omega
      · have h60i : (60 : Int) ≤ (k : Int) := by omega
        have hcond : (k : Int) < (len2 : Int) := by omega
        have h60d : decide ((k : Int) < 60) = false := decide_eq_false (by omega)
        clear h60 hk60
        clear hk hlt
        obtain ⟨c0, c1, c2⟩ := HM.out.cells
        obtain ⟨d0, d1, d2⟩ := HX0.out.cells
        go_wp2_with fail
        clear c0 c1 c2 d0 d1 d2
        have hblk := Blk.new wr (.cells #[.int .i64 s0.next, .int .i64 s0.seen, .slice A0 n0 cap0, .int .i64 s.next, .int .i64 s.seen, .slice A n cap] 24 (0, 0))
        have hal := (Below.refl wr.heap.size wr).alloc (Nat.le_refl _) (.cells #[.int .i64 s0.next, .int .i64 s0.seen, .slice A0 n0 cap0, .int .i64 s.next, .int .i64 s.seen, .slice A n cap] 24)
        obtain ⟨V16, hV⟩ : ∃ W, wr.alloc (.cells #[.int .i64 s0.next, .int .i64 s0.seen, .slice A0 n0 cap0, .int .i64 s.next, .int .i64 s.seen, .slice A n cap] 24) = W := ⟨_, rfl⟩
        rw [hV] at hblk hal
        rw [hV]
        clear hV
        have HBV := Lib.hid (bch HB.out hal)
        have HE : Hid (∀ j : Nat, j < 2 → ∃ (sx : Sn) (Ax : Option Addr) (nx capx : Nat), V16.cell? ⟨wr.heap.size, j * 3, none⟩ = some (.int .i64 sx.next) ∧ V16.cell? ⟨wr.heap.size, j * 3 + 1, none⟩ = some (.int .i64 sx.seen) ∧ V16.cell? ⟨wr.heap.size, j * 3 + 2, none⟩ = some (.slice Ax nx capx) ∧ SnWf sx ∧ nx ≤ capx ∧ IsNs V16 Ax nx sx.ahead) := fun j hj => by
          rcases (by omega : j = 0 ∨ j = 1) with rfl | rfl
          · exact ⟨s0, A0, n0, cap0, hblk.cell 0, hblk.cell 1, hblk.cell 2, HW0.out, hc0, HN0.out.below HBV.out⟩
          · exact ⟨s, A, n, cap, hblk.cell 3, hblk.cell 4, hblk.cell 5, HR.out.wf, hcap, HNS.out.below hal⟩
        have hgE : wr.heap.size < V16.heap.size := hblk.lt
        clear hblk hal HM HX0 HNS HR HB
        generalize wr.heap.size = gE at *
        go_loopw [109] (fun i wy => ∃ (j : Nat) (wx : World), wx = wy ∧ j ≤ 2 ∧ i = .int .i64 j ∧ Below V16.heap.size V16 wx) (fun i _ => 2 - (intOf i).toNat)
        case atStart => exact ⟨0, _, rfl, by omega, rfl, Below.refl _ _⟩
        case round =>
          obtain ⟨j, wx, rfl, hj, rfl, hbx⟩ := hrel
          by_cases hj2 : j < 2
          · obtain ⟨sx, Ax, nx, capx, x0, x1, x2, hwx, hcx, hnx⟩ := HE.out j hj2
            have y0 := (hbx.cell (p := ⟨gE, j * 3, none⟩) hgE).trans x0
            have y1 := (hbx.cell (p := ⟨gE, j * 3 + 1, none⟩) hgE).trans x1
            have y2 := (hbx.cell (p := ⟨gE, j * 3 + 2, none⟩) hgE).trans x2
            have hj0 : (0 : Int) ≤ (j : Int) := by omega
            have hj2i : (j : Int) < 2 := by omega
            have HNX := Lib.hid (hnx.below hbx)
            have HBX := Lib.hid hbx; clear hbx
            clear x0 x1 x2 hnx
            go_upto_region 19 with fail
            clear y0 y1 y2
            have hxv := SnBlk.new wx sx (.slice Ax nx capx)
            have hal := (Below.refl wx.heap.size wx).alloc (Nat.le_refl _) (.cells #[.int .i64 sx.next, .int .i64 sx.seen, .slice Ax nx capx] 24)
            obtain ⟨V18, hV⟩ : ∃ W, wx.alloc (.cells #[.int .i64 sx.next, .int .i64 sx.seen, .slice Ax nx capx] 24) = W := ⟨_, rfl⟩
            rw [hV] at hxv hal
            rw [hV]
            clear hV
            have HXV := Lib.hid hxv; clear hxv
            have HNX2 := Lib.hid (HNX.out.below hal)
            have HB := Lib.hid (bch HBX.out hal)
            clear hal HBX HNX
            generalize wx.heap.size = gx at *
            obtain ⟨c0, c1, c2⟩ := HXV.out.cells
            by_cases h100 : 100 < nx
            · have h100i : (100 : Int) < (nx : Int) := by omega
              go_wp2_with fail
              go_roundw
              case rel => exact ⟨j + 1, _, rfl, by omega, by go_num, HB.out⟩
              case measure => simp [intOf]; omega
            · have h100i : (nx : Int) ≤ 100 := by omega
              have qt := KT.out sx Ax nx capx seq V18 hwx hcx HNX2.out (by omega) hseq
              have qr := fun W h => reftakeS_any sx Ax nx capx seq W hwx h (by omega) hseq
              have qst := fun W h => KS.out sx Ax nx capx W hwx hcx h (by omega)
              have qsr := fun W h => refstampS_any sx Ax nx capx W hwx h (by omega)
              have qp := fun W h => KR.out sx Ax nx capx W hwx hcx h
              have qq := fun W h => refrightS_any sx Ax nx capx W hwx h
              generalize takeS sx seq = TT at *
              generalize stampS sx = SS at *
              generalize rightS sx = RR at *
              obtain ⟨⟨tn, ts, tl⟩, ti, te⟩ := TT
              obtain ⟨⟨un, us, ul⟩, ui, ue⟩ := SS
              simp only at qt qr qst qsr
              go_wp2_with fail
              ((with_reducible refine (qt).mono ?_); rintro e V7 ⟨A7, n7, cap7, rfl, hcap7, hns, hnew7, b⟩)
              clear c0 c1 c2
              try simp only at hns
              go_upto_region 21 with fail
              have hal := (Below.refl V7.heap.size V7).alloc (Nat.le_refl _) (.cells #[.int .i64 tn, .int .i64 ts, .slice A7 n7 cap7] 24)
              have ht : SnBlk (V7.alloc (.cells #[.int .i64 tn, .int .i64 ts, .slice A7 n7 cap7] 24)) V7.heap.size ⟨tn, ts, tl⟩ (.slice A7 n7 cap7) := SnBlk.new V7 ⟨tn, ts, tl⟩ (.slice A7 n7 cap7)
              obtain ⟨U7, hU⟩ : ∃ W, V7.alloc (.cells #[.int .i64 tn, .int .i64 ts, .slice A7 n7 cap7] 24) = W := ⟨_, rfl⟩
              rw [hU] at hal ht ⊢
              clear hU
              have bb := bch b hal
              have HT7 := Lib.hid ht
              have HN7 := Lib.hid (hns.below hal)
              have HG7 : Hid (V7.heap.size < U7.heap.size) := lt_of_blk ht
              have HL7 := Lib.hid b.size
              have HB7 := Lib.hid (bch HB.out bb)
              have HXV7 := Lib.hid (HXV.out.below bb)
              have HNX27 := Lib.hid (HNX2.out.below bb)
              clear hal b bb ht hns HB HXV HNX2
              clear qt
              obtain ⟨c0, c1, c2⟩ := HXV7.out.cells
              go_wp2_with fail
              ((with_reducible refine (qr _ HNX27.out).mono ?_); rintro e V8 ⟨A8, n8, cap8, rfl, hcap8, hns, hnew8, b⟩)
              clear c0 c1 c2
              try simp only at hns
              go_upto_region 22 with fail
              have hal := (Below.refl V8.heap.size V8).alloc (Nat.le_refl _) (.cells #[.int .i64 tn, .int .i64 ts, .slice A8 n8 cap8] 24)
              have ht : SnBlk (V8.alloc (.cells #[.int .i64 tn, .int .i64 ts, .slice A8 n8 cap8] 24)) V8.heap.size ⟨tn, ts, tl⟩ (.slice A8 n8 cap8) := SnBlk.new V8 ⟨tn, ts, tl⟩ (.slice A8 n8 cap8)
              obtain ⟨U8, hU⟩ : ∃ W, V8.alloc (.cells #[.int .i64 tn, .int .i64 ts, .slice A8 n8 cap8] 24) = W := ⟨_, rfl⟩
              rw [hU] at hal ht ⊢
              clear hU
              have bb := bch b hal
              have HT8 := Lib.hid ht
              have HN8 := Lib.hid (hns.below hal)
              have HG8 : Hid (V8.heap.size < U8.heap.size) := lt_of_blk ht
              have HL8 := Lib.hid b.size
              have HB8 := Lib.hid (bch HB7.out bb)
              have HXV8 := Lib.hid (HXV7.out.below bb)
              have HNX28 := Lib.hid (HNX27.out.below bb)
              have HT78 := Lib.hid (HT7.out.below bb)
              have HN78 := Lib.hid (HN7.out.below bb)
              clear hal b bb ht hns HB7 HXV7 HNX27 HT7 HN7
              clear qr
              obtain ⟨c0, c1, c2⟩ := HXV8.out.cells
              go_wp2_with fail
              ((with_reducible refine (qst _ HNX28.out).mono ?_); rintro e V9 ⟨A9, n9, cap9, rfl, hcap9, hns, hnew9, b⟩)
              clear c0 c1 c2
              try simp only at hns
              go_upto_region 23 with fail
              have hal := (Below.refl V9.heap.size V9).alloc (Nat.le_refl _) (.cells #[.int .i64 un, .int .i64 us, .slice A9 n9 cap9] 24)
              have ht : SnBlk (V9.alloc (.cells #[.int .i64 un, .int .i64 us, .slice A9 n9 cap9] 24)) V9.heap.size ⟨un, us, ul⟩ (.slice A9 n9 cap9) := SnBlk.new V9 ⟨un, us, ul⟩ (.slice A9 n9 cap9)
              obtain ⟨U9, hU⟩ : ∃ W, V9.alloc (.cells #[.int .i64 un, .int .i64 us, .slice A9 n9 cap9] 24) = W := ⟨_, rfl⟩
              rw [hU] at hal ht ⊢
              clear hU
              have bb := bch b hal
              have HT9 := Lib.hid ht
              have HN9 := Lib.hid (hns.below hal)
              have HG9 : Hid (V9.heap.size < U9.heap.size) := lt_of_blk ht
              have HL9 := Lib.hid b.size
              have HB9 := Lib.hid (bch HB8.out bb)
              have HXV9 := Lib.hid (HXV8.out.below bb)
              have HNX29 := Lib.hid (HNX28.out.below bb)
              have HT79 := Lib.hid (HT78.out.below bb)
              have HN79 := Lib.hid (HN78.out.below bb)
              have HT89 := Lib.hid (HT8.out.below bb)
              have HN89 := Lib.hid (HN8.out.below bb)
              clear hal b bb ht hns HB8 HXV8 HNX28 HT78 HN78 HT8 HN8
              clear qst
              obtain ⟨c0, c1, c2⟩ := HXV9.out.cells
              go_wp2_with fail
              ((with_reducible refine (qsr _ HNX29.out).mono ?_); rintro e V10 ⟨A10, n10, cap10, rfl, hcap10, hns, hnew10, b⟩)
              clear c0 c1 c2
              try simp only at hns
              go_upto_region 24 with fail
              have hal := (Below.refl V10.heap.size V10).alloc (Nat.le_refl _) (.cells #[.int .i64 un, .int .i64 us, .slice A10 n10 cap10] 24)
              have ht : SnBlk (V10.alloc (.cells #[.int .i64 un, .int .i64 us, .slice A10 n10 cap10] 24)) V10.heap.size ⟨un, us, ul⟩ (.slice A10 n10 cap10) := SnBlk.new V10 ⟨un, us, ul⟩ (.slice A10 n10 cap10)
              obtain ⟨U10, hU⟩ : ∃ W, V10.alloc (.cells #[.int .i64 un, .int .i64 us, .slice A10 n10 cap10] 24) = W := ⟨_, rfl⟩
              rw [hU] at hal ht ⊢
              clear hU
              have bb := bch b hal
              have HT10 := Lib.hid ht
              have HN10 := Lib.hid (hns.below hal)
              have HG10 : Hid (V10.heap.size < U10.heap.size) := lt_of_blk ht
              have HL10 := Lib.hid b.size
              have HB10 := Lib.hid (bch HB9.out bb)
              have HXV10 := Lib.hid (HXV9.out.below bb)
              have HNX210 := Lib.hid (HNX29.out.below bb)
              have HT710 := Lib.hid (HT79.out.below bb)
              have HN710 := Lib.hid (HN79.out.below bb)
              have HT810 := Lib.hid (HT89.out.below bb)
              have HN810 := Lib.hid (HN89.out.below bb)
              have HT910 := Lib.hid (HT9.out.below bb)
              have HN910 := Lib.hid (HN9.out.below bb)
              clear hal b bb ht hns HB9 HXV9 HNX29 HT79 HN79 HT89 HN89 HT9 HN9
              clear qsr HL7 HL8 HL9 HL10 HG7 HG8 HG9 HG10 hnew7 hnew8 hnew9 hnew10
              have qsA := fun W (hb : Below U10.heap.size U10 W) => refsameS_any ⟨tn, ts, tl⟩ ⟨tn, ts, tl⟩ A7 A8 n7 n8 cap7 cap8 W (HN710.out.below hb) (HN810.out.below hb)
              have qsB := fun W (hb : Below U10.heap.size U10 W) => refsameS_any ⟨un, us, ul⟩ ⟨un, us, ul⟩ A9 A10 n9 n10 cap9 cap10 W (HN910.out.below hb) (HN10.out.below hb)
              have qrP := fun W (hb : Below U10.heap.size U10 W) => qp W (HNX210.out.below hb)
              have qrR := fun W (hb : Below U10.heap.size U10 W) => qq W (HNX210.out.below hb)
              rw [eqS_self] at qsA qsB
              clear qp qq
              have HB10b := HB10
              go_upto_region 24 with fail
              refine wp_region_noPanic ?_
              refine wp_region_held_drew (S := fun W => Below U10.heap.size U10 W) (by kernel_rfl) ((Below.refl _ _).drew) (fun hHeld => ?_)
              refine wpAnyH_take (i := 0) (v := ?_) rfl (by kernel_rfl) (by kernel_rfl) (by kernel_rfl) (fun _ _ _ h => h) (Or.inl ⟨by rfl, ?_⟩) (by assumption) ?_
              rotate_left
              · (intro w hSw; (try dsimp only at hSw); obtain ⟨c0, c1, c2⟩ := (HT710.out.below hSw).cells; (try simp only at c0 c1 c2); go_simp; (try with_reducible rfl))
              simp only [Act.put, List.getElem_toArray, List.getElem_cons_zero, List.setIfInBounds_toArray, List.set_cons_zero, List.set_cons_succ]
              refine wpAnyH_take (i := 1) (v := ?_) rfl (by kernel_rfl) (by kernel_rfl) (by kernel_rfl) (fun _ _ _ h => h) (Or.inl ⟨by rfl, ?_⟩) (by assumption) ?_
              rotate_left
              · (intro w hSw; (try dsimp only at hSw); obtain ⟨c0, c1, c2⟩ := (HT810.out.below hSw).cells; (try simp only at c0 c1 c2); go_simp; (try with_reducible rfl))
              simp only [Act.put, List.getElem_toArray, List.getElem_cons_zero, List.getElem_cons_succ, List.setIfInBounds_toArray, List.set_cons_zero, List.set_cons_succ]
              refine wpAnyH_ready (rs := [2]) (by kernel_rfl) (by simp) ?_
              refine AllReadyH.cons rfl (fun K hK => ?_) AllReadyH.nil
              rw [if_pos (by rfl)]
              go_simp
              ((with_reducible refine (qsA _ hHeld).mono ?_); rintro e w' ⟨rfl, bq⟩)
              refine hK.out _ _ (bch hHeld bq) (fun hHeld2 => ?_)
              clear hK K hHeld
              have hHeld := hHeld2; clear hHeld2
              refine wpAnyH_take (i := 3) (v := ?_) rfl (by kernel_rfl) (by kernel_rfl) (by kernel_rfl) (fun _ _ _ h => h) (Or.inl ⟨by rfl, ?_⟩) (by assumption) ?_
              rotate_left
              · (intro w hSw; (try dsimp only at hSw); go_simp; (try with_reducible rfl))
              simp only [Act.put, List.getElem_toArray, List.getElem_cons_zero, List.getElem_cons_succ, List.setIfInBounds_toArray, List.set_cons_zero, List.set_cons_succ]
              refine wpAnyH_take (i := 4) (v := ?_) rfl (by kernel_rfl) (by kernel_rfl) (by kernel_rfl) (fun _ _ _ h => h) (Or.inl ⟨by rfl, ?_⟩) (by assumption) ?_
              rotate_left
              · (intro w hSw; (try dsimp only at hSw); go_simp; (try with_reducible rfl))
              simp only [Act.put, List.getElem_toArray, List.getElem_cons_zero, List.getElem_cons_succ, List.setIfInBounds_toArray, List.set_cons_zero, List.set_cons_succ]
              refine wpAnyH_take (i := 5) (v := ?_) rfl (by kernel_rfl) (by kernel_rfl) (by kernel_rfl) (fun _ _ _ h => h) (Or.inl ⟨by rfl, ?_⟩) (by assumption) ?_
              rotate_left
              · (intro w hSw; (try dsimp only at hSw); go_simp; (try with_reducible rfl))
              simp only [Act.put, List.getElem_toArray, List.getElem_cons_zero, List.getElem_cons_succ, List.setIfInBounds_toArray, List.set_cons_zero, List.set_cons_succ]
              refine wpAnyH_take (i := 6) (v := ?_) rfl (by kernel_rfl) (by kernel_rfl) (by kernel_rfl) (fun _ _ _ h => h) (Or.inl ⟨by rfl, ?_⟩) (by assumption) ?_
              rotate_left
              · (intro w hSw; (try dsimp only at hSw); go_simp; (try with_reducible rfl))
              simp only [Act.put, List.getElem_toArray, List.getElem_cons_zero, List.getElem_cons_succ, List.setIfInBounds_toArray, List.set_cons_zero, List.set_cons_succ]
              refine wpAnyH_take (i := 7) (v := ?_) rfl (by kernel_rfl) (by kernel_rfl) (by kernel_rfl) (fun _ _ _ h => h) (Or.inl ⟨by rfl, ?_⟩) (by assumption) ?_
              rotate_left
              · (intro w hSw; (try dsimp only at hSw); go_simp; (try with_reducible rfl))
              simp only [Act.put, List.getElem_toArray, List.getElem_cons_zero, List.getElem_cons_succ, List.setIfInBounds_toArray, List.set_cons_zero, List.set_cons_succ]
              refine wpAnyH_take (i := 8) (v := ?_) rfl (by kernel_rfl) (by kernel_rfl) (by kernel_rfl) (fun _ _ _ h => h) (Or.inl ⟨by rfl, ?_⟩) (by assumption) ?_
              rotate_left
              · (intro w hSw; (try dsimp only at hSw); go_simp; (try with_reducible rfl))
              simp only [Act.put, List.getElem_toArray, List.getElem_cons_zero, List.getElem_cons_succ, List.setIfInBounds_toArray, List.set_cons_zero, List.set_cons_succ]
              refine wpAnyH_take (i := 9) (v := ?_) rfl (by kernel_rfl) (by kernel_rfl) (by kernel_rfl) (fun _ _ _ h => h) (Or.inl ⟨by rfl, ?_⟩) (by assumption) ?_
              rotate_left
              · (intro w hSw; (try dsimp only at hSw); go_simp; (try with_reducible rfl))
              simp only [Act.put, List.getElem_toArray, List.getElem_cons_zero, List.getElem_cons_succ, List.setIfInBounds_toArray, List.set_cons_zero, List.set_cons_succ]
              refine wpAnyH_take (i := 10) (v := ?_) rfl (by kernel_rfl) (by kernel_rfl) (by kernel_rfl) (fun _ _ _ h => h) (Or.inl ⟨by rfl, ?_⟩) (by assumption) ?_
              rotate_left
              · (intro w hSw; (try dsimp only at hSw); go_simp; (try with_reducible rfl))
              simp only [Act.put, List.getElem_toArray, List.getElem_cons_zero, List.getElem_cons_succ, List.setIfInBounds_toArray, List.set_cons_zero, List.set_cons_succ]
              refine wpAnyH_take (i := 11) (v := ?_) rfl (by kernel_rfl) (by kernel_rfl) (by kernel_rfl) (fun _ _ _ h => h) (Or.inl ⟨by rfl, ?_⟩) (by assumption) ?_
              rotate_left
              · (intro w hSw; (try dsimp only at hSw); go_simp; (try with_reducible rfl))
              simp only [Act.put, List.getElem_toArray, List.getElem_cons_zero, List.getElem_cons_succ, List.setIfInBounds_toArray, List.set_cons_zero, List.set_cons_succ]
              refine wpAnyH_take (i := 12) (v := ?_) rfl (by kernel_rfl) (by kernel_rfl) (by kernel_rfl) (fun _ _ _ h => h) (Or.inl ⟨by rfl, ?_⟩) (by assumption) ?_
              rotate_left
              · (intro w hSw; (try dsimp only at hSw); go_simp; (try with_reducible rfl))
              simp only [Act.put, List.getElem_toArray, List.getElem_cons_zero, List.getElem_cons_succ, List.setIfInBounds_toArray, List.set_cons_zero, List.set_cons_succ]
              refine wpAnyH_take (i := 13) (v := ?_) rfl (by kernel_rfl) (by kernel_rfl) (by kernel_rfl) (fun _ _ _ h => h) (Or.inl ⟨by rfl, ?_⟩) (by assumption) ?_
              rotate_left
              · (intro w hSw; (try dsimp only at hSw); go_simp; (try with_reducible rfl))
              simp only [Act.put, List.getElem_toArray, List.getElem_cons_zero, List.getElem_cons_succ, List.setIfInBounds_toArray, List.set_cons_zero, List.set_cons_succ]
              refine wpAnyH_take (i := 14) (v := ?_) rfl (by kernel_rfl) (by kernel_rfl) (by kernel_rfl) (fun _ _ _ h => h) (Or.inl ⟨by rfl, ?_⟩) (by assumption) ?_
              rotate_left
              · (intro w hSw; (try dsimp only at hSw); go_simp; (try with_reducible rfl))
              simp only [Act.put, List.getElem_toArray, List.getElem_cons_zero, List.getElem_cons_succ, List.setIfInBounds_toArray, List.set_cons_zero, List.set_cons_succ]
              refine wpAnyH_take (i := 15) (v := ?_) rfl (by kernel_rfl) (by kernel_rfl) (by kernel_rfl) (fun _ _ _ h => h) (Or.inl ⟨by rfl, ?_⟩) (by assumption) ?_
              rotate_left
              · (intro w hSw; (try dsimp only at hSw); obtain ⟨c0, c1, c2⟩ := (HT910.out.below hSw).cells; (try simp only at c0 c1 c2); go_simp; (try with_reducible rfl))
              simp only [Act.put, List.getElem_toArray, List.getElem_cons_zero, List.getElem_cons_succ, List.setIfInBounds_toArray, List.set_cons_zero, List.set_cons_succ]
              refine wpAnyH_take (i := 16) (v := ?_) rfl (by kernel_rfl) (by kernel_rfl) (by kernel_rfl) (fun _ _ _ h => h) (Or.inl ⟨by rfl, ?_⟩) (by assumption) ?_
              rotate_left
              · (intro w hSw; (try dsimp only at hSw); obtain ⟨c0, c1, c2⟩ := (HT10.out.below hSw).cells; (try simp only at c0 c1 c2); go_simp; (try with_reducible rfl))
              simp only [Act.put, List.getElem_toArray, List.getElem_cons_zero, List.getElem_cons_succ, List.setIfInBounds_toArray, List.set_cons_zero, List.set_cons_succ]
              refine wpAnyH_ready (rs := [17]) (by kernel_rfl) (by simp) ?_
              refine AllReadyH.cons rfl (fun K hK => ?_) AllReadyH.nil
              rw [if_pos (by rfl)]
              go_simp
              ((with_reducible refine (qsB _ hHeld).mono ?_); rintro e w' ⟨rfl, bq⟩)
              refine hK.out _ _ (bch hHeld bq) (fun hHeld2 => ?_)
              clear hK K hHeld
              have hHeld := hHeld2; clear hHeld2
              refine wpAnyH_take (i := 18) (v := ?_) rfl (by kernel_rfl) (by kernel_rfl) (by kernel_rfl) (fun _ _ _ h => h) (Or.inl ⟨by rfl, ?_⟩) (by assumption) ?_
              rotate_left
              · (intro w hSw; (try dsimp only at hSw); go_simp; (try with_reducible rfl))
              simp only [Act.put, List.getElem_toArray, List.getElem_cons_zero, List.getElem_cons_succ, List.setIfInBounds_toArray, List.set_cons_zero, List.set_cons_succ]
              refine wpAnyH_take (i := 19) (v := ?_) rfl (by kernel_rfl) (by kernel_rfl) (by kernel_rfl) (fun _ _ _ h => h) (Or.inl ⟨by rfl, ?_⟩) (by assumption) ?_
              rotate_left
              · (intro w hSw; (try dsimp only at hSw); go_simp; (try with_reducible rfl))
              simp only [Act.put, List.getElem_toArray, List.getElem_cons_zero, List.getElem_cons_succ, List.setIfInBounds_toArray, List.set_cons_zero, List.set_cons_succ]
              refine wpAnyH_take (i := 20) (v := ?_) rfl (by kernel_rfl) (by kernel_rfl) (by kernel_rfl) (fun _ _ _ h => h) (Or.inl ⟨by rfl, ?_⟩) (by assumption) ?_
              rotate_left
              · (intro w hSw; (try dsimp only at hSw); go_simp; (try with_reducible rfl))
              simp only [Act.put, List.getElem_toArray, List.getElem_cons_zero, List.getElem_cons_succ, List.setIfInBounds_toArray, List.set_cons_zero, List.set_cons_succ]
              refine wpAnyH_take (i := 21) (v := ?_) rfl (by kernel_rfl) (by kernel_rfl) (by kernel_rfl) (fun _ _ _ h => h) (Or.inl ⟨by rfl, ?_⟩) (by assumption) ?_
              rotate_left
              · (intro w hSw; (try dsimp only at hSw); go_simp; (try with_reducible rfl))
              simp only [Act.put, List.getElem_toArray, List.getElem_cons_zero, List.getElem_cons_succ, List.setIfInBounds_toArray, List.set_cons_zero, List.set_cons_succ]
              refine wpAnyH_take (i := 22) (v := ?_) rfl (by kernel_rfl) (by kernel_rfl) (by kernel_rfl) (fun _ _ _ h => h) (Or.inl ⟨by rfl, ?_⟩) (by assumption) ?_
              rotate_left
              · (intro w hSw; (try dsimp only at hSw); go_simp; (try with_reducible rfl))
              simp only [Act.put, List.getElem_toArray, List.getElem_cons_zero, List.getElem_cons_succ, List.setIfInBounds_toArray, List.set_cons_zero, List.set_cons_succ]
              refine wpAnyH_take (i := 23) (v := ?_) rfl (by kernel_rfl) (by kernel_rfl) (by kernel_rfl) (fun _ _ _ h => h) (Or.inl ⟨by rfl, ?_⟩) (by assumption) ?_
              rotate_left
              · (intro w hSw; (try dsimp only at hSw); go_simp; (try with_reducible rfl))
              simp only [Act.put, List.getElem_toArray, List.getElem_cons_zero, List.getElem_cons_succ, List.setIfInBounds_toArray, List.set_cons_zero, List.set_cons_succ]
              refine wpAnyH_take (i := 24) (v := ?_) rfl (by kernel_rfl) (by kernel_rfl) (by kernel_rfl) (fun _ _ _ h => h) (Or.inl ⟨by rfl, ?_⟩) (by assumption) ?_
              rotate_left
              · (intro w hSw; (try dsimp only at hSw); go_simp; (try with_reducible rfl))
              simp only [Act.put, List.getElem_toArray, List.getElem_cons_zero, List.getElem_cons_succ, List.setIfInBounds_toArray, List.set_cons_zero, List.set_cons_succ]
              refine wpAnyH_take (i := 25) (v := ?_) rfl (by kernel_rfl) (by kernel_rfl) (by kernel_rfl) (fun _ _ _ h => h) (Or.inl ⟨by rfl, ?_⟩) (by assumption) ?_
              rotate_left
              · (intro w hSw; (try dsimp only at hSw); go_simp; (try with_reducible rfl))
              simp only [Act.put, List.getElem_toArray, List.getElem_cons_zero, List.getElem_cons_succ, List.setIfInBounds_toArray, List.set_cons_zero, List.set_cons_succ]
              refine wpAnyH_take (i := 26) (v := ?_) rfl (by kernel_rfl) (by kernel_rfl) (by kernel_rfl) (fun _ _ _ h => h) (Or.inl ⟨by rfl, ?_⟩) (by assumption) ?_
              rotate_left
              · (intro w hSw; (try dsimp only at hSw); go_simp; (try with_reducible rfl))
              simp only [Act.put, List.getElem_toArray, List.getElem_cons_zero, List.getElem_cons_succ, List.setIfInBounds_toArray, List.set_cons_zero, List.set_cons_succ]
              refine wpAnyH_take (i := 27) (v := ?_) rfl (by kernel_rfl) (by kernel_rfl) (by kernel_rfl) (fun _ _ _ h => h) (Or.inl ⟨by rfl, ?_⟩) (by assumption) ?_
              rotate_left
              · (intro w hSw; (try dsimp only at hSw); go_simp; (try with_reducible rfl))
              simp only [Act.put, List.getElem_toArray, List.getElem_cons_zero, List.getElem_cons_succ, List.setIfInBounds_toArray, List.set_cons_zero, List.set_cons_succ]
              refine wpAnyH_take (i := 28) (v := ?_) rfl (by kernel_rfl) (by kernel_rfl) (by kernel_rfl) (fun _ _ _ h => h) (Or.inl ⟨by rfl, ?_⟩) (by assumption) ?_
              rotate_left
              · (intro w hSw; (try dsimp only at hSw); go_simp; (try with_reducible rfl))
              simp only [Act.put, List.getElem_toArray, List.getElem_cons_zero, List.getElem_cons_succ, List.setIfInBounds_toArray, List.set_cons_zero, List.set_cons_succ]
              refine wpAnyH_take (i := 29) (v := ?_) rfl (by kernel_rfl) (by kernel_rfl) (by kernel_rfl) (fun _ _ _ h => h) (Or.inl ⟨by rfl, ?_⟩) (by assumption) ?_
              rotate_left
              · (intro w hSw; (try dsimp only at hSw); go_simp; (try with_reducible rfl))
              simp only [Act.put, List.getElem_toArray, List.getElem_cons_zero, List.getElem_cons_succ, List.setIfInBounds_toArray, List.set_cons_zero, List.set_cons_succ]
              refine wpAnyH_take (i := 30) (v := ?_) rfl (by kernel_rfl) (by kernel_rfl) (by kernel_rfl) (fun _ _ _ h => h) (Or.inl ⟨by rfl, ?_⟩) (by assumption) ?_
              rotate_left
              · (intro w hSw; (try dsimp only at hSw); go_simp; (try with_reducible rfl))
              simp only [Act.put, List.getElem_toArray, List.getElem_cons_zero, List.getElem_cons_succ, List.setIfInBounds_toArray, List.set_cons_zero, List.set_cons_succ]
              refine wpAnyH_take (i := 31) (v := ?_) rfl (by kernel_rfl) (by kernel_rfl) (by kernel_rfl) (fun _ _ _ h => h) (Or.inl ⟨by rfl, ?_⟩) (by assumption) ?_
              rotate_left
              · (intro w hSw; (try dsimp only at hSw); obtain ⟨c0, c1, c2⟩ := (HXV10.out.below hSw).cells; (try simp only at c0 c1 c2); go_simp; (try with_reducible rfl))
              simp only [Act.put, List.getElem_toArray, List.getElem_cons_zero, List.getElem_cons_succ, List.setIfInBounds_toArray, List.set_cons_zero, List.set_cons_succ]
              refine wpAnyH_take (i := 33) (v := ?_) rfl (by kernel_rfl) (by kernel_rfl) (by kernel_rfl) (fun _ _ _ h => h) (Or.inl ⟨by rfl, ?_⟩) (by assumption) ?_
              rotate_left
              · (intro w hSw; (try dsimp only at hSw); obtain ⟨c0, c1, c2⟩ := (HXV10.out.below hSw).cells; (try simp only at c0 c1 c2); go_simp; (try with_reducible rfl))
              simp only [Act.put, List.getElem_toArray, List.getElem_cons_zero, List.getElem_cons_succ, List.setIfInBounds_toArray, List.set_cons_zero, List.set_cons_succ]
              refine wpAnyH_ready (rs := [32]) (by kernel_rfl) (by simp) ?_
              refine AllReadyH.cons rfl (fun K hK => ?_) AllReadyH.nil
              rw [if_pos (by rfl)]
              go_simp
              ((with_reducible refine (qrP _ hHeld).mono ?_); rintro e w' ⟨rfl, bq⟩)
              refine hK.out _ _ (bch hHeld bq) (fun hHeld2 => ?_)
              clear hK K hHeld
              have hHeld := hHeld2; clear hHeld2
              refine wpAnyH_ready (rs := [34]) (by kernel_rfl) (by simp) ?_
              refine AllReadyH.cons rfl (fun K hK => ?_) AllReadyH.nil
              rw [if_pos (by rfl)]
              go_simp
              ((with_reducible refine (qrR _ hHeld).mono ?_); rintro e w' ⟨rfl, bq⟩)
              refine hK.out _ _ (bch hHeld bq) (fun hHeld2 => ?_)
              clear hK K hHeld
              have hHeld := hHeld2; clear hHeld2
              refine wpAnyH_take (i := 35) (v := ?_) rfl (by kernel_rfl) (by kernel_rfl) (by kernel_rfl) (fun _ _ _ h => h) (Or.inl ⟨by rfl, ?_⟩) (by assumption) ?_
              rotate_left
              · (intro w hSw; (try dsimp only at hSw); go_simp; (try with_reducible rfl))
              simp only [Act.put, List.getElem_toArray, List.getElem_cons_zero, List.getElem_cons_succ, List.setIfInBounds_toArray, List.set_cons_zero, List.set_cons_succ]
              refine wpAnyH_take (i := 36) (v := ?_) rfl (by kernel_rfl) (by kernel_rfl) (by kernel_rfl) (fun _ _ _ h => h) (Or.inl ⟨by rfl, ?_⟩) (by assumption) ?_
              rotate_left
              · (intro w hSw; (try dsimp only at hSw); go_simp; (try with_reducible rfl))
              simp only [Act.put, List.getElem_toArray, List.getElem_cons_zero, List.getElem_cons_succ, List.setIfInBounds_toArray, List.set_cons_zero, List.set_cons_succ]
              refine wpAnyH_done (by kernel_rfl) ?_ _
              refine NoPanic.normal ?_
              have HBF := Lib.hid (bch HB10b.out hHeld)
              clear hHeld qsA qsB qrP qrR
              go_wp2_with fail
              go_roundw
              case rel => exact ⟨j + 1, _, rfl, by omega, by go_num, HBF.out⟩
              case measure => simp [intOf]; omega
          · have hje : j = 2 := by omega
            subst hje
            go_wp2_with fail
            go_ret
            exact ⟨rfl, bch HBV.out hbx⟩
    · have hke : k = len2 := by omega
      subst hke
      clear hk hlt
      obtain ⟨c0, c1, c2⟩ := HM.out.cells
      obtain ⟨d0, d1, d2⟩ := HX0.out.cells
      go_wp2_with fail
      clear c0 c1 c2 d0 d1 d2
      have hblk := Blk.new wr (.cells #[.int .i64 s0.next, .int .i64 s0.seen, .slice A0 n0 cap0, .int .i64 s.next, .int .i64 s.seen, .slice A n cap] 24 (0, 0))
      have hal := (Below.refl wr.heap.size wr).alloc (Nat.le_refl _) (.cells #[.int .i64 s0.next, .int .i64 s0.seen, .slice A0 n0 cap0, .int .i64 s.next, .int .i64 s.seen, .slice A n cap] 24)
      obtain ⟨V16, hV⟩ : ∃ W, wr.alloc (.cells #[.int .i64 s0.next, .int .i64 s0.seen, .slice A0 n0 cap0, .int .i64 s.next, .int .i64 s.seen, .slice A n cap] 24) = W := ⟨_, rfl⟩
      rw [hV] at hblk hal
      rw [hV]
      clear hV
      have HBV := Lib.hid (bch HB.out hal)
      have HE : Hid (∀ j : Nat, j < 2 → ∃ (sx : Sn) (Ax : Option Addr) (nx capx : Nat), V16.cell? ⟨wr.heap.size, j * 3, none⟩ = some (.int .i64 sx.next) ∧ V16.cell? ⟨wr.heap.size, j * 3 + 1, none⟩ = some (.int .i64 sx.seen) ∧ V16.cell? ⟨wr.heap.size, j * 3 + 2, none⟩ = some (.slice Ax nx capx) ∧ SnWf sx ∧ nx ≤ capx ∧ IsNs V16 Ax nx sx.ahead) := fun j hj => by
        rcases (by omega : j = 0 ∨ j = 1) with rfl | rfl
        · exact ⟨s0, A0, n0, cap0, hblk.cell 0, hblk.cell 1, hblk.cell 2, HW0.out, hc0, HN0.out.below HBV.out⟩
        · exact ⟨s, A, n, cap, hblk.cell 3, hblk.cell 4, hblk.cell 5, HR.out.wf, hcap, HNS.out.below hal⟩
      have hgE : wr.heap.size < V16.heap.size := hblk.lt
      clear hblk hal HM HX0 HNS HR HB
      generalize wr.heap.size = gE at *
      go_loopw [109] (fun i wy => ∃ (j : Nat) (wx : World), wx = wy ∧ j ≤ 2 ∧ i = .int .i64 j ∧ Below V16.heap.size V16 wx) (fun i _ => 2 - (intOf i).toNat)
      case atStart => exact ⟨0, _, rfl, by omega, rfl, Below.refl _ _⟩
      case round =>
        obtain ⟨j, wx, rfl, hj, rfl, hbx⟩ := hrel
        by_cases hj2 : j < 2
        · obtain ⟨sx, Ax, nx, capx, x0, x1, x2, hwx, hcx, hnx⟩ := HE.out j hj2
          have y0 := (hbx.cell (p := ⟨gE, j * 3, none⟩) hgE).trans x0
          have y1 := (hbx.cell (p := ⟨gE, j * 3 + 1, none⟩) hgE).trans x1
          have y2 := (hbx.cell (p := ⟨gE, j * 3 + 2, none⟩) hgE).trans x2
          have hj0 : (0 : Int) ≤ (j : Int) := by omega
          have hj2i : (j : Int) < 2 := by omega
          have HNX := Lib.hid (hnx.below hbx)
          have HBX := Lib.hid hbx; clear hbx
          clear x0 x1 x2 hnx
          go_upto_region 19 with fail
          clear y0 y1 y2
          have hxv := SnBlk.new wx sx (.slice Ax nx capx)
          have hal := (Below.refl wx.heap.size wx).alloc (Nat.le_refl _) (.cells #[.int .i64 sx.next, .int .i64 sx.seen, .slice Ax nx capx] 24)
          obtain ⟨V18, hV⟩ : ∃ W, wx.alloc (.cells #[.int .i64 sx.next, .int .i64 sx.seen, .slice Ax nx capx] 24) = W := ⟨_, rfl⟩
          rw [hV] at hxv hal
          rw [hV]
          clear hV
          have HXV := Lib.hid hxv; clear hxv
          have HNX2 := Lib.hid (HNX.out.below hal)
          have HB := Lib.hid (bch HBX.out hal)
          clear hal HBX HNX
          generalize wx.heap.size = gx at *
          obtain ⟨c0, c1, c2⟩ := HXV.out.cells
          by_cases h100 : 100 < nx
          · have h100i : (100 : Int) < (nx : Int) := by omega
            go_wp2_with fail
            go_roundw
            case rel => exact ⟨j + 1, _, rfl, by omega, by go_num, HB.out⟩
            case measure => simp [intOf]; omega
          · have h100i : (nx : Int) ≤ 100 := by omega
            have qt := KT.out sx Ax nx capx seq V18 hwx hcx HNX2.out (by omega) hseq
            have qr := fun W h => reftakeS_any sx Ax nx capx seq W hwx h (by omega) hseq
            have qst := fun W h => KS.out sx Ax nx capx W hwx hcx h (by omega)
            have qsr := fun W h => refstampS_any sx Ax nx capx W hwx h (by omega)
            have qp := fun W h => KR.out sx Ax nx capx W hwx hcx h
            have qq := fun W h => refrightS_any sx Ax nx capx W hwx h
            generalize takeS sx seq = TT at *
            generalize stampS sx = SS at *
            generalize rightS sx = RR at *
            obtain ⟨⟨tn, ts, tl⟩, ti, te⟩ := TT
            obtain ⟨⟨un, us, ul⟩, ui, ue⟩ := SS
            simp only at qt qr qst qsr
            go_wp2_with fail
            ((with_reducible refine (qt).mono ?_); rintro e V7 ⟨A7, n7, cap7, rfl, hcap7, hns, hnew7, b⟩)
            clear c0 c1 c2
            try simp only at hns
            go_upto_region 21 with fail
            have hal := (Below.refl V7.heap.size V7).alloc (Nat.le_refl _) (.cells #[.int .i64 tn, .int .i64 ts, .slice A7 n7 cap7] 24)
            have ht : SnBlk (V7.alloc (.cells #[.int .i64 tn, .int .i64 ts, .slice A7 n7 cap7] 24)) V7.heap.size ⟨tn, ts, tl⟩ (.slice A7 n7 cap7) := SnBlk.new V7 ⟨tn, ts, tl⟩ (.slice A7 n7 cap7)
            obtain ⟨U7, hU⟩ : ∃ W, V7.alloc (.cells #[.int .i64 tn, .int .i64 ts, .slice A7 n7 cap7] 24) = W := ⟨_, rfl⟩
            rw [hU] at hal ht ⊢
            clear hU
            have bb := bch b hal
            have HT7 := Lib.hid ht
            have HN7 := Lib.hid (hns.below hal)
            have HG7 : Hid (V7.heap.size < U7.heap.size) := lt_of_blk ht
            have HL7 := Lib.hid b.size
            have HB7 := Lib.hid (bch HB.out bb)
            have HXV7 := Lib.hid (HXV.out.below bb)
            have HNX27 := Lib.hid (HNX2.out.below bb)
            clear hal b bb ht hns HB HXV HNX2
            clear qt
            obtain ⟨c0, c1, c2⟩ := HXV7.out.cells
            go_wp2_with fail
            ((with_reducible refine (qr _ HNX27.out).mono ?_); rintro e V8 ⟨A8, n8, cap8, rfl, hcap8, hns, hnew8, b⟩)
            clear c0 c1 c2
            try simp only at hns
            go_upto_region 22 with fail
            have hal := (Below.refl V8.heap.size V8).alloc (Nat.le_refl _) (.cells #[.int .i64 tn, .int .i64 ts, .slice A8 n8 cap8] 24)
            have ht : SnBlk (V8.alloc (.cells #[.int .i64 tn, .int .i64 ts, .slice A8 n8 cap8] 24)) V8.heap.size ⟨tn, ts, tl⟩ (.slice A8 n8 cap8) := SnBlk.new V8 ⟨tn, ts, tl⟩ (.slice A8 n8 cap8)
            obtain ⟨U8, hU⟩ : ∃ W, V8.alloc (.cells #[.int .i64 tn, .int .i64 ts, .slice A8 n8 cap8] 24) = W := ⟨_, rfl⟩
            rw [hU] at hal ht ⊢
            clear hU
            have bb := bch b hal
            have HT8 := Lib.hid ht
            have HN8 := Lib.hid (hns.below hal)
            have HG8 : Hid (V8.heap.size < U8.heap.size) := lt_of_blk ht
            have HL8 := Lib.hid b.size
            have HB8 := Lib.hid (bch HB7.out bb)
            have HXV8 := Lib.hid (HXV7.out.below bb)
            have HNX28 := Lib.hid (HNX27.out.below bb)
            have HT78 := Lib.hid (HT7.out.below bb)
            have HN78 := Lib.hid (HN7.out.below bb)
            clear hal b bb ht hns HB7 HXV7 HNX27 HT7 HN7
            clear qr
            obtain ⟨c0, c1, c2⟩ := HXV8.out.cells
            go_wp2_with fail
            ((with_reducible refine (qst _ HNX28.out).mono ?_); rintro e V9 ⟨A9, n9, cap9, rfl, hcap9, hns, hnew9, b⟩)
            clear c0 c1 c2
            try simp only at hns
            go_upto_region 23 with fail
            have hal := (Below.refl V9.heap.size V9).alloc (Nat.le_refl _) (.cells #[.int .i64 un, .int .i64 us, .slice A9 n9 cap9] 24)
            have ht : SnBlk (V9.alloc (.cells #[.int .i64 un, .int .i64 us, .slice A9 n9 cap9] 24)) V9.heap.size ⟨un, us, ul⟩ (.slice A9 n9 cap9) := SnBlk.new V9 ⟨un, us, ul⟩ (.slice A9 n9 cap9)
            obtain ⟨U9, hU⟩ : ∃ W, V9.alloc (.cells #[.int .i64 un, .int .i64 us, .slice A9 n9 cap9] 24) = W := ⟨_, rfl⟩
            rw [hU] at hal ht ⊢
            clear hU
            have bb := bch b hal
            have HT9 := Lib.hid ht
            have HN9 := Lib.hid (hns.below hal)
            have HG9 : Hid (V9.heap.size < U9.heap.size) := lt_of_blk ht
            have HL9 := Lib.hid b.size
            have HB9 := Lib.hid (bch HB8.out bb)
            have HXV9 := Lib.hid (HXV8.out.below bb)
            have HNX29 := Lib.hid (HNX28.out.below bb)
            have HT79 := Lib.hid (HT78.out.below bb)
            have HN79 := Lib.hid (HN78.out.below bb)
            have HT89 := Lib.hid (HT8.out.below bb)
            have HN89 := Lib.hid (HN8.out.below bb)
            clear hal b bb ht hns HB8 HXV8 HNX28 HT78 HN78 HT8 HN8
            clear qst
            obtain ⟨c0, c1, c2⟩ := HXV9.out.cells
            go_wp2_with fail
            ((with_reducible refine (qsr _ HNX29.out).mono ?_); rintro e V10 ⟨A10, n10, cap10, rfl, hcap10, hns, hnew10, b⟩)
            clear c0 c1 c2
            try simp only at hns
            go_upto_region 24 with fail
            have hal := (Below.refl V10.heap.size V10).alloc (Nat.le_refl _) (.cells #[.int .i64 un, .int .i64 us, .slice A10 n10 cap10] 24)
            have ht : SnBlk (V10.alloc (.cells #[.int .i64 un, .int .i64 us, .slice A10 n10 cap10] 24)) V10.heap.size ⟨un, us, ul⟩ (.slice A10 n10 cap10) := SnBlk.new V10 ⟨un, us, ul⟩ (.slice A10 n10 cap10)
            obtain ⟨U10, hU⟩ : ∃ W, V10.alloc (.cells #[.int .i64 un, .int .i64 us, .slice A10 n10 cap10] 24) = W := ⟨_, rfl⟩
            rw [hU] at hal ht ⊢
            clear hU
            have bb := bch b hal
            have HT10 := Lib.hid ht
            have HN10 := Lib.hid (hns.below hal)
            have HG10 : Hid (V10.heap.size < U10.heap.size) := lt_of_blk ht
            have HL10 := Lib.hid b.size
            have HB10 := Lib.hid (bch HB9.out bb)
            have HXV10 := Lib.hid (HXV9.out.below bb)
            have HNX210 := Lib.hid (HNX29.out.below bb)
            have HT710 := Lib.hid (HT79.out.below bb)
            have HN710 := Lib.hid (HN79.out.below bb)
            have HT810 := Lib.hid (HT89.out.below bb)
            have HN810 := Lib.hid (HN89.out.below bb)
            have HT910 := Lib.hid (HT9.out.below bb)
            have HN910 := Lib.hid (HN9.out.below bb)
            clear hal b bb ht hns HB9 HXV9 HNX29 HT79 HN79 HT89 HN89 HT9 HN9
            clear qsr HL7 HL8 HL9 HL10 HG7 HG8 HG9 HG10 hnew7 hnew8 hnew9 hnew10
            have qsA := fun W (hb : Below U10.heap.size U10 W) => refsameS_any ⟨tn, ts, tl⟩ ⟨tn, ts, tl⟩ A7 A8 n7 n8 cap7 cap8 W (HN710.out.below hb) (HN810.out.below hb)
            have qsB := fun W (hb : Below U10.heap.size U10 W) => refsameS_any ⟨un, us, ul⟩ ⟨un, us, ul⟩ A9 A10 n9 n10 cap9 cap10 W (HN910.out.below hb) (HN10.out.below hb)
            have qrP := fun W (hb : Below U10.heap.size U10 W) => qp W (HNX210.out.below hb)
            have qrR := fun W (hb : Below U10.heap.size U10 W) => qq W (HNX210.out.below hb)
            rw [eqS_self] at qsA qsB
            clear qp qq
            have HB10b := HB10
            go_upto_region 24 with fail
            refine wp_region_noPanic ?_
            refine wp_region_held_drew (S := fun W => Below U10.heap.size U10 W) (by kernel_rfl) ((Below.refl _ _).drew) (fun hHeld => ?_)
            refine wpAnyH_take (i := 0) (v := ?_) rfl (by kernel_rfl) (by kernel_rfl) (by kernel_rfl) (fun _ _ _ h => h) (Or.inl ⟨by rfl, ?_⟩) (by assumption) ?_
            rotate_left
            · (intro w hSw; (try dsimp only at hSw); obtain ⟨c0, c1, c2⟩ := (HT710.out.below hSw).cells; (try simp only at c0 c1 c2); go_simp; (try with_reducible rfl))
            simp only [Act.put, List.getElem_toArray, List.getElem_cons_zero, List.setIfInBounds_toArray, List.set_cons_zero, List.set_cons_succ]
            refine wpAnyH_take (i := 1) (v := ?_) rfl (by kernel_rfl) (by kernel_rfl) (by kernel_rfl) (fun _ _ _ h => h) (Or.inl ⟨by rfl, ?_⟩) (by assumption) ?_
            rotate_left
            · (intro w hSw; (try dsimp only at hSw); obtain ⟨c0, c1, c2⟩ := (HT810.out.below hSw).cells; (try simp only at c0 c1 c2); go_simp; (try with_reducible rfl))
            simp only [Act.put, List.getElem_toArray, List.getElem_cons_zero, List.getElem_cons_succ, List.setIfInBounds_toArray, List.set_cons_zero, List.set_cons_succ]
            refine wpAnyH_ready (rs := [2]) (by kernel_rfl) (by simp) ?_
            refine AllReadyH.cons rfl (fun K hK => ?_) AllReadyH.nil
            rw [if_pos (by rfl)]
            go_simp
            ((with_reducible refine (qsA _ hHeld).mono ?_); rintro e w' ⟨rfl, bq⟩)
            refine hK.out _ _ (bch hHeld bq) (fun hHeld2 => ?_)
            clear hK K hHeld
            have hHeld := hHeld2; clear hHeld2
            refine wpAnyH_take (i := 3) (v := ?_) rfl (by kernel_rfl) (by kernel_rfl) (by kernel_rfl) (fun _ _ _ h => h) (Or.inl ⟨by rfl, ?_⟩) (by assumption) ?_
            rotate_left
            · (intro w hSw; (try dsimp only at hSw); go_simp; (try with_reducible rfl))
            simp only [Act.put, List.getElem_toArray, List.getElem_cons_zero, List.getElem_cons_succ, List.setIfInBounds_toArray, List.set_cons_zero, List.set_cons_succ]
            refine wpAnyH_take (i := 4) (v := ?_) rfl (by kernel_rfl) (by kernel_rfl) (by kernel_rfl) (fun _ _ _ h => h) (Or.inl ⟨by rfl, ?_⟩) (by assumption) ?_
            rotate_left
            · (intro w hSw; (try dsimp only at hSw); go_simp; (try with_reducible rfl))
            simp only [Act.put, List.getElem_toArray, List.getElem_cons_zero, List.getElem_cons_succ, List.setIfInBounds_toArray, List.set_cons_zero, List.set_cons_succ]
            refine wpAnyH_take (i := 5) (v := ?_) rfl (by kernel_rfl) (by kernel_rfl) (by kernel_rfl) (fun _ _ _ h => h) (Or.inl ⟨by rfl, ?_⟩) (by assumption) ?_
            rotate_left
            · (intro w hSw; (try dsimp only at hSw); go_simp; (try with_reducible rfl))
            simp only [Act.put, List.getElem_toArray, List.getElem_cons_zero, List.getElem_cons_succ, List.setIfInBounds_toArray, List.set_cons_zero, List.set_cons_succ]
            refine wpAnyH_take (i := 6) (v := ?_) rfl (by kernel_rfl) (by kernel_rfl) (by kernel_rfl) (fun _ _ _ h => h) (Or.inl ⟨by rfl, ?_⟩) (by assumption) ?_
            rotate_left
            · (intro w hSw; (try dsimp only at hSw); go_simp; (try with_reducible rfl))
            simp only [Act.put, List.getElem_toArray, List.getElem_cons_zero, List.getElem_cons_succ, List.setIfInBounds_toArray, List.set_cons_zero, List.set_cons_succ]
            refine wpAnyH_take (i := 7) (v := ?_) rfl (by kernel_rfl) (by kernel_rfl) (by kernel_rfl) (fun _ _ _ h => h) (Or.inl ⟨by rfl, ?_⟩) (by assumption) ?_
            rotate_left
            · (intro w hSw; (try dsimp only at hSw); go_simp; (try with_reducible rfl))
            simp only [Act.put, List.getElem_toArray, List.getElem_cons_zero, List.getElem_cons_succ, List.setIfInBounds_toArray, List.set_cons_zero, List.set_cons_succ]
            refine wpAnyH_take (i := 8) (v := ?_) rfl (by kernel_rfl) (by kernel_rfl) (by kernel_rfl) (fun _ _ _ h => h) (Or.inl ⟨by rfl, ?_⟩) (by assumption) ?_
            rotate_left
            · (intro w hSw; (try dsimp only at hSw); go_simp; (try with_reducible rfl))
            simp only [Act.put, List.getElem_toArray, List.getElem_cons_zero, List.getElem_cons_succ, List.setIfInBounds_toArray, List.set_cons_zero, List.set_cons_succ]
            refine wpAnyH_take (i := 9) (v := ?_) rfl (by kernel_rfl) (by kernel_rfl) (by kernel_rfl) (fun _ _ _ h => h) (Or.inl ⟨by rfl, ?_⟩) (by assumption) ?_
            rotate_left
            · (intro w hSw; (try dsimp only at hSw); go_simp; (try with_reducible rfl))
            simp only [Act.put, List.getElem_toArray, List.getElem_cons_zero, List.getElem_cons_succ, List.setIfInBounds_toArray, List.set_cons_zero, List.set_cons_succ]
            refine wpAnyH_take (i := 10) (v := ?_) rfl (by kernel_rfl) (by kernel_rfl) (by kernel_rfl) (fun _ _ _ h => h) (Or.inl ⟨by rfl, ?_⟩) (by assumption) ?_
            rotate_left
            · (intro w hSw; (try dsimp only at hSw); go_simp; (try with_reducible rfl))
            simp only [Act.put, List.getElem_toArray, List.getElem_cons_zero, List.getElem_cons_succ, List.setIfInBounds_toArray, List.set_cons_zero, List.set_cons_succ]
            refine wpAnyH_take (i := 11) (v := ?_) rfl (by kernel_rfl) (by kernel_rfl) (by kernel_rfl) (fun _ _ _ h => h) (Or.inl ⟨by rfl, ?_⟩) (by assumption) ?_
            rotate_left
            · (intro w hSw; (try dsimp only at hSw); go_simp; (try with_reducible rfl))
            simp only [Act.put, List.getElem_toArray, List.getElem_cons_zero, List.getElem_cons_succ, List.setIfInBounds_toArray, List.set_cons_zero, List.set_cons_succ]
            refine wpAnyH_take (i := 12) (v := ?_) rfl (by kernel_rfl) (by kernel_rfl) (by kernel_rfl) (fun _ _ _ h => h) (Or.inl ⟨by rfl, ?_⟩) (by assumption) ?_
            rotate_left
            · (intro w hSw; (try dsimp only at hSw); go_simp; (try with_reducible rfl))
            simp only [Act.put, List.getElem_toArray, List.getElem_cons_zero, List.getElem_cons_succ, List.setIfInBounds_toArray, List.set_cons_zero, List.set_cons_succ]
            refine wpAnyH_take (i := 13) (v := ?_) rfl (by kernel_rfl) (by kernel_rfl) (by kernel_rfl) (fun _ _ _ h => h) (Or.inl ⟨by rfl, ?_⟩) (by assumption) ?_
            rotate_left
            · (intro w hSw; (try dsimp only at hSw); go_simp; (try with_reducible rfl))
            simp only [Act.put, List.getElem_toArray, List.getElem_cons_zero, List.getElem_cons_succ, List.setIfInBounds_toArray, List.set_cons_zero, List.set_cons_succ]
            refine wpAnyH_take (i := 14) (v := ?_) rfl (by kernel_rfl) (by kernel_rfl) (by kernel_rfl) (fun _ _ _ h => h) (Or.inl ⟨by rfl, ?_⟩) (by assumption) ?_
            rotate_left
            · (intro w hSw; (try dsimp only at hSw); go_simp; (try with_reducible rfl))
            simp only [Act.put, List.getElem_toArray, List.getElem_cons_zero, List.getElem_cons_succ, List.setIfInBounds_toArray, List.set_cons_zero, List.set_cons_succ]
            refine wpAnyH_take (i := 15) (v := ?_) rfl (by kernel_rfl) (by kernel_rfl) (by kernel_rfl) (fun _ _ _ h => h) (Or.inl ⟨by rfl, ?_⟩) (by assumption) ?_
            rotate_left
            · (intro w hSw; (try dsimp only at hSw); obtain ⟨c0, c1, c2⟩ := (HT910.out.below hSw).cells; (try simp only at c0 c1 c2); go_simp; (try with_reducible rfl))
            simp only [Act.put, List.getElem_toArray, List.getElem_cons_zero, List.getElem_cons_succ, List.setIfInBounds_toArray, List.set_cons_zero, List.set_cons_succ]
            refine wpAnyH_take (i := 16) (v := ?_) rfl (by kernel_rfl) (by kernel_rfl) (by kernel_rfl) (fun _ _ _ h => h) (Or.inl ⟨by rfl, ?_⟩) (by assumption) ?_
            rotate_left
            · (intro w hSw; (try dsimp only at hSw); obtain ⟨c0, c1, c2⟩ := (HT10.out.below hSw).cells; (try simp only at c0 c1 c2); go_simp; (try with_reducible rfl))
            simp only [Act.put, List.getElem_toArray, List.getElem_cons_zero, List.getElem_cons_succ, List.setIfInBounds_toArray, List.set_cons_zero, List.set_cons_succ]
            refine wpAnyH_ready (rs := [17]) (by kernel_rfl) (by simp) ?_
            refine AllReadyH.cons rfl (fun K hK => ?_) AllReadyH.nil
            rw [if_pos (by rfl)]
            go_simp
            ((with_reducible refine (qsB _ hHeld).mono ?_); rintro e w' ⟨rfl, bq⟩)
            refine hK.out _ _ (bch hHeld bq) (fun hHeld2 => ?_)
            clear hK K hHeld
            have hHeld := hHeld2; clear hHeld2
            refine wpAnyH_take (i := 18) (v := ?_) rfl (by kernel_rfl) (by kernel_rfl) (by kernel_rfl) (fun _ _ _ h => h) (Or.inl ⟨by rfl, ?_⟩) (by assumption) ?_
            rotate_left
            · (intro w hSw; (try dsimp only at hSw); go_simp; (try with_reducible rfl))
            simp only [Act.put, List.getElem_toArray, List.getElem_cons_zero, List.getElem_cons_succ, List.setIfInBounds_toArray, List.set_cons_zero, List.set_cons_succ]
            refine wpAnyH_take (i := 19) (v := ?_) rfl (by kernel_rfl) (by kernel_rfl) (by kernel_rfl) (fun _ _ _ h => h) (Or.inl ⟨by rfl, ?_⟩) (by assumption) ?_
            rotate_left
            · (intro w hSw; (try dsimp only at hSw); go_simp; (try with_reducible rfl))
            simp only [Act.put, List.getElem_toArray, List.getElem_cons_zero, List.getElem_cons_succ, List.setIfInBounds_toArray, List.set_cons_zero, List.set_cons_succ]
            refine wpAnyH_take (i := 20) (v := ?_) rfl (by kernel_rfl) (by kernel_rfl) (by kernel_rfl) (fun _ _ _ h => h) (Or.inl ⟨by rfl, ?_⟩) (by assumption) ?_
            rotate_left
            · (intro w hSw; (try dsimp only at hSw); go_simp; (try with_reducible rfl))
            simp only [Act.put, List.getElem_toArray, List.getElem_cons_zero, List.getElem_cons_succ, List.setIfInBounds_toArray, List.set_cons_zero, List.set_cons_succ]
            refine wpAnyH_take (i := 21) (v := ?_) rfl (by kernel_rfl) (by kernel_rfl) (by kernel_rfl) (fun _ _ _ h => h) (Or.inl ⟨by rfl, ?_⟩) (by assumption) ?_
            rotate_left
            · (intro w hSw; (try dsimp only at hSw); go_simp; (try with_reducible rfl))
            simp only [Act.put, List.getElem_toArray, List.getElem_cons_zero, List.getElem_cons_succ, List.setIfInBounds_toArray, List.set_cons_zero, List.set_cons_succ]
            refine wpAnyH_take (i := 22) (v := ?_) rfl (by kernel_rfl) (by kernel_rfl) (by kernel_rfl) (fun _ _ _ h => h) (Or.inl ⟨by rfl, ?_⟩) (by assumption) ?_
            rotate_left
            · (intro w hSw; (try dsimp only at hSw); go_simp; (try with_reducible rfl))
            simp only [Act.put, List.getElem_toArray, List.getElem_cons_zero, List.getElem_cons_succ, List.setIfInBounds_toArray, List.set_cons_zero, List.set_cons_succ]
            refine wpAnyH_take (i := 23) (v := ?_) rfl (by kernel_rfl) (by kernel_rfl) (by kernel_rfl) (fun _ _ _ h => h) (Or.inl ⟨by rfl, ?_⟩) (by assumption) ?_
            rotate_left
            · (intro w hSw; (try dsimp only at hSw); go_simp; (try with_reducible rfl))
            simp only [Act.put, List.getElem_toArray, List.getElem_cons_zero, List.getElem_cons_succ, List.setIfInBounds_toArray, List.set_cons_zero, List.set_cons_succ]
            refine wpAnyH_take (i := 24) (v := ?_) rfl (by kernel_rfl) (by kernel_rfl) (by kernel_rfl) (fun _ _ _ h => h) (Or.inl ⟨by rfl, ?_⟩) (by assumption) ?_
            rotate_left
            · (intro w hSw; (try dsimp only at hSw); go_simp; (try with_reducible rfl))
            simp only [Act.put, List.getElem_toArray, List.getElem_cons_zero, List.getElem_cons_succ, List.setIfInBounds_toArray, List.set_cons_zero, List.set_cons_succ]
            refine wpAnyH_take (i := 25) (v := ?_) rfl (by kernel_rfl) (by kernel_rfl) (by kernel_rfl) (fun _ _ _ h => h) (Or.inl ⟨by rfl, ?_⟩) (by assumption) ?_
            rotate_left
            · (intro w hSw; (try dsimp only at hSw); go_simp; (try with_reducible rfl))
            simp only [Act.put, List.getElem_toArray, List.getElem_cons_zero, List.getElem_cons_succ, List.setIfInBounds_toArray, List.set_cons_zero, List.set_cons_succ]
            refine wpAnyH_take (i := 26) (v := ?_) rfl (by kernel_rfl) (by kernel_rfl) (by kernel_rfl) (fun _ _ _ h => h) (Or.inl ⟨by rfl, ?_⟩) (by assumption) ?_
            rotate_left
            · (intro w hSw; (try dsimp only at hSw); go_simp; (try with_reducible rfl))
            simp only [Act.put, List.getElem_toArray, List.getElem_cons_zero, List.getElem_cons_succ, List.setIfInBounds_toArray, List.set_cons_zero, List.set_cons_succ]
            refine wpAnyH_take (i := 27) (v := ?_) rfl (by kernel_rfl) (by kernel_rfl) (by kernel_rfl) (fun _ _ _ h => h) (Or.inl ⟨by rfl, ?_⟩) (by assumption) ?_
            rotate_left
            · (intro w hSw; (try dsimp only at hSw); go_simp; (try with_reducible rfl))
            simp only [Act.put, List.getElem_toArray, List.getElem_cons_zero, List.getElem_cons_succ, List.setIfInBounds_toArray, List.set_cons_zero, List.set_cons_succ]
            refine wpAnyH_take (i := 28) (v := ?_) rfl (by kernel_rfl) (by kernel_rfl) (by kernel_rfl) (fun _ _ _ h => h) (Or.inl ⟨by rfl, ?_⟩) (by assumption) ?_
            rotate_left
            · (intro w hSw; (try dsimp only at hSw); go_simp; (try with_reducible rfl))
            simp only [Act.put, List.getElem_toArray, List.getElem_cons_zero, List.getElem_cons_succ, List.setIfInBounds_toArray, List.set_cons_zero, List.set_cons_succ]
            refine wpAnyH_take (i := 29) (v := ?_) rfl (by kernel_rfl) (by kernel_rfl) (by kernel_rfl) (fun _ _ _ h => h) (Or.inl ⟨by rfl, ?_⟩) (by assumption) ?_
            rotate_left
            · (intro w hSw; (try dsimp only at hSw); go_simp; (try with_reducible rfl))
            simp only [Act.put, List.getElem_toArray, List.getElem_cons_zero, List.getElem_cons_succ, List.setIfInBounds_toArray, List.set_cons_zero, List.set_cons_succ]
            refine wpAnyH_take (i := 30) (v := ?_) rfl (by kernel_rfl) (by kernel_rfl) (by kernel_rfl) (fun _ _ _ h => h) (Or.inl ⟨by rfl, ?_⟩) (by assumption) ?_
            rotate_left
            · (intro w hSw; (try dsimp only at hSw); go_simp; (try with_reducible rfl))
            simp only [Act.put, List.getElem_toArray, List.getElem_cons_zero, List.getElem_cons_succ, List.setIfInBounds_toArray, List.set_cons_zero, List.set_cons_succ]
            refine wpAnyH_take (i := 31) (v := ?_) rfl (by kernel_rfl) (by kernel_rfl) (by kernel_rfl) (fun _ _ _ h => h) (Or.inl ⟨by rfl, ?_⟩) (by assumption) ?_
            rotate_left
            · (intro w hSw; (try dsimp only at hSw); obtain ⟨c0, c1, c2⟩ := (HXV10.out.below hSw).cells; (try simp only at c0 c1 c2); go_simp; (try with_reducible rfl))
            simp only [Act.put, List.getElem_toArray, List.getElem_cons_zero, List.getElem_cons_succ, List.setIfInBounds_toArray, List.set_cons_zero, List.set_cons_succ]
            refine wpAnyH_take (i := 33) (v := ?_) rfl (by kernel_rfl) (by kernel_rfl) (by kernel_rfl) (fun _ _ _ h => h) (Or.inl ⟨by rfl, ?_⟩) (by assumption) ?_
            rotate_left
            · (intro w hSw; (try dsimp only at hSw); obtain ⟨c0, c1, c2⟩ := (HXV10.out.below hSw).cells; (try simp only at c0 c1 c2); go_simp; (try with_reducible rfl))
            simp only [Act.put, List.getElem_toArray, List.getElem_cons_zero, List.getElem_cons_succ, List.setIfInBounds_toArray, List.set_cons_zero, List.set_cons_succ]
            refine wpAnyH_ready (rs := [32]) (by kernel_rfl) (by simp) ?_
            refine AllReadyH.cons rfl (fun K hK => ?_) AllReadyH.nil
            rw [if_pos (by rfl)]
            go_simp
            ((with_reducible refine (qrP _ hHeld).mono ?_); rintro e w' ⟨rfl, bq⟩)
            refine hK.out _ _ (bch hHeld bq) (fun hHeld2 => ?_)
            clear hK K hHeld
            have hHeld := hHeld2; clear hHeld2
            refine wpAnyH_ready (rs := [34]) (by kernel_rfl) (by simp) ?_
            refine AllReadyH.cons rfl (fun K hK => ?_) AllReadyH.nil
            rw [if_pos (by rfl)]
            go_simp
            ((with_reducible refine (qrR _ hHeld).mono ?_); rintro e w' ⟨rfl, bq⟩)
            refine hK.out _ _ (bch hHeld bq) (fun hHeld2 => ?_)
            clear hK K hHeld
            have hHeld := hHeld2; clear hHeld2
            refine wpAnyH_take (i := 35) (v := ?_) rfl (by kernel_rfl) (by kernel_rfl) (by kernel_rfl) (fun _ _ _ h => h) (Or.inl ⟨by rfl, ?_⟩) (by assumption) ?_
            rotate_left
            · (intro w hSw; (try dsimp only at hSw); go_simp; (try with_reducible rfl))
            simp only [Act.put, List.getElem_toArray, List.getElem_cons_zero, List.getElem_cons_succ, List.setIfInBounds_toArray, List.set_cons_zero, List.set_cons_succ]
            refine wpAnyH_take (i := 36) (v := ?_) rfl (by kernel_rfl) (by kernel_rfl) (by kernel_rfl) (fun _ _ _ h => h) (Or.inl ⟨by rfl, ?_⟩) (by assumption) ?_
            rotate_left
            · (intro w hSw; (try dsimp only at hSw); go_simp; (try with_reducible rfl))
            simp only [Act.put, List.getElem_toArray, List.getElem_cons_zero, List.getElem_cons_succ, List.setIfInBounds_toArray, List.set_cons_zero, List.set_cons_succ]
            refine wpAnyH_done (by kernel_rfl) ?_ _
            refine NoPanic.normal ?_
            have HBF := Lib.hid (bch HB10b.out hHeld)
            clear hHeld qsA qsB qrP qrR
            go_wp2_with fail
            go_roundw
            case rel => exact ⟨j + 1, _, rfl, by omega, by go_num, HBF.out⟩
            case measure => simp [intOf]; omega
        · have hje : j = 2 := by omega
          subst hje
          go_wp2_with fail
          go_ret
          exact ⟨rfl, bch HBV.out hbx⟩
end Go.Proofs.Ytcifcpggiifjeaa
