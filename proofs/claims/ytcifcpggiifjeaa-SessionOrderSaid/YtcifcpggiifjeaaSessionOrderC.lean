import Derived.Test.YtcifcpggiifjeaaSesAwake
import Derived.Test.YtcifcpggiifjeaaSesRefB
import Derived.Deep.RegionLaw
/-
  The walk of the law SessionOrder, over what is asked of the program (stage 10).
-/
namespace Go.Proofs.Ytcifcpggiifjeaa
open Go.RowKit
set_option linter.unusedVariables false
set_option linter.unusedSimpArgs false
set_option maxRecDepth 100000 in
set_option maxHeartbeats 8000000 in
theorem sessionOrder_core (kR : RightQ) (kN : NewQ) (kS : StampQ) (kT : TakeQ) (a0 : Option Addr) (len0 cap0 : Nat) (zs : List Int) (a1 : Int) (w : World) (h0 : IsRow .i64 w a0 len0 cap0 zs) (h1 : (Lit.int .i64 a1).wf = true) :
    Calls Try.prog 6 #[.slice a0 len0 cap0, .int .i64 a1] w fun e w' => e = .returned (.bool true) ∧ Below w.heap.size w w' := by
  obtain ⟨_, hns0⟩ := h0.isNs
  generalize zs.take len0 = come at *
  clear h0
  have qw := awakeS_any kR kN kS kT
  have qn := kN
  unfold NewQ at qn
  have qn2 := qn
  have KR := Lib.hid kR; clear kR
  have KT := Lib.hid kT; clear kT
  clear kN kS
  have hl0 := hns0.2.1
  unfold maxLen at hl0
  have HC := Lib.hid hns0; clear hns0
  obtain ⟨n, hn⟩ : ∃ n : Nat, n = min len0 40 := ⟨_, rfl⟩
  have hn40 : n ≤ 40 := by omega
  have hnl : n ≤ len0 := by omega
  have hmn : (if (40 : Int) < (len0 : Int) then (40 : Int) else (len0 : Int)) = (n : Int) := by split <;> omega
  have hmn2 : min (len0 : Int) 40 = (n : Int) := by omega
  clear hn
  have hp := pickN_lt a1 ((n : Int) + 1) (by omega)
  have qp := fun W => pickN10_nat a1 ((n : Int) + 1) (by omega) (by omega) h1 W
  generalize pickN a1 ((n : Int) + 1) = p at *
  clear h1
  obtain ⟨f, hf⟩ : ∃ f : Nat → Nat, f = fun j => pickN (come.getD j 0) 50 := ⟨_, rfl⟩
  have HFP : Hid (∀ j, pickN (come.getD j 0) 50 = f j) := by show ∀ j, _; intro j; rw [hf]
  have HF50 : Hid (∀ j, f j < 50) := by show ∀ j, f j < 50; intro j; have := pickN_lt (come.getD j 0) 50 (by omega); rw [hf]; show pickN (come.getD j 0) 50 < 50; omega
  clear hf
  go_enter Try.func6, Try.ntmps6
  go_wp2_with fail
  ((with_reducible refine (qw _).mono ?_); rintro e Wa ⟨rfl, ba⟩)
  go_wp2_with fail
  ((with_reducible refine (qp _).mono ?_); rintro e W0_ ⟨rfl, rfl⟩)
  clear qp
  go_wp2_with fail
  ((with_reducible refine (qn _).mono ?_); rintro e W1 ⟨A1, n1, cap1, rfl, hcap1, hns1, hnew1, b1⟩)
  try simp only [id]
  have hn0 : n1 = 0 := hns1.1
  subst hn0
  clear qw qn
  have HB1 := Lib.hid (bch ba b1); clear ba b1 hns1 hnew1 hcap1
  have hnx : newS.next = 1 := rfl
  have hsn : newS.seen = 0 := rfl
  go_upto_region 5 with fail
  try simp only [hnx, hsn]
  have hm2 : SnBlk (W1.alloc (.cells #[.int .i64 1, .int .i64 0, .slice A1 0 cap1] 24)) W1.heap.size newS (.slice A1 0 cap1) := SnBlk.new W1 newS _
  have hb2 := (Below.refl W1.heap.size W1).alloc (Nat.le_refl _) (.cells #[.int .i64 1, .int .i64 0, .slice A1 0 cap1] 24)
  have hz2 : (W1.alloc (.cells #[.int .i64 1, .int .i64 0, .slice A1 0 cap1] 24)).heap.size = W1.heap.size + 1 := by simp
  obtain ⟨W2, hW2⟩ : ∃ W, W1.alloc (.cells #[.int .i64 1, .int .i64 0, .slice A1 0 cap1] 24) = W := ⟨_, rfl⟩
  rw [hW2] at hm2 hb2 hz2 ⊢
  clear hW2 hnx hsn
  have HB2 := Lib.hid (bch HB1.out hb2); clear hb2
  have hgsw : w.heap.size ≤ W1.heap.size := HB1.out.size
  have HZ2 : Hid (W1.heap.size < W2.heap.size) := by show _ < _; omega
  clear hz2 HB1
  go_wp2_with fail
  ((with_reducible refine (qn2 _).mono ?_); rintro e W3 ⟨A3, n3, cap3, rfl, hcap3, hns3, hnew3, b3⟩)
  try simp only [id]
  have hn0 : n3 = 0 := hns3.1
  subst hn0
  clear qn2 hns3 hnew3 hcap3
  have hnx : newS.next = 1 := rfl
  have hsn : newS.seen = 0 := rfl
  go_upto_region 6 with fail
  try simp only [hnx, hsn]
  have hm4 : SnBlk (W3.alloc (.cells #[.int .i64 1, .int .i64 0, .slice A3 0 cap3] 24)) W3.heap.size newS (.slice A3 0 cap3) := SnBlk.new W3 newS _
  have hb4 := (Below.refl W3.heap.size W3).alloc (Nat.le_refl _) (.cells #[.int .i64 1, .int .i64 0, .slice A3 0 cap3] 24)
  obtain ⟨W4, hW4⟩ : ∃ W, W3.alloc (.cells #[.int .i64 1, .int .i64 0, .slice A3 0 cap3] 24) = W := ⟨_, rfl⟩
  rw [hW4] at hm4 hb4 ⊢
  clear hW4 hnx hsn
  have HMa := Lib.hid ((hm2.below b3).below hb4); clear hm2
  have HMb := Lib.hid hm4; clear hm4
  have HB4 := Lib.hid (bch (bch HB2.out b3) hb4)
  have hgab : W1.heap.size < W3.heap.size := by have := HZ2.out; have := b3.size; omega
  clear hb4 HB2 HZ2 b3
  generalize W1.heap.size = ga at *
  generalize W3.heap.size = gb at *
  have hgaw : w.heap.size ≤ ga := hgsw
  have hgbw : w.heap.size ≤ gb := by omega
  have HVa : Hid (SnVar W4 ga newS (gb + 1)) := ⟨A1, 0, cap1, HMa.out, Nat.zero_le _, isNs_nil _ _, fun h => by omega⟩
  have HVb : Hid (SnVar W4 gb newS (gb + 1)) := ⟨A3, 0, cap3, HMb.out, Nat.zero_le _, isNs_nil _ _, fun h => by omega⟩
  clear HMa HMb
  go_wp2_with fail
  go_loopw [10] (fun i wy => ∃ (k : Nat) (sa sb : Sn) (wr : World), wr = wy ∧ k ≤ n ∧ i = .int .i64 k ∧ SnVar wr ga sa (gb + 1) ∧ SnVar wr gb sb (gb + 1) ∧ Below w.heap.size w wr ∧ Hid (RightS sa ∧ sa.next = 1 ∧ ∀ x, came sa x ↔ x ≤ 0 ∨ ∃ j, j < k ∧ x = 1 + (f j : Int)) ∧ Hid (RightS sb ∧ sb.next = 1 ∧ ∀ x, came sb x ↔ x ≤ 0 ∨ ∃ j, j < k ∧ x = 1 + (f ((p + j) % n) : Int))) (fun i _ => 50 - (intOf i).toNat)
  case atStart =>
    refine ⟨0, newS, newS, _, rfl, by omega, rfl, HVa.out, HVb.out, HB4.out, ⟨new_right, rfl, fun x => ?_⟩, ⟨new_right, rfl, fun x => ?_⟩⟩ <;> simp [came, newS]
  case round =>
    clear HVa HVb HB4
    obtain ⟨k, sa, sb, wr, rfl, hk, rfl, ⟨A, na, capa, hma, hcapa, hnsa, hnewa⟩, ⟨B, nb, capb, hmb, hcapb, hnsb, hnewb⟩, hb, ha1, hb1⟩ := hrel
    have hna : na ≤ 63 := by rw [hnsa.1]; exact ha1.out.1.len
    have hnb : nb ≤ 63 := by rw [hnsb.1]; exact hb1.out.1.len
    have hgl : gb < wr.heap.size := lt_of_blk hmb
    by_cases hlt : k < n
    · obtain ⟨bc, oc, hA, hbc, hc⟩ := HC.out.2.2.2 (by omega)
      subst hA
      have HK : Hid (k < come.length) := by have := HC.out.1; show k < come.length; omega
      have hm : (p + k) % n < n := Nat.mod_lt _ (by omega)
      have HK2 : Hid ((p + k) % n < come.length) := by have := HC.out.1; show (p + k) % n < come.length; omega
      have xc := (hb.cell (p := ⟨bc, oc + k, none⟩) hbc).trans (hc k HK.out)
      have HXC2 : Hid (w.cell? ⟨bc, oc + (p + k) % n, none⟩ = some (.int .i64 (come.getD ((p + k) % n) 0))) := hc _ HK2.out
      have hzw := ints_at HC.out.2.2.1 HK.out
      have hzw2 := ints_at HC.out.2.2.1 HK2.out
      clear hc
      have q9 := fun W => pickN10_nat (come.getD k 0) 50 (by omega) (by omega) hzw W
      have q10 := fun W => pickN10_nat (come.getD ((p + k) % n) 0) 50 (by omega) (by omega) hzw2 W
      rw [HFP.out] at q9 q10
      have h9 := HF50.out k
      have h10 := HF50.out ((p + k) % n)
      have HNX9 := Lib.hid (takeS_right (1 + (f k : Int)) ha1.out.1)
      have HCM9 := Lib.hid (fun x => takeS_came (q := 1 + (f k : Int)) ha1.out.1 (by omega) (by omega) (by have := ha1.out.1.2.1; omega) x)
      have HNX10 := Lib.hid (takeS_right (1 + (f ((p + k) % n) : Int)) hb1.out.1)
      have HCM10 := Lib.hid (fun x => takeS_came (q := 1 + (f ((p + k) % n) : Int)) hb1.out.1 (by omega) (by omega) (by have := hb1.out.1.2.1; omega) x)
      have qt9 := fun W h => KT.out sa A na capa (1 + (f k : Int)) W ha1.out.1.wf hcapa h (by omega) (wf_within (by omega) (by omega))
      have qt10 := fun W h => KT.out sb B nb capb (1 + (f ((p + k) % n) : Int)) W hb1.out.1.wf hcapb h (by omega) (wf_within (by omega) (by omega))
      generalize come.getD k 0 = z9 at *
      generalize come.getD ((p + k) % n) 0 = z10 at *
      have HIA := Lib.hid (And.intro ha1.out.2.1 ha1.out.2.2)
      have HIB := Lib.hid (And.intro hb1.out.2.1 hb1.out.2.2)
      have hkn : (k : Int) < (n : Int) := by omega
      have hkl : (k : Int) < (len0 : Int) := by omega
      have hk0 : (0 : Int) ≤ (k : Int) := by omega
      have hml : (((p + k) % n : Nat) : Int) < (len0 : Int) := by omega
      have hm0 : (0 : Int) ≤ (((p + k) % n : Nat) : Int) := by omega
      clear ha1 hb1 hzw hzw2
      have HFK : Hid (f k = f k) := rfl
      obtain ⟨x9, hx9⟩ : ∃ x, f k = x := ⟨_, rfl⟩
      obtain ⟨x10, hx10⟩ : ∃ x, f ((p + k) % n) = x := ⟨_, rfl⟩
      rw [hx9] at q9 h9 HNX9 HCM9 qt9
      rw [hx10] at q10 h10 HNX10 HCM10 qt10
      have HX9 := Lib.hid hx9; clear hx9
      have HX10 := Lib.hid hx10; clear hx10
      have hw9 : IntKind.i64.wrap (1 + (x9 : Int)) = 1 + (x9 : Int) := IntWalk.i64_in _ (by omega)
      have hw10 : IntKind.i64.wrap (1 + (x10 : Int)) = 1 + (x10 : Int) := IntWalk.i64_in _ (by omega)
      generalize takeS sa (1 + (x9 : Int)) = Ta at *
      generalize takeS sb (1 + (x10 : Int)) = Tb at *
      obtain ⟨ta, ba, ea⟩ := Ta
      obtain ⟨tb, bb, eb⟩ := Tb
      simp only at qt9 qt10 HNX9 HNX10 HCM9 HCM10
      have HNS9 := Lib.hid hnsa; clear hnsa
      have HNSb := Lib.hid hnsb; clear hnsb
      have HNWb := Lib.hid hnewb
      have HNWa := Lib.hid hnewa
      clear hnewb hnewa
      have HMA := Lib.hid hma; clear hma
      have HMB := Lib.hid hmb; clear hmb
      have HB := Lib.hid hb; clear hb
      obtain ⟨c0, c1, c2⟩ := HMA.out.cells
      have f0 := HMA.out.frozen 0
      have f1 := HMA.out.frozen 1
      have f2 := HMA.out.frozen 2
      have qp9 := q9
      go_upto_region 9 with fail
      go_cut [] (fun wx => SnVar wx ga ta (gb + 1) ∧ SnBlk wx gb sb (.slice B nb capb) ∧ IsNs wx B nb sb.ahead ∧ Below w.heap.size w wx)
      case first =>
        go_region_law (first | (go_simp; go_at_call 10; refine (qp9 _).mono ?_; rintro e V1 ⟨rfl, rfl⟩) | (go_simp; go_at_call 11; refine (qt9 _ (by first | exact HNS9.out | exact HNS9.out.drew)).mono ?_; rintro e V1 ⟨A8, n8, cap8, rfl, hcap8, hns8, hnew8, bq⟩; have hm8 := (SnBlk.drew HMA.out).below bq; obtain ⟨d0, d1, d2⟩ := hm8.cells; have e0 := hm8.frozen 0; have e1 := hm8.frozen 1; have e2 := hm8.frozen 2; have HM8 := Lib.hid hm8; clear hm8))
        all_goals go_wp2_with fail
        all_goals go_meet
        all_goals exact ⟨SnVar.put HM8.out hcap8 hns8 (hnew8.new (by show gb + 1 ≤ wr.heap.size; omega) HNWa.out) (by omega), ((((SnBlk.drew HMB.out).below bq).far (by omega) _ _).far (by omega) _ _).far (by omega) _ _, (((HNSb.out.drew.below bq).set HNWb.out (by omega)).set HNWb.out (by omega)).set HNWb.out (by omega), (((bch HB.out.drew bq).setCell (p := ⟨ga, 0, none⟩) hgaw _).setCell (p := ⟨ga, 1, none⟩) hgaw _).setCell (p := ⟨ga, 2, none⟩) hgaw _⟩
      case rest =>
        obtain ⟨hva, hmb, hnsb, hb⟩ := hcut
        clear HMA HMB HB HNSb HNS9 qt9 q9 c0 c1 c2 f0 f1 f2
        have HVA := Lib.hid hva; clear hva
        have HMB := Lib.hid hmb; clear hmb
        have HNS10 := Lib.hid hnsb; clear hnsb
        have HB := Lib.hid hb; clear hb
        have hglc : gb < wc.heap.size := lt_of_blk HMB.out
        have xc2 := (HB.out.cell (p := ⟨bc, oc + (p + k) % n, none⟩) (lt_of_cell (a := ⟨bc, oc + (p + k) % n, none⟩) HXC2.out)).trans HXC2.out
        obtain ⟨c0, c1, c2⟩ := HMB.out.cells
        have f0 := HMB.out.frozen 0
        have f1 := HMB.out.frozen 1
        have f2 := HMB.out.frozen 2
        have hrem : Int.tmod ((p : Int) + (k : Int)) (n : Int) = (((p + k) % n : Nat) : Int) := by rw [Int.tmod_eq_emod_of_nonneg (by omega)]; simp
        generalize hmm : (p + k) % n = m at *
        have HMM := Lib.hid hmm; clear hmm
        have hnp : (0 : Int) < (n : Int) := by omega
        have hnz : (n = 0) = False := by simp; omega
        have hwpk : IntKind.i64.wrap ((p : Int) + (k : Int)) = (p : Int) + (k : Int) := IntWalk.i64_in _ (by omega)
        have hwm : IntKind.i64.wrap (m : Int) = (m : Int) := IntWalk.i64_in _ (by omega)
        have qp10 := q10
        go_upto_region 10 with fail
        have HCA : Hid (∀ x, came ta x ↔ x ≤ 0 ∨ ∃ j, j < k + 1 ∧ x = 1 + (f j : Int)) := fun x => by
          rw [HCM9.out, HIA.out.2, ← HX9.out]
          constructor
          · rintro ((h | ⟨j, hj, rfl⟩) | rfl)
            · exact .inl h
            · exact .inr ⟨j, by omega, rfl⟩
            · exact .inr ⟨k, by omega, rfl⟩
          · rintro (h | ⟨j, hj, rfl⟩)
            · exact .inl (.inl h)
            · by_cases e : j = k
              · subst e; exact .inr rfl
              · exact .inl (.inr ⟨j, by omega, rfl⟩)
        have HCB : Hid (∀ x, came tb x ↔ x ≤ 0 ∨ ∃ j, j < k + 1 ∧ x = 1 + (f ((p + j) % n) : Int)) := fun x => by
          rw [HCM10.out, HIB.out.2, ← HX10.out]
          constructor
          · rintro ((h | ⟨j, hj, rfl⟩) | rfl)
            · exact .inl h
            · exact .inr ⟨j, by omega, rfl⟩
            · exact .inr ⟨k, by omega, by rw [HMM.out]⟩
          · rintro (h | ⟨j, hj, rfl⟩)
            · exact .inl (.inl h)
            · by_cases e : j = k
              · subst e; exact .inr (by rw [HMM.out])
              · exact .inl (.inr ⟨j, by omega, rfl⟩)
        have HRA : Hid (RightS ta ∧ ta.next = 1) := ⟨HNX9.out.1, HNX9.out.2.trans HIA.out.1⟩
        have HRB : Hid (RightS tb ∧ tb.next = 1) := ⟨HNX10.out.1, HNX10.out.2.trans HIB.out.1⟩
        clear HNX9 HNX10 HCM9 HCM10 HIA HIB HX9 HX10 HFK
        go_region_law (first | (go_simp; go_at_call 10; refine (qp10 _).mono ?_; rintro e V1 ⟨rfl, rfl⟩) | (go_simp; go_at_call 11; refine (qt10 _ (by first | exact HNS10.out | exact HNS10.out.drew)).mono ?_; rintro e V1 ⟨A8, n8, cap8, rfl, hcap8, hns8, hnew8, bq⟩; have hm8 := (SnBlk.drew HMB.out).below bq; obtain ⟨d0, d1, d2⟩ := hm8.cells; have e0 := hm8.frozen 0; have e1 := hm8.frozen 1; have e2 := hm8.frozen 2; have HM8 := Lib.hid hm8; clear hm8))
        all_goals have HV1 := Lib.hid (SnVar.put HM8.out hcap8 hns8 (hnew8.new (C := gb + 1) (by show gb + 1 ≤ wc.heap.size; omega) HNWb.out) (by omega))
        all_goals have HV2 := Lib.hid (((((SnVar.drew HVA.out).below bq).far (x := gb) (by omega) (by omega) 0 (.int .i64 tb.next)).far (x := gb) (by omega) (by omega) 1 (.int .i64 tb.seen)).far (x := gb) (by omega) (by omega) 2 (.slice A8 n8 cap8))
        all_goals have HB9 := Lib.hid ((((bch HB.out.drew bq).setCell (p := ⟨gb, 0, none⟩) hgbw (.int .i64 tb.next)).setCell (p := ⟨gb, 1, none⟩) hgbw (.int .i64 tb.seen)).setCell (p := ⟨gb, 2, none⟩) hgbw (.slice A8 n8 cap8))
        all_goals clear bq hns8 hnew8 HM8 d0 d1 d2 e0 e1 e2
        all_goals go_wp2_with fail
        all_goals go_roundw
        all_goals first | exact ⟨k + 1, ta, tb, _, rfl, by omega, by go_num, HV2.out, HV1.out, HB9.out, ⟨HRA.out.1, HRA.out.2, HCA.out⟩, ⟨HRB.out.1, HRB.out.2, HCB.out⟩⟩ | (simp [intOf]; omega)
    · have hke : k = n := by omega
      have hE : sa = sb := by
        refine came_ext ha1.out.1 hb1.out.1 (ha1.out.2.1.trans hb1.out.2.1.symm) (fun x => ?_)
        rw [ha1.out.2.2, hb1.out.2.2]
        constructor
        · rintro (h | ⟨j, hj, rfl⟩)
          · exact .inl h
          · refine .inr ⟨(j + n - p % n) % n, ?_, ?_⟩
            · rw [hke]; exact Nat.mod_lt _ (by omega)
            · have hpn : p % n < n := Nat.mod_lt _ (by omega)
              have e : (p + (j + n - p % n) % n) % n = j := by
                rw [Nat.add_mod, Nat.mod_mod, ← Nat.add_mod]
                have h2 : p + (j + n - p % n) = j + n * (p / n + 1) := by
                  have := Nat.div_add_mod p n
                  rw [Nat.mul_add, Nat.mul_one]; omega
                rw [h2, Nat.add_mul_mod_self_left, Nat.mod_eq_of_lt (by omega)]
              rw [e]
        · rintro (h | ⟨j, hj, rfl⟩)
          · exact .inl h
          · exact .inr ⟨(p + j) % n, by rw [hke]; exact Nat.mod_lt _ (by omega), rfl⟩
      subst hE
      have qs := fun W h1 h2 => refsameS_any sa sa A B na nb capa capb W h1 h2
      rw [eqS_self] at qs
      have qr := fun W h1 => KR.out sa A na capa W ha1.out.1.wf hcapa h1
      rw [rightS_iff.2 ha1.out.1] at qr
      obtain ⟨c0, c1, c2⟩ := hma.cells
      obtain ⟨d0, d1, d2⟩ := hmb.cells
      have HMA := Lib.hid hma; clear hma
      have HB := Lib.hid hb; clear hb
      have HNA := Lib.hid hnsa
      have HNB := Lib.hid hnsb
      have hkx : ((n : Int) < (n : Int)) = False := by simp
      subst hke
      clear ha1 hb1 hnsa hnsb hmb
      go_wp2_with fail
      ((with_reducible refine (qs _ HNA.out HNB.out).mono ?_); rintro e W8 ⟨rfl, b8⟩)
      have HNA8 := Lib.hid (HNA.out.below b8)
      have HMA8 := Lib.hid (HMA.out.below b8)
      have HB8 := Lib.hid (bch HB.out b8)
      clear c0 c1 c2 d0 d1 d2 b8
      obtain ⟨c0, c1, c2⟩ := HMA8.out.cells
      go_wp2_with fail
      ((with_reducible refine (qr _ HNA8.out).mono ?_); rintro e W9 ⟨rfl, b9⟩)
      have HB9 := Lib.hid (bch HB8.out b9)
      clear b9
      go_wp2_with fail
      go_ret
      exact ⟨rfl, HB9.out⟩
end Go.Proofs.Ytcifcpggiifjeaa
