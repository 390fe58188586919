import Derived.Test.YtgckoihangccbaaRpLaw
import Derived.Test.YtgckoihangccbaaInts
/-
  The walk of the law ReplyMany, over what is asked of the program (stage 13).
-/
namespace Go.Proofs.Ytgckoihangccbaa
open Go.RowKit
set_option linter.unusedVariables false
set_option linter.unusedSimpArgs false

/-- The i-th number. -/
def idN (ids : List Int) (j : Nat) : Int := if j < ids.length then 1 + (pickN (ids.getD j 0) 100 : Nat) else 1
theorem idN_in (ids : List Int) (j : Nat) : 1 ≤ idN ids j ∧ idN ids j ≤ 100 := by
  unfold idN
  split
  · have := pickN_lt (ids.getD j 0) 100 (by omega); omega
  · omega
/-- So many clients are kept. -/
def ManyP (ids : List Int) (L : List DnR) (k : Nat) : Prop :=
  RightD L ∧ L.length = k ∧ (∀ j : Nat, j < k → lookD L (10 * (9 - (j : Int))) = some ⟨10 * (9 - (j : Int)), idN ids j, revP (idN ids j)⟩) ∧ ∀ c : Int, (∀ j : Nat, j < k → c ≠ 10 * (9 - (j : Int))) → lookD L c = none
theorem many_nil (ids : List Int) : ManyP ids [] 0 := ⟨rightD_nil, rfl, (fun j hj => by omega), fun c _ => rfl⟩
theorem many_good {ids : List Int} {k : Nat} (hk : k ≤ 8) {i : Int} (hi : 1 ≤ i ∧ i ≤ 200) : GoodC (10 * (9 - (k : Int))) i := goodC_of (by omega) (by omega) hi.1 (by omega)
theorem many_step {ids : List Int} {L : List DnR} {k : Nat} (h : ManyP ids L k) (hk : k ≤ 7) : ∃ U, keepL L (10 * (9 - (k : Int))) (idN ids k) (revP (idN ids k)) = (U, 0) ∧ ManyP ids U (k + 1) := by
  obtain ⟨hr, hl, h1, h0⟩ := h
  have hid := idN_in ids k
  have hno : lookD L (10 * (9 - (k : Int))) = none := h0 _ (fun j hj => by omega)
  rcases keep_new2 (r := revP (idN ids k)) hr (many_good (ids := ids) (k := k) (i := idN ids k) (by omega) ⟨hid.1, by omega⟩) (rev_may (by omega) (by omega)) (fun d hd => by rw [hno] at hd; cases hd) with ⟨h8, _, _⟩ | ⟨U, hU, hE, _⟩
  · omega
  · refine ⟨U, hU, hE.1, by rw [hE.2.2, if_pos hno, hl], fun j hj => ?_, fun c hc => ?_⟩
    · rw [hE.2.1]
      rcases (by omega : j < k ∨ j = k) with h2 | rfl
      · rw [if_neg (by omega)]; exact h1 j h2
      · rw [if_pos rfl]
    · rw [hE.2.1, if_neg (hc k (by omega))]
      exact h0 c (fun j hj => hc j (by omega))
theorem many_full {ids : List Int} {L : List DnR} (h : ManyP ids L 8) : keepL L (10 * (9 - ((8 : Nat) : Int))) (idN ids 8) (revP (idN ids 8)) = ([], 50) := by
  obtain ⟨hr, hl, h1, h0⟩ := h
  have hid := idN_in ids 8
  have hno : lookD L (10 * (9 - ((8 : Nat) : Int))) = none := h0 _ (fun j hj => by omega)
  rcases keep_new2 (r := revP (idN ids 8)) hr (many_good (ids := ids) (k := 8) (i := idN ids 8) (by omega) ⟨hid.1, by omega⟩) (rev_may (by omega) (by omega)) (fun d hd => by rw [hno] at hd; cases hd) with ⟨_, _, e⟩ | ⟨U, hU, hE, h7⟩
  · exact e
  · rcases h7 with h7 | h7
    · omega
    · exact absurd hno h7
theorem many_look {ids : List Int} {L : List DnR} (h : ManyP ids L 8) {j : Nat} (hj : j < 8) : lookL L (10 * (9 - (j : Int))) (idN ids j) = (revP (idN ids j), 0) ∧ lookL L (10 * (9 - (j : Int))) (idN ids j + 1) = (zeroP13, 70) := by
  obtain ⟨hr, hl, h1, h0⟩ := h
  have hid := idN_in ids j
  exact ⟨(look_some hr (many_good (ids := ids) (k := j) (by omega) ⟨hid.1, by omega⟩) (h1 j hj)).2.2 rfl, (look_some hr (many_good (ids := ids) (k := j) (by omega) ⟨by omega, by omega⟩) (h1 j hj)).1 (by show idN ids j < idN ids j + 1; omega)⟩
set_option maxRecDepth 100000 in
set_option maxHeartbeats 8000000 in
theorem replyMany_core (kK : KeepQ) (kL : LookQ) (kR : RightQ13) (kS : SameQ13) (kA : SameAllQ) (a0 : Option Addr) (len0 cap0 : Nat) (zs : List Int) (w : World) (h0 : IsRow .i64 w a0 len0 cap0 zs) :
    Calls Try.prog 5 #[.slice a0 len0 cap0] w fun e w' => e = .returned (.bool true) ∧ Below w.heap.size w w' := by
  obtain ⟨_, hns0⟩ := h0.isNs
  generalize zs.take len0 = ids at *
  clear h0
  have hl9 := hns0.2.1
  unfold maxLen at hl9
  have HLN : Hid (len0 = ids.length) := hns0.1
  have HI := Lib.hid hns0; clear hns0
  go_enter Try.func5, Try.ntmps5
  have q_aw := fun W => awake13_any kK kL kR kS kA W
  go_wp2_with fail
  ((with_reducible refine (q_aw _).mono ?_); rintro e W1 ⟨rfl, b_⟩)
  clear q_aw
  have HB1 := Lib.hid b_; clear b_
  go_wp2_with fail
  go_loopw [4, 5] (fun lv iv wy => ∃ (j : Nat) (wr : World) (A : Option Addr) (m cm : Nat) (L : List DnR), wr = wy ∧ j ≤ 9 ∧ iv = .int .i64 j ∧ lv = .slice A m cm ∧ m ≤ cm ∧ IsDs wr A m L ∧ Hid (ManyP ids L (min j 8)) ∧ Below w.heap.size w wr) (fun _ iv _ => 9 - (intOf iv).toNat)
  case atStart => exact ⟨0, _, none, 0, 0, [], rfl, by omega, rfl, rfl, Nat.le_refl _, isDs_nil _ _, many_nil ids, HB1.out⟩
  case round =>
    obtain ⟨j, wr, A, m, cm, L, rfl, hj, rfl, rfl, hmc, hds, HMP, hb⟩ := hrel
    have HB := Lib.hid hb; clear hb
    have HD := Lib.hid hds; clear hds
    by_cases hlt : j < 9
    · have hj9 : (j : Int) < 9 := by omega
      have hj0 : (0 : Int) ≤ (j : Int) := by omega
      have HRR : Hid (RightD L) := HMP.out.1
      have HIN := Lib.hid (idN_in ids j)
      have hw1 : IntKind.i64.wrap (9 - (j : Int)) = 9 - (j : Int) := IntWalk.i64_in _ (by omega)
      have HG : Hid (GoodC (10 * (9 - (j : Int))) (idN ids j)) := many_good (ids := ids) (k := j) (by omega) ⟨HIN.out.1, by have := HIN.out; omega⟩
      have HIS : Hid (IsNs wr a0 len0 ids) := HI.out.below HB.out
      by_cases h8 : j = 8
      · have HM8 : Hid (ManyP ids L 8) := by have := HMP.out; rw [h8] at this; exact this
        have HNM : Hid (ManyP ids L (min (j + 1) 8)) := by have := HMP.out; rw [h8] at this ⊢; exact this
        have hke := (show keepL L (10 * (9 - (j : Int))) (idN ids j) (revP (idN ids j)) = ([], 50) from by have := many_full HM8.out; rw [h8]; exact this)
        obtain ⟨N, hNN⟩ : ∃ N, idN ids j = N := ⟨_, rfl⟩
        have HN := Lib.hid hNN
        obtain ⟨c, hcc⟩ : ∃ c, 10 * (9 - (j : Int)) = c := ⟨_, rfl⟩
        have hw2 : IntKind.i64.wrap (10 * (9 - (j : Int))) = c := by rw [← hcc]; exact IntWalk.i64_in _ (by omega)
        rw [hNN] at HIN HG hke
        rw [hcc] at HG hke
        clear hNN hcc
        have e8 : ((j : Int) == 8) = true := by rw [beq_iff_eq]; omega
        have l8 : decide ((j : Int) < 8) = false := decide_eq_false (by omega)
        have l8n : decide (j < 8) = false := decide_eq_false (by omega)
        clear h8
        by_cases hn : j < len0
        · have HNE : Hid (1 + ((pickN (ids.getD j 0) 100 : Nat) : Int) = N) := by show _ = _; rw [← HN.out]; unfold idN; rw [if_pos (by have := HLN.out; omega)]
          have hjn : (j : Int) < (len0 : Int) := by omega
          obtain ⟨bi, oi, hAi, hbi, hci⟩ := HIS.out.2.2.2 (by omega)
          subst hAi
          have hcell := hci j (by have := HLN.out; omega)
          have hwf : (Lit.int .i64 (ids.getD j 0)).wf = true := HIS.out.2.2.1 _ (by rw [List.getD_eq_getElem?_getD, List.getElem?_eq_getElem (by have := HLN.out; omega)]; exact List.getElem_mem _)
          have p := fun W => pickN13_nat (ids.getD j 0) 100 (by omega) (by omega) hwf W
          have hwn : IntKind.i64.wrap (1 + (pickN (ids.getD j 0) 100 : Int)) = N := by rw [← HNE.out]; exact IntWalk.i64_in _ (by have := pickN_lt (ids.getD j 0) 100 (by omega); omega)
          clear hci hwf
          generalize ids.getD j 0 = z0 at *
          have HKE := Lib.hid hke; clear hke
          go_wp2_with fail
          ((with_reducible refine (p _).mono ?_); rintro e W_ ⟨rfl, rfl⟩)
          clear hcell p
          have q_k : Calls Try.prog 11 #[.slice A m cm, .int .i64 c, .int .i64 N, .agg #[.int .i64 0, .int .i64 N, .string ⟨#[]⟩, .slice none 0 0]] wr (KeepPost wr [] 50) := keep_call kK HKE.out HG.out (rev_may (by have := HIN.out; omega) (by have := HIN.out; omega)) hmc HD.out HRR.out (Nat.le_refl 0) (isSs_nil _ none)
          go_wp2_with fail
          ((with_reducible refine q_k.mono ?_); rintro e W4 ⟨Au, nu, capu, rfl, hcapu, hds_, b_⟩)
          have h_b := bch HB.out b_
          have h_D := HD.out.below b_
          have h_Du := hds_
          have HB1 := Lib.hid h_b; clear h_b
          have HD1 := Lib.hid h_D; clear h_D
          have HDu1 := Lib.hid h_Du; clear h_Du
          clear b_ hds_ q_k
          go_wp2_with fail
          go_roundw
          case rel => exact ⟨j + 1, _, A, m, cm, L, rfl, by omega, by go_num, rfl, hmc, HD1.out, HNM.out, HB1.out⟩
          case measure => simp [intOf]; omega
        · have HNE : Hid ((1 : Int) = N) := by show _ = _; rw [← HN.out]; unfold idN; rw [if_neg (by have := HLN.out; omega)]
          have hjn : ¬ (j : Int) < (len0 : Int) := by omega
          have hN1 : N = 1 := HNE.out.symm
          subst hN1
          have HKE := Lib.hid hke; clear hke
          have q_k : Calls Try.prog 11 #[.slice A m cm, .int .i64 c, .int .i64 1, .agg #[.int .i64 0, .int .i64 1, .string ⟨#[]⟩, .slice none 0 0]] wr (KeepPost wr [] 50) := keep_call kK HKE.out HG.out (rev_may (by have := HIN.out; omega) (by have := HIN.out; omega)) hmc HD.out HRR.out (Nat.le_refl 0) (isSs_nil _ none)
          go_wp2_with fail
          ((with_reducible refine q_k.mono ?_); rintro e W4 ⟨Au, nu, capu, rfl, hcapu, hds_, b_⟩)
          have h_b := bch HB.out b_
          have h_D := HD.out.below b_
          have h_Du := hds_
          have HB1 := Lib.hid h_b; clear h_b
          have HD1 := Lib.hid h_D; clear h_D
          have HDu1 := Lib.hid h_Du; clear h_Du
          clear b_ hds_ q_k
          go_wp2_with fail
          go_roundw
          case rel => exact ⟨j + 1, _, A, m, cm, L, rfl, by omega, by go_num, rfl, hmc, HD1.out, HNM.out, HB1.out⟩
          case measure => simp [intOf]; omega
      · have HM7 : Hid (ManyP ids L j) := by have := HMP.out; rw [Nat.min_eq_left (by omega)] at this; exact this
        have HMX : Hid (∀ U, ManyP ids U (j + 1) → ManyP ids U (min (j + 1) 8)) := fun U h => by rw [Nat.min_eq_left (by omega)]; exact h
        have hst := many_step HM7.out (by omega)
        obtain ⟨N, hNN⟩ : ∃ N, idN ids j = N := ⟨_, rfl⟩
        have HN := Lib.hid hNN
        obtain ⟨c, hcc⟩ : ∃ c, 10 * (9 - (j : Int)) = c := ⟨_, rfl⟩
        have hw2 : IntKind.i64.wrap (10 * (9 - (j : Int))) = c := by rw [← hcc]; exact IntWalk.i64_in _ (by omega)
        rw [hNN] at HIN HG hst
        rw [hcc] at HG hst
        clear hNN hcc
        have e8 : ((j : Int) == 8) = false := by rw [beq_eq_false_iff_ne]; omega
        have l8 : decide ((j : Int) < 8) = true := decide_eq_true (by omega)
        have l8n : decide (j < 8) = true := decide_eq_true (by omega)
        by_cases hn : j < len0
        · have HNE : Hid (1 + ((pickN (ids.getD j 0) 100 : Nat) : Int) = N) := by show _ = _; rw [← HN.out]; unfold idN; rw [if_pos (by have := HLN.out; omega)]
          have hjn : (j : Int) < (len0 : Int) := by omega
          obtain ⟨bi, oi, hAi, hbi, hci⟩ := HIS.out.2.2.2 (by omega)
          subst hAi
          have hcell := hci j (by have := HLN.out; omega)
          have hwf : (Lit.int .i64 (ids.getD j 0)).wf = true := HIS.out.2.2.1 _ (by rw [List.getD_eq_getElem?_getD, List.getElem?_eq_getElem (by have := HLN.out; omega)]; exact List.getElem_mem _)
          have p := fun W => pickN13_nat (ids.getD j 0) 100 (by omega) (by omega) hwf W
          have hwn : IntKind.i64.wrap (1 + (pickN (ids.getD j 0) 100 : Int)) = N := by rw [← HNE.out]; exact IntWalk.i64_in _ (by have := pickN_lt (ids.getD j 0) 100 (by omega); omega)
          clear hci hwf
          generalize ids.getD j 0 = z0 at *
          obtain ⟨U, hke, hmU⟩ := hst
          have HKE := Lib.hid hke; clear hke
          have HMU := Lib.hid hmU; clear hmU
          go_wp2_with fail
          ((with_reducible refine (p _).mono ?_); rintro e W_ ⟨rfl, rfl⟩)
          clear hcell p
          have q_k : Calls Try.prog 11 #[.slice A m cm, .int .i64 c, .int .i64 N, .agg #[.int .i64 0, .int .i64 N, .string ⟨#[]⟩, .slice none 0 0]] wr (KeepPost wr U 0) := keep_call kK HKE.out HG.out (rev_may (by have := HIN.out; omega) (by have := HIN.out; omega)) hmc HD.out HRR.out (Nat.le_refl 0) (isSs_nil _ none)
          go_wp2_with fail
          ((with_reducible refine q_k.mono ?_); rintro e W4 ⟨Au, nu, capu, rfl, hcapu, hds_, b_⟩)
          have h_b := bch HB.out b_
          have h_D := HD.out.below b_
          have h_Du := hds_
          have HB1 := Lib.hid h_b; clear h_b
          have HD1 := Lib.hid h_D; clear h_D
          have HDu1 := Lib.hid h_Du; clear h_Du
          clear b_ hds_ q_k
          go_wp2_with fail
          go_roundw
          case rel => exact ⟨j + 1, _, Au, nu, capu, U, rfl, by omega, by go_num, rfl, hcapu, HDu1.out, HMX.out _ HMU.out, HB1.out⟩
          case measure => simp [intOf]; omega
        · have HNE : Hid ((1 : Int) = N) := by show _ = _; rw [← HN.out]; unfold idN; rw [if_neg (by have := HLN.out; omega)]
          have hjn : ¬ (j : Int) < (len0 : Int) := by omega
          have hN1 : N = 1 := HNE.out.symm
          subst hN1
          obtain ⟨U, hke, hmU⟩ := hst
          have HKE := Lib.hid hke; clear hke
          have HMU := Lib.hid hmU; clear hmU
          have q_k : Calls Try.prog 11 #[.slice A m cm, .int .i64 c, .int .i64 1, .agg #[.int .i64 0, .int .i64 1, .string ⟨#[]⟩, .slice none 0 0]] wr (KeepPost wr U 0) := keep_call kK HKE.out HG.out (rev_may (by have := HIN.out; omega) (by have := HIN.out; omega)) hmc HD.out HRR.out (Nat.le_refl 0) (isSs_nil _ none)
          go_wp2_with fail
          ((with_reducible refine q_k.mono ?_); rintro e W4 ⟨Au, nu, capu, rfl, hcapu, hds_, b_⟩)
          have h_b := bch HB.out b_
          have h_D := HD.out.below b_
          have h_Du := hds_
          have HB1 := Lib.hid h_b; clear h_b
          have HD1 := Lib.hid h_D; clear h_D
          have HDu1 := Lib.hid h_Du; clear h_Du
          clear b_ hds_ q_k
          go_wp2_with fail
          go_roundw
          case rel => exact ⟨j + 1, _, Au, nu, capu, U, rfl, by omega, by go_num, rfl, hcapu, HDu1.out, HMX.out _ HMU.out, HB1.out⟩
          case measure => simp [intOf]; omega
    · have hj9 : j = 9 := by omega
      have HM8 : Hid (ManyP ids L 8) := by have := HMP.out; rw [hj9] at this; exact this
      have hje : ¬ (j : Int) < 9 := by omega
      have HRR : Hid (RightD L) := HMP.out.1
      have hml : m = L.length := HD.out.1
      have em : ((m : Int) == 8) = true := by rw [beq_iff_eq]; have := HM8.out.2.1; omega
      clear hlt hj9 hml
      go_wp2_with fail
      go_loopw [9] (fun iv wy => ∃ (q : Nat) (wx : World), wx = wy ∧ q ≤ 8 ∧ iv = .int .i64 q ∧ Below w.heap.size w wx ∧ IsDs wx A m L) (fun iv _ => 8 - (intOf iv).toNat)
      case atStart => exact ⟨0, _, rfl, by omega, rfl, HB.out, HD.out⟩
      case round =>
        obtain ⟨q, wx, rfl, hq, rfl, hb, hdx⟩ := hrel
        have HBX := Lib.hid hb; clear hb
        have HDX := Lib.hid hdx; clear hdx
        by_cases hlt : q < 8
        · have hq8 : (q : Int) < 8 := by omega
          have hq0 : (0 : Int) ≤ (q : Int) := by omega
          have HIN := Lib.hid (idN_in ids q)
          have hw1 : IntKind.i64.wrap (9 - (q : Int)) = 9 - (q : Int) := IntWalk.i64_in _ (by omega)
          have HG : Hid (GoodC (10 * (9 - (q : Int))) (idN ids q)) := many_good (ids := ids) (k := q) (by omega) ⟨HIN.out.1, by have := HIN.out; omega⟩
          have HG2 : Hid (GoodC (10 * (9 - (q : Int))) (idN ids q + 1)) := many_good (ids := ids) (k := q) (by omega) ⟨by have := HIN.out; omega, by have := HIN.out; omega⟩
          have HIS : Hid (IsNs wx a0 len0 ids) := HI.out.below HBX.out
          obtain ⟨k1, k2⟩ := many_look HM8.out hlt
          obtain ⟨N, hNN⟩ : ∃ N, idN ids q = N := ⟨_, rfl⟩
          have HN := Lib.hid hNN
          obtain ⟨c, hcc⟩ : ∃ c, 10 * (9 - (q : Int)) = c := ⟨_, rfl⟩
          have hw2 : IntKind.i64.wrap (10 * (9 - (q : Int))) = c := by rw [← hcc]; exact IntWalk.i64_in _ (by omega)
          rw [hNN] at HIN HG HG2 k1 k2
          rw [hcc] at HG HG2 k1 k2
          clear hNN hcc
          have hwN : IntKind.i64.wrap (N + 1) = N + 1 := IntWalk.i64_in _ (by have := HIN.out; omega)
          have K1 := Lib.hid k1; clear k1
          have K2 := Lib.hid k2; clear k2
          by_cases hn : q < len0
          · have HNE : Hid (1 + ((pickN (ids.getD q 0) 100 : Nat) : Int) = N) := by show _ = _; rw [← HN.out]; unfold idN; rw [if_pos (by have := HLN.out; omega)]
            have hqn : (q : Int) < (len0 : Int) := by omega
            obtain ⟨bi, oi, hAi, hbi, hci⟩ := HIS.out.2.2.2 (by omega)
            subst hAi
            have hcell := hci q (by have := HLN.out; omega)
            have hwf : (Lit.int .i64 (ids.getD q 0)).wf = true := HIS.out.2.2.1 _ (by rw [List.getD_eq_getElem?_getD, List.getElem?_eq_getElem (by have := HLN.out; omega)]; exact List.getElem_mem _)
            have p := fun W => pickN13_nat (ids.getD q 0) 100 (by omega) (by omega) hwf W
            have hwn : IntKind.i64.wrap (1 + (pickN (ids.getD q 0) 100 : Int)) = N := by rw [← HNE.out]; exact IntWalk.i64_in _ (by have := pickN_lt (ids.getD q 0) 100 (by omega); omega)
            clear hci hwf
            generalize ids.getD q 0 = z0 at *
            go_wp2_with fail
            ((with_reducible refine (p _).mono ?_); rintro e W_ ⟨rfl, rfl⟩)
            clear hcell p
            have q_l : Calls Try.prog 12 #[.slice A m cm, .int .i64 c, .int .i64 N] wx (fun e w' => ∃ K k kc, e = .returned (.tuple #[.agg #[.int .i64 0, .int .i64 N, .string ⟨#[]⟩, .slice K k kc], .int .i64 0]) ∧ k ≤ kc ∧ IsSs w' K k [] ∧ Below wx.heap.size wx w') := look_call kL K1.out HG.out hmc HDX.out HRR.out
            go_wp2_with fail
            ((with_reducible refine q_l.mono ?_); rintro e W4 ⟨Ky, ky, kcy, rfl, hkcy, hss_, b_⟩)
            go_upto_region 21 with fail
            have h_b := (bch HBX.out b_).alloc (bch HBX.out b_).size (.cells #[.int .i64 0, .int .i64 N, .string ⟨#[]⟩, .slice Ky ky kcy] 31)
            have h_D := (HDX.out.below b_).below ((Below.refl _ _).alloc (Nat.le_refl _) (.cells #[.int .i64 0, .int .i64 N, .string ⟨#[]⟩, .slice Ky ky kcy] 31))
            have h_By := Blk.new W4 (.cells #[.int .i64 0, .int .i64 N, .string ⟨#[]⟩, .slice Ky ky kcy] 31)
            have h_Sy := IsSs.below hss_ ((Below.refl _ _).alloc (Nat.le_refl _) (.cells #[.int .i64 0, .int .i64 N, .string ⟨#[]⟩, .slice Ky ky kcy] 31))
            obtain ⟨V_W4, hV_⟩ : ∃ W, W4.alloc (.cells #[.int .i64 0, .int .i64 N, .string ⟨#[]⟩, .slice Ky ky kcy] 31) = W := ⟨_, rfl⟩
            rw [hV_] at h_b h_D h_By h_Sy ⊢
            clear hV_
            have HB1 := Lib.hid h_b; clear h_b
            have HD1 := Lib.hid h_D; clear h_D
            have HBy1 := Lib.hid h_By; clear h_By
            have HSy1 := Lib.hid h_Sy; clear h_Sy
            clear b_ hss_ q_l
            have q_l : Calls Try.prog 12 #[.slice A m cm, .int .i64 c, .int .i64 (N + 1)] V_W4 (fun e w' => ∃ K k kc, e = .returned (.tuple #[.agg #[.int .i64 0, .int .i64 0, .string ⟨#[]⟩, .slice K k kc], .int .i64 70]) ∧ k ≤ kc ∧ IsSs w' K k [] ∧ Below V_W4.heap.size V_W4 w') := look_call kL K2.out HG2.out hmc HD1.out HRR.out
            go_wp2_with fail
            ((with_reducible refine q_l.mono ?_); rintro e W5 ⟨Ku, ku, kcu, rfl, hkcu, hss_, b_⟩)
            go_upto_region 22 with fail
            have h_b := (bch HB1.out b_).alloc (bch HB1.out b_).size (.cells #[.int .i64 0, .int .i64 0, .string ⟨#[]⟩, .slice Ku ku kcu] 31)
            have h_D := (HD1.out.below b_).below ((Below.refl _ _).alloc (Nat.le_refl _) (.cells #[.int .i64 0, .int .i64 0, .string ⟨#[]⟩, .slice Ku ku kcu] 31))
            have h_By := (HBy1.out.below b_).below ((Below.refl _ _).alloc (Nat.le_refl _) (.cells #[.int .i64 0, .int .i64 0, .string ⟨#[]⟩, .slice Ku ku kcu] 31))
            obtain ⟨V_W5, hV_⟩ : ∃ W, W5.alloc (.cells #[.int .i64 0, .int .i64 0, .string ⟨#[]⟩, .slice Ku ku kcu] 31) = W := ⟨_, rfl⟩
            rw [hV_] at h_b h_D h_By ⊢
            clear hV_
            have HB2 := Lib.hid h_b; clear h_b
            have HD2 := Lib.hid h_D; clear h_D
            have HBy2 := Lib.hid h_By; clear h_By
            clear b_ hss_ q_l
            have y0 := Blk.cell HBy2.out 0
            have y1 := Blk.cell HBy2.out 1
            simp only [List.getElem?_toArray, List.getElem?_cons_zero, List.getElem?_cons_succ] at y0 y1
            go_wp2_with fail
            go_roundw
            case rel => exact ⟨q + 1, _, rfl, by omega, by go_num, HB2.out, HD2.out⟩
            case measure => simp [intOf]; omega
          · have HNE : Hid ((1 : Int) = N) := by show _ = _; rw [← HN.out]; unfold idN; rw [if_neg (by have := HLN.out; omega)]
            have hqn : ¬ (q : Int) < (len0 : Int) := by omega
            have hN1 : N = 1 := HNE.out.symm
            subst hN1
            have q_l : Calls Try.prog 12 #[.slice A m cm, .int .i64 c, .int .i64 1] wx (fun e w' => ∃ K k kc, e = .returned (.tuple #[.agg #[.int .i64 0, .int .i64 1, .string ⟨#[]⟩, .slice K k kc], .int .i64 0]) ∧ k ≤ kc ∧ IsSs w' K k [] ∧ Below wx.heap.size wx w') := look_call kL K1.out HG.out hmc HDX.out HRR.out
            go_wp2_with fail
            ((with_reducible refine q_l.mono ?_); rintro e W4 ⟨Ky, ky, kcy, rfl, hkcy, hss_, b_⟩)
            go_upto_region 21 with fail
            have h_b := (bch HBX.out b_).alloc (bch HBX.out b_).size (.cells #[.int .i64 0, .int .i64 1, .string ⟨#[]⟩, .slice Ky ky kcy] 31)
            have h_D := (HDX.out.below b_).below ((Below.refl _ _).alloc (Nat.le_refl _) (.cells #[.int .i64 0, .int .i64 1, .string ⟨#[]⟩, .slice Ky ky kcy] 31))
            have h_By := Blk.new W4 (.cells #[.int .i64 0, .int .i64 1, .string ⟨#[]⟩, .slice Ky ky kcy] 31)
            have h_Sy := IsSs.below hss_ ((Below.refl _ _).alloc (Nat.le_refl _) (.cells #[.int .i64 0, .int .i64 1, .string ⟨#[]⟩, .slice Ky ky kcy] 31))
            obtain ⟨V_W4, hV_⟩ : ∃ W, W4.alloc (.cells #[.int .i64 0, .int .i64 1, .string ⟨#[]⟩, .slice Ky ky kcy] 31) = W := ⟨_, rfl⟩
            rw [hV_] at h_b h_D h_By h_Sy ⊢
            clear hV_
            have HB1 := Lib.hid h_b; clear h_b
            have HD1 := Lib.hid h_D; clear h_D
            have HBy1 := Lib.hid h_By; clear h_By
            have HSy1 := Lib.hid h_Sy; clear h_Sy
            clear b_ hss_ q_l
            have q_l : Calls Try.prog 12 #[.slice A m cm, .int .i64 c, .int .i64 2] V_W4 (fun e w' => ∃ K k kc, e = .returned (.tuple #[.agg #[.int .i64 0, .int .i64 0, .string ⟨#[]⟩, .slice K k kc], .int .i64 70]) ∧ k ≤ kc ∧ IsSs w' K k [] ∧ Below V_W4.heap.size V_W4 w') := look_call kL K2.out HG2.out hmc HD1.out HRR.out
            go_wp2_with fail
            ((with_reducible refine q_l.mono ?_); rintro e W5 ⟨Ku, ku, kcu, rfl, hkcu, hss_, b_⟩)
            go_upto_region 22 with fail
            have h_b := (bch HB1.out b_).alloc (bch HB1.out b_).size (.cells #[.int .i64 0, .int .i64 0, .string ⟨#[]⟩, .slice Ku ku kcu] 31)
            have h_D := (HD1.out.below b_).below ((Below.refl _ _).alloc (Nat.le_refl _) (.cells #[.int .i64 0, .int .i64 0, .string ⟨#[]⟩, .slice Ku ku kcu] 31))
            have h_By := (HBy1.out.below b_).below ((Below.refl _ _).alloc (Nat.le_refl _) (.cells #[.int .i64 0, .int .i64 0, .string ⟨#[]⟩, .slice Ku ku kcu] 31))
            obtain ⟨V_W5, hV_⟩ : ∃ W, W5.alloc (.cells #[.int .i64 0, .int .i64 0, .string ⟨#[]⟩, .slice Ku ku kcu] 31) = W := ⟨_, rfl⟩
            rw [hV_] at h_b h_D h_By ⊢
            clear hV_
            have HB2 := Lib.hid h_b; clear h_b
            have HD2 := Lib.hid h_D; clear h_D
            have HBy2 := Lib.hid h_By; clear h_By
            clear b_ hss_ q_l
            have y0 := Blk.cell HBy2.out 0
            have y1 := Blk.cell HBy2.out 1
            simp only [List.getElem?_toArray, List.getElem?_cons_zero, List.getElem?_cons_succ] at y0 y1
            go_wp2_with fail
            go_roundw
            case rel => exact ⟨q + 1, _, rfl, by omega, by go_num, HB2.out, HD2.out⟩
            case measure => simp [intOf]; omega
        · have hqe : ¬ (q : Int) < 8 := by omega
          have q_r := right_call kR HRR.out hmc HDX.out
          clear hlt
          go_wp2_with fail
          ((with_reducible refine q_r.mono ?_); rintro e W9 ⟨rfl, b_⟩)
          have HBZ := Lib.hid (bch HBX.out b_); clear b_ q_r
          go_wp2_with fail
          go_ret
          exact ⟨rfl, HBZ.out⟩
end Go.Proofs.Ytgckoihangccbaa
