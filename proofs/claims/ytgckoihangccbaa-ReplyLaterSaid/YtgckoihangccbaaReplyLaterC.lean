import Derived.Test.YtgckoihangccbaaRpLaw
import Derived.Test.YtgckoihangccbaaInts
/-
  The walk of the law ReplyLater, over what is asked of the program (stage 13).
-/
namespace Go.Proofs.Ytgckoihangccbaa
open Go.RowKit
set_option linter.unusedVariables false
set_option linter.unusedSimpArgs false

/-- What is kept behind calls of client 4 whose greatest one is la. -/
def stL (la : Int) : List DnR := if la = 0 then [] else [⟨4, la, revP la⟩]
theorem stL_look {la q : Int} : lookD (stL la) q = if la ≠ 0 ∧ q = 4 then some ⟨4, la, revP la⟩ else none := by
  unfold stL
  by_cases h : la = 0
  · rw [if_pos h, if_neg (fun e => e.1 h)]; rfl
  · rw [if_neg h]
    by_cases h2 : q = 4
    · subst h2; rw [if_pos ⟨h, rfl⟩]; simp [lookD]
    · rw [if_neg (fun e => h2 e.2)]
      exact lookD_none.2 fun d hd e => by rw [List.mem_singleton.1 hd] at e; exact h2 e.symm
theorem stL_right {la : Int} (h : 0 ≤ la ∧ la ≤ 30) : RightD (stL la) := by
  unfold stL
  split
  · exact rightD_nil
  · refine ⟨fun d hd => ?_, List.pairwise_singleton _ _, by simp⟩
    rw [List.mem_singleton.1 hd]
    exact ⟨rev_may (by omega) (by omega), goodC_of (c := 4) (i := la) (by omega) (by omega) (by omega) (by omega)⟩
theorem later_good {n : Int} (h : 1 ≤ n ∧ n ≤ 30) : GoodC 4 n := goodC_of (by omega) (by omega) h.1 (by omega)
theorem later_new {la n : Int} (h : 0 ≤ la ∧ la ≤ 30) (hn : 1 ≤ n ∧ n ≤ 30) (hl : la < n) : keepL (stL la) 4 n (revP n) = (stL n, 0) := by
  rcases keep_new2 (l := stL la) (c := 4) (i := n) (r := revP n) (stL_right h) (later_good hn) (rev_may (by omega) (by omega)) (fun d hd => by
    rw [stL_look] at hd
    split at hd
    · cases hd; exact hl
    · cases hd) with ⟨h8, _, _⟩ | ⟨U, hU, hE, _⟩
  · unfold stL at h8; split at h8 <;> simp at h8
  · rw [hU]
    have : U = stL n := lookD_ext hE.1.2.1 (stL_right (la := n) ⟨by omega, by omega⟩).2.1 fun q => by
      rw [hE.2.1, stL_look, stL_look]
      by_cases h2 : q = 4
      · rw [if_pos h2, if_pos ⟨by omega, h2⟩]
      · rw [if_neg h2, if_neg (fun e => h2 e.2), if_neg (fun e => h2 e.2)]
    rw [this]
theorem later_old {la n : Int} (h : 0 ≤ la ∧ la ≤ 30) (hn : 1 ≤ n ∧ n ≤ 30) (hl : n ≤ la) : keepL (stL la) 4 n (revP n) = ([], if n = la then 1 else 81) :=
  keep_old (r := revP n) (d := ⟨4, la, revP la⟩) (stL_right h) (later_good hn) (by rw [stL_look, if_pos ⟨by omega, rfl⟩]) hl (rev_may (by omega) (by omega))
theorem later_look {la : Int} (h : 0 ≤ la ∧ la ≤ 30) (hl : la ≠ 0) : lookL (stL la) 4 la = (revP la, 0) :=
  (look_some (l := stL la) (c := 4) (i := la) (stL_right h) (later_good ⟨by omega, by omega⟩) (d := ⟨4, la, revP la⟩) (by rw [stL_look, if_pos ⟨hl, rfl⟩])).2.2 rfl
set_option maxRecDepth 100000 in
set_option maxHeartbeats 8000000 in
theorem replyLater_core (kK : KeepQ) (kL : LookQ) (kR : RightQ13) (kS : SameQ13) (kA : SameAllQ) (a0 : Option Addr) (len0 cap0 : Nat) (zs : List Int) (w : World) (h0 : IsRow .i64 w a0 len0 cap0 zs) :
    Calls Try.prog 6 #[.slice a0 len0 cap0] w fun e w' => e = .returned (.bool true) ∧ Below w.heap.size w w' := by
  obtain ⟨_, hns0⟩ := h0.isNs
  generalize zs.take len0 = ids at *
  clear h0
  have hl9 := hns0.2.1
  unfold maxLen at hl9
  have HLN : Hid (len0 = ids.length) := hns0.1
  have HI := Lib.hid hns0; clear hns0
  go_enter Try.func6, Try.ntmps6
  have q_aw := fun W => awake13_any kK kL kR kS kA W
  go_wp2_with fail
  ((with_reducible refine (q_aw _).mono ?_); rintro e W1 ⟨rfl, b_⟩)
  clear q_aw
  have HB1 := Lib.hid b_; clear b_
  go_wp2_with fail
  go_loopw [4, 5, 6] (fun lv av iv wy => ∃ (j : Nat) (wr : World) (A : Option Addr) (m cm : Nat) (la : Int), wr = wy ∧ j ≤ len0 ∧ j ≤ 20 ∧ iv = .int .i64 j ∧ av = .int .i64 la ∧ lv = .slice A m cm ∧ m ≤ cm ∧ Hid (0 ≤ la ∧ la ≤ 30) ∧ IsDs wr A m (stL la) ∧ Below w.heap.size w wr) (fun _ _ iv _ => 20 - (intOf iv).toNat)
  case atStart => exact ⟨0, _, none, 0, 0, 0, rfl, by omega, by omega, rfl, rfl, rfl, Nat.le_refl _, ⟨by omega, by omega⟩, isDs_nil _ _, HB1.out⟩
  case round =>
    obtain ⟨j, wr, A, m, cm, la, rfl, hj, hj20, rfl, rfl, rfl, hmc, HLA, hds, hb⟩ := hrel
    have HB := Lib.hid hb; clear hb
    have HD := Lib.hid hds; clear hds
    have HRR := Lib.hid (stL_right HLA.out)
    by_cases hlt : j < len0 ∧ j < 20
    · obtain ⟨hjn, hj2⟩ := hlt
      have hji : (j : Int) < (len0 : Int) := by omega
      have hj3 : (j : Int) < 20 := by omega
      have hj0 : (0 : Int) ≤ (j : Int) := by omega
      have HIS : Hid (IsNs wr a0 len0 ids) := HI.out.below HB.out
      obtain ⟨bi, oi, hAi, hbi, hci⟩ := HIS.out.2.2.2 (by omega)
      subst hAi
      have hcell := hci j (by have := HLN.out; omega)
      have hwf : (Lit.int .i64 (ids.getD j 0)).wf = true := HIS.out.2.2.1 _ (by rw [List.getD_eq_getElem?_getD, List.getElem?_eq_getElem (by have := HLN.out; omega)]; exact List.getElem_mem _)
      have p := fun W => pickN13_nat (ids.getD j 0) 30 (by omega) (by omega) hwf W
      have hpl := pickN_lt (ids.getD j 0) 30 (by omega)
      clear hci hwf
      generalize ids.getD j 0 = z0 at *
      generalize pickN z0 30 = i3 at *
      obtain ⟨N, hNN⟩ : ∃ N : Int, 1 + (i3 : Int) = N := ⟨_, rfl⟩
      have hwn : IntKind.i64.wrap (1 + (i3 : Int)) = N := by rw [← hNN]; exact IntWalk.i64_in _ (by omega)
      have HNB : Hid (1 ≤ N ∧ N ≤ 30) := ⟨by omega, by omega⟩
      clear hpl hNN
      go_wp2_with fail
      ((with_reducible refine (p _).mono ?_); rintro e W_ ⟨rfl, rfl⟩)
      clear hcell p
      by_cases hgt : la < N
      · have HK := Lib.hid (later_new HLA.out HNB.out hgt)
        have g1 : decide (la < N) = true := decide_eq_true hgt
        clear hgt
        have q_k : Calls Try.prog 11 #[.slice A m cm, .int .i64 4, .int .i64 N, .agg #[.int .i64 0, .int .i64 N, .string ⟨#[]⟩, .slice none 0 0]] wr (KeepPost wr (stL N) 0) := keep_call kK HK.out (later_good HNB.out) (rev_may (by have := HNB.out; omega) (by have := HNB.out; omega)) hmc HD.out HRR.out (Nat.le_refl 0) (isSs_nil _ none)
        go_wp2_with fail
        ((with_reducible refine q_k.mono ?_); rintro e W4 ⟨Au, nu, capu, rfl, hcapu, hds_, b_⟩)
        have h_b := bch HB.out b_
        have h_D := HD.out.below b_
        have h_Du := hds_
        have HB1 := Lib.hid h_b; clear h_b
        have HD1 := Lib.hid h_D; clear h_D
        have HDu1 := Lib.hid h_Du; clear h_Du
        clear b_ hds_ q_k
        have hn1 : nu = 1 := by have := HDu1.out.1; unfold stL at this; rw [if_neg (by have := HNB.out; omega)] at this; exact this
        subst hn1
        go_wp2_with fail
        go_roundw
        case rel => exact ⟨j + 1, _, Au, 1, capu, N, rfl, by omega, by omega, by go_num, rfl, rfl, hcapu, ⟨by have := HNB.out; omega, HNB.out.2⟩, HDu1.out, HB1.out⟩
        case measure => simp [intOf]; omega
      by_cases heq : N = la
      · have HK : Hid (keepL (stL la) 4 N (revP N) = ([], 1)) := by have := later_old HLA.out HNB.out (by omega); rw [if_pos heq] at this; exact this
        have g1 : decide (la < N) = false := decide_eq_false (by omega)
        have g2 : (N == la) = true := by rw [beq_iff_eq]; exact heq
        clear heq
        clear hgt
        have q_k : Calls Try.prog 11 #[.slice A m cm, .int .i64 4, .int .i64 N, .agg #[.int .i64 0, .int .i64 N, .string ⟨#[]⟩, .slice none 0 0]] wr (KeepPost wr [] 1) := keep_call kK HK.out (later_good HNB.out) (rev_may (by have := HNB.out; omega) (by have := HNB.out; omega)) hmc HD.out HRR.out (Nat.le_refl 0) (isSs_nil _ none)
        go_wp2_with fail
        ((with_reducible refine q_k.mono ?_); rintro e W4 ⟨Au, nu, capu, rfl, hcapu, hds_, b_⟩)
        have h_b := bch HB.out b_
        have h_D := HD.out.below b_
        have h_Du := hds_
        have HB1 := Lib.hid h_b; clear h_b
        have HD1 := Lib.hid h_D; clear h_D
        have HDu1 := Lib.hid h_Du; clear h_Du
        clear b_ hds_ q_k
        go_wp2_with fail
        go_roundw
        case rel => exact ⟨j + 1, _, A, m, cm, la, rfl, by omega, by omega, by go_num, rfl, rfl, hmc, HLA, HD1.out, HB1.out⟩
        case measure => simp [intOf]; omega
      · have HK : Hid (keepL (stL la) 4 N (revP N) = ([], 81)) := by have := later_old HLA.out HNB.out (by omega); rw [if_neg heq] at this; exact this
        have g1 : decide (la < N) = false := decide_eq_false (by omega)
        have g2 : (N == la) = false := by rw [beq_eq_false_iff_ne]; exact heq
        clear heq
        clear hgt
        have q_k : Calls Try.prog 11 #[.slice A m cm, .int .i64 4, .int .i64 N, .agg #[.int .i64 0, .int .i64 N, .string ⟨#[]⟩, .slice none 0 0]] wr (KeepPost wr [] 81) := keep_call kK HK.out (later_good HNB.out) (rev_may (by have := HNB.out; omega) (by have := HNB.out; omega)) hmc HD.out HRR.out (Nat.le_refl 0) (isSs_nil _ none)
        go_wp2_with fail
        ((with_reducible refine q_k.mono ?_); rintro e W4 ⟨Au, nu, capu, rfl, hcapu, hds_, b_⟩)
        have h_b := bch HB.out b_
        have h_D := HD.out.below b_
        have h_Du := hds_
        have HB1 := Lib.hid h_b; clear h_b
        have HD1 := Lib.hid h_D; clear h_D
        have HDu1 := Lib.hid h_Du; clear h_Du
        clear b_ hds_ q_k
        go_wp2_with fail
        go_roundw
        case rel => exact ⟨j + 1, _, A, m, cm, la, rfl, by omega, by omega, by go_num, rfl, rfl, hmc, HLA, HD1.out, HB1.out⟩
        case measure => simp [intOf]; omega
    · have hcond : ¬ (j : Int) < (len0 : Int) ∨ ¬ (j : Int) < 20 := by omega
      have hml : m = (stL la).length := HD.out.1
      have hc2 : (decide ((j : Int) < (len0 : Int)) = true ∧ decide ((j : Int) < 20) = false) ∨ decide ((j : Int) < (len0 : Int)) = false := by
        rcases (by omega : j < len0 ∧ ¬ j < 20 ∨ ¬ j < len0) with ⟨h1, h2⟩ | h1
        · exact .inl ⟨decide_eq_true (by omega), decide_eq_false (by omega)⟩
        · exact .inr (decide_eq_false (by omega))
      have hc3 : (decide (j < len0) = true ∧ decide (j < 20) = false) ∨ decide (j < len0) = false := by
        rcases (by omega : j < len0 ∧ ¬ j < 20 ∨ ¬ j < len0) with ⟨h1, h2⟩ | h1
        · exact .inl ⟨decide_eq_true (by omega), decide_eq_false (by omega)⟩
        · exact .inr (decide_eq_false (by omega))
      clear hcond
      have HC2 := Lib.hid hc2; clear hc2
      have HC3 := Lib.hid hc3; clear hc3
      have HLT := Lib.hid hlt; clear hlt
      by_cases hz : la = 0
      · subst hz
        have hm0 : m = 0 := hml
        subst hm0
        clear hml
        by_cases hjn : j < len0
        · have h1 : (j : Int) < (len0 : Int) := by omega
          have h2 : ¬ (j : Int) < 20 := by have := HLT.out; omega
          go_wp2_with fail
          go_ret
          exact ⟨rfl, HB.out⟩
        · have h1 : ¬ (j : Int) < (len0 : Int) := by omega
          go_wp2_with fail
          go_ret
          exact ⟨rfl, HB.out⟩
      · have ez : (la == 0) = false := by rw [beq_eq_false_iff_ne]; exact hz
        have HK := Lib.hid (later_look HLA.out hz)
        have HG : Hid (GoodC 4 la) := later_good ⟨by have := HLA.out; omega, HLA.out.2⟩
        clear hz hml
        by_cases hjn : j < len0
        · have h1 : (j : Int) < (len0 : Int) := by omega
          have h2 : ¬ (j : Int) < 20 := by have := HLT.out; omega
          have q_l : Calls Try.prog 12 #[.slice A m cm, .int .i64 4, .int .i64 la] wr (fun e w' => ∃ K k kc, e = .returned (.tuple #[.agg #[.int .i64 0, .int .i64 la, .string ⟨#[]⟩, .slice K k kc], .int .i64 0]) ∧ k ≤ kc ∧ IsSs w' K k [] ∧ Below wr.heap.size wr w') := look_call kL HK.out HG.out hmc HD.out HRR.out
          go_wp2_with fail
          ((with_reducible refine q_l.mono ?_); rintro e W4 ⟨Ky, ky, kcy, rfl, hkcy, hss_, b_⟩)
          go_upto_region 22 with fail
          have h_b := (bch HB.out b_).alloc (bch HB.out b_).size (.cells #[.int .i64 0, .int .i64 la, .string ⟨#[]⟩, .slice Ky ky kcy] 31)
          have h_D := (HD.out.below b_).below ((Below.refl _ _).alloc (Nat.le_refl _) (.cells #[.int .i64 0, .int .i64 la, .string ⟨#[]⟩, .slice Ky ky kcy] 31))
          have h_By := Blk.new W4 (.cells #[.int .i64 0, .int .i64 la, .string ⟨#[]⟩, .slice Ky ky kcy] 31)
          have h_Sy := IsSs.below hss_ ((Below.refl _ _).alloc (Nat.le_refl _) (.cells #[.int .i64 0, .int .i64 la, .string ⟨#[]⟩, .slice Ky ky kcy] 31))
          obtain ⟨V_W4, hV_⟩ : ∃ W, W4.alloc (.cells #[.int .i64 0, .int .i64 la, .string ⟨#[]⟩, .slice Ky ky kcy] 31) = W := ⟨_, rfl⟩
          rw [hV_] at h_b h_D h_By h_Sy ⊢
          clear hV_
          have HB1 := Lib.hid h_b; clear h_b
          have HD1 := Lib.hid h_D; clear h_D
          have HBy1 := Lib.hid h_By; clear h_By
          have HSy1 := Lib.hid h_Sy; clear h_Sy
          clear b_ hss_ q_l
          have y0 := Blk.cell HBy1.out 0
          have y1 := Blk.cell HBy1.out 1
          simp only [List.getElem?_toArray, List.getElem?_cons_zero, List.getElem?_cons_succ] at y0 y1
          go_wp2_with fail
          go_ret
          exact ⟨rfl, HB1.out⟩
        · have h1 : ¬ (j : Int) < (len0 : Int) := by omega
          have q_l : Calls Try.prog 12 #[.slice A m cm, .int .i64 4, .int .i64 la] wr (fun e w' => ∃ K k kc, e = .returned (.tuple #[.agg #[.int .i64 0, .int .i64 la, .string ⟨#[]⟩, .slice K k kc], .int .i64 0]) ∧ k ≤ kc ∧ IsSs w' K k [] ∧ Below wr.heap.size wr w') := look_call kL HK.out HG.out hmc HD.out HRR.out
          go_wp2_with fail
          ((with_reducible refine q_l.mono ?_); rintro e W4 ⟨Ky, ky, kcy, rfl, hkcy, hss_, b_⟩)
          go_upto_region 22 with fail
          have h_b := (bch HB.out b_).alloc (bch HB.out b_).size (.cells #[.int .i64 0, .int .i64 la, .string ⟨#[]⟩, .slice Ky ky kcy] 31)
          have h_D := (HD.out.below b_).below ((Below.refl _ _).alloc (Nat.le_refl _) (.cells #[.int .i64 0, .int .i64 la, .string ⟨#[]⟩, .slice Ky ky kcy] 31))
          have h_By := Blk.new W4 (.cells #[.int .i64 0, .int .i64 la, .string ⟨#[]⟩, .slice Ky ky kcy] 31)
          have h_Sy := IsSs.below hss_ ((Below.refl _ _).alloc (Nat.le_refl _) (.cells #[.int .i64 0, .int .i64 la, .string ⟨#[]⟩, .slice Ky ky kcy] 31))
          obtain ⟨V_W4, hV_⟩ : ∃ W, W4.alloc (.cells #[.int .i64 0, .int .i64 la, .string ⟨#[]⟩, .slice Ky ky kcy] 31) = W := ⟨_, rfl⟩
          rw [hV_] at h_b h_D h_By h_Sy ⊢
          clear hV_
          have HB1 := Lib.hid h_b; clear h_b
          have HD1 := Lib.hid h_D; clear h_D
          have HBy1 := Lib.hid h_By; clear h_By
          have HSy1 := Lib.hid h_Sy; clear h_Sy
          clear b_ hss_ q_l
          have y0 := Blk.cell HBy1.out 0
          have y1 := Blk.cell HBy1.out 1
          simp only [List.getElem?_toArray, List.getElem?_cons_zero, List.getElem?_cons_succ] at y0 y1
          go_wp2_with fail
          go_ret
          exact ⟨rfl, HB1.out⟩
end Go.Proofs.Ytgckoihangccbaa
