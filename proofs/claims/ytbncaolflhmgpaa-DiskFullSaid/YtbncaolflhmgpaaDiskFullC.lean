import Derived.Test.YtbncaolflhmgpaaDiskStepsC
/-
  So many bytes as there may be are appended, and swapped, one more is not: the walk of DiskFull, over what is asked of the program (stage 7).
-/
namespace Go.Proofs.Ytbncaolflhmgpaa
open Go.RowKit
set_option linter.unusedVariables false

/-- How many bytes a text has. -/
def szV : Value → Nat
  | .string s => s.size
  | _ => 0

set_option maxRecDepth 100000 in
set_option maxHeartbeats 8000000 in
theorem diskFull_core (hL : LogC) (hA : AppC) (hY : SyncC) (hC : CrashC) (hP : SwapC) (n : Int) (s : ByteArray) (w : World)
    (hn : (Lit.int .i64 n).wf = true) (hs : s.size ≤ 140737488351232) :
    Calls Try.prog 5 #[.int .i64 n, .string s] w fun e w' => e = .returned (.bool true) ∧ Below w.heap.size w w' := by
  have qw := awake7_any hL hA hY hC hP
  obtain ⟨m0, i0', k0, l0⟩ := leastD s 100
  have i0 : (if (100 : Int) < (s.size : Int) then (100 : Int) else (s.size : Int)) = (m0 : Int) := i0'
  clear i0'
  obtain ⟨t, ht⟩ : ∃ t, s.extract 0 m0 = t := ⟨_, rfl⟩
  have zt : t.size ≤ 100 := by rw [← ht, ext_size s k0]; exact l0
  have s0 := fun W => slice_to ht k0 W
  have j0 : (m0 : Int) ≤ (s.size : Int) := by omega
  clear ht l0
  have qp := pickK_nat n 3 (by omega) (by omega) hn
  have hp3 := pickN_lt n 3 (by omega)
  generalize pickN n 3 = p at qp hp3
  obtain ⟨k, hk⟩ : ∃ k : Nat, p + 99999 = k := ⟨_, rfl⟩
  have hk1 : (p : Int) + 99999 = (k : Int) := by omega
  have hk2 : IntKind.i64.wrap (k : Int) = (k : Int) := IntWalk.i64_in _ (by omega)
  have hkl : k ≤ 100001 ∧ 99999 ≤ k := by omega
  have HK := Lib.hid hkl
  have HT := Lib.hid zt; clear zt
  have HN := Lib.hid hn; clear hn hk
  have HA := Lib.hid hA; clear hA
  have HY := Lib.hid hY; clear hY
  have HL := Lib.hid hL; clear hL
  have HP := Lib.hid hP; clear hP
  clear hC hkl hp3
  have HB0 := Lib.hid (Below.refl w.heap.size w)
  go_enter Try.func5, Try.ntmps5
  go_wp2_with fail
  ((with_reducible refine (qw _).mono ?_); rintro e W1 ⟨rfl, b1⟩)
  have HB2 := Lib.hid b1; clear b1 HB0
  go_wp2_with fail
  go_loop [6] (fun v => ∃ B : ByteArray, v = .string B ∧ 16 ≤ B.size ∧ B.size ≤ 200003) (fun v => 200004 - szV v)
  case atStart => exact ⟨_, rfl, by decide, by decide⟩
  case round =>
    obtain ⟨B, rfl, z1, z2⟩ := hrel
    by_cases hlt : B.size < 100002
    · obtain ⟨B2, hB2⟩ : ∃ x, B ++ B = x := ⟨_, rfl⟩
      have zB2 : B2.size = B.size + B.size := by rw [← hB2]; exact ByteArray.size_append
      have hadd : ∀ W : World, (Op.stringOp .add B B).run Try.prog W = .ok (.string B2) W := fun W => by rw [← hB2]; exact str_add (by omega) W
      have HZ := Lib.hid zB2; clear zB2 hB2
      have dl1 : decide ((B.size : Int) < 100002) = true := decide_eq_true (by omega)
      have dl2 : decide (B.size < 100002) = true := decide_eq_true (by omega)
      have HZ1 := Lib.hid z1; clear z1
      have HZ2 := Lib.hid z2; clear z2
      have HLT := Lib.hid hlt; clear hlt
      go_wp2_with fail
      go_round
      case rel => exact ⟨B2, rfl, by have := HZ.out; have := HZ1.out; omega, by have := HZ.out; have := HLT.out; omega⟩
      case measure => show 200004 - B2.size < 200004 - B.size; have := HZ.out; have := HZ1.out; have := HZ2.out; omega
    · obtain ⟨T, hT⟩ : ∃ x, B.extract 0 k = x := ⟨_, rfl⟩
      have hkk := HK.out
      have htt := HT.out
      have zT : T.size = k := by rw [← hT]; exact ext_size B (by omega)
      have sT := fun W => slice_to hT (by omega) W
      have f1 : (if (B.size : Int) < (k : Int) then (B.size : Int) else (k : Int)) = (k : Int) := if_neg (by omega)
      have f2 : (if B.size < k then (B.size : Int) else (k : Int)) = (k : Int) := if_neg (by omega)
      have g1 : (k : Int) ≤ (B.size : Int) := by omega
      have dl1 : decide ((B.size : Int) < 100002) = false := decide_eq_false (by omega)
      have dl2 : decide (B.size < 100002) = false := decide_eq_false (by omega)
      have g2 : (0 : Int) ≤ (k : Int) := by omega
      have hgu := guardDk
      by_cases hA1 : k ≤ 100000
      · have q1 := fun W => HA.out.ok (a := ⟨#[]⟩) (b := ⟨#[]⟩) (nil_app T) (show 0 + 0 + T.size ≤ 100000 by omega) W
        have q2 := fun W => HP.out.ok (a := ⟨#[]⟩) (b := t) (c := ⟨#[]⟩) (s := T) (by omega) W
        have q3 := fun W => HY.out.at (a := ⟨#[]⟩) (nil_app T) (by decide) (by omega) W
        have dk1 : decide ((100000 : Int) < (k : Int)) = false := decide_eq_false (by omega)
        have dk2 : decide (100000 < k) = false := decide_eq_false (by omega)
        have ztl : (t.size : Int) ≤ 100 := by omega
        obtain ⟨r, hr⟩ : ∃ r : Nat, (100000 : Int) - (k : Int) = (r : Int) := ⟨100000 - k, by omega⟩
        have hr1 : (r : Int) ≤ 1 := by omega
        have hr2 : IntKind.i64.wrap (r : Int) = (r : Int) := IntWalk.i64_in _ (by omega)
        by_cases hA2 : k + t.size ≤ 100000
        · obtain ⟨y, hy⟩ : ∃ y, T ++ t = y := ⟨_, rfl⟩
          have zy : y.size = T.size + t.size := by rw [← hy]; exact ByteArray.size_append
          have q4 := fun W => HA.out.ok (a := ⟨#[]⟩) (b := T) (nil_app t) (show T.size + 0 + t.size ≤ 100000 by omega) W
          have q5 := fun W => HL.out.at (a := ⟨#[]⟩) hy (by omega) (by omega) W
          have h6 : ¬ r < t.size := by omega
          have dm1 : decide ((r : Int) < (t.size : Int)) = false := decide_eq_false (by omega)
          have dm2 : decide (r < t.size) = false := decide_eq_false (by omega)
          have z3 : (y.size : Int) = (k : Int) + (t.size : Int) := by omega
          have z4 : (T.size : Int) = (k : Int) := by omega
          clear hy zy zT hT hkk htt hlt z1 z2 hA1 hA2
          go_wp2_with fail
          ((with_reducible refine (qp _).mono ?_); rintro e Wp ⟨rfl, rfl⟩)
          go_wp2_with fail
          ((with_reducible refine (q1 _).mono ?_); rintro e R0 ⟨rfl, bq⟩)
          have HC0 := Lib.hid (bch HB2.out bq); clear bq
          go_upto_region 8 with fail
          have bm := (Below.refl R0.heap.size R0).alloc (Nat.le_refl _) (.cells #[.string ⟨#[]⟩, .string ⟨#[]⟩, .string T] 23)
          obtain ⟨V1, hV⟩ : ∃ W, R0.alloc (.cells #[.string ⟨#[]⟩, .string ⟨#[]⟩, .string T] 23) = W := ⟨_, rfl⟩
          have H9_ : DkBlk V1 R0.heap.size ⟨#[]⟩ ⟨#[]⟩ T := by rw [← hV]; exact DkBlk.new R0 _ _ _
          rw [hV] at bm
          have HC2 := Lib.hid (bch HC0.out bm); clear bm
          have H9 := Lib.hid H9_; clear H9_
          rw [hV]
          clear hV
          go_wp2_with fail
          ((with_reducible refine (q2 _).mono ?_); rintro e R2 ⟨rfl, bq⟩)
          have H9_ := Lib.hid (H9.out.below bq); clear H9; have H9 := H9_; clear H9_
          have HC2 := Lib.hid (bch HC2.out bq); clear bq
          go_upto_region 9 with fail
          have bm := (Below.refl R2.heap.size R2).alloc (Nat.le_refl _) (.cells #[.string T, .string ⟨#[]⟩, .string ⟨#[]⟩] 23)
          obtain ⟨V3, hV⟩ : ∃ W, R2.alloc (.cells #[.string T, .string ⟨#[]⟩, .string ⟨#[]⟩] 23) = W := ⟨_, rfl⟩
          have H11_ : DkBlk V3 R2.heap.size T ⟨#[]⟩ ⟨#[]⟩ := by rw [← hV]; exact DkBlk.new R2 _ _ _
          rw [hV] at bm
          have H9_ := Lib.hid (H9.out.below bm); clear H9; have H9 := H9_; clear H9_
          have HC4 := Lib.hid (bch HC2.out bm); clear bm
          have H11 := Lib.hid H11_; clear H11_
          rw [hV]
          clear hV
          obtain ⟨c0, c1, c2⟩ := H9.out.cells
          go_wp2_with fail
          ((with_reducible refine (q3 _).mono ?_); rintro e R4 ⟨rfl, bq⟩)
          have H9_ := Lib.hid (H9.out.below bq); clear H9; have H9 := H9_; clear H9_
          have H11_ := Lib.hid (H11.out.below bq); clear H11; have H11 := H11_; clear H11_
          have HC4 := Lib.hid (bch HC4.out bq); clear bq
          clear c0 c1 c2
          go_wp2_with fail
          ((with_reducible refine (q4 _).mono ?_); rintro e R5 ⟨rfl, bq⟩)
          have H9_ := Lib.hid (H9.out.below bq); clear H9; have H9 := H9_; clear H9_
          have H11_ := Lib.hid (H11.out.below bq); clear H11; have H11 := H11_; clear H11_
          have HC5 := Lib.hid (bch HC4.out bq); clear bq
          go_upto_region 12 with fail
          have bm := (Below.refl R5.heap.size R5).alloc (Nat.le_refl _) (.cells #[.string ⟨#[]⟩, .string T, .string t] 23)
          obtain ⟨V6, hV⟩ : ∃ W, R5.alloc (.cells #[.string ⟨#[]⟩, .string T, .string t] 23) = W := ⟨_, rfl⟩
          have H13_ : DkBlk V6 R5.heap.size ⟨#[]⟩ T t := by rw [← hV]; exact DkBlk.new R5 _ _ _
          rw [hV] at bm
          have H9_ := Lib.hid (H9.out.below bm); clear H9; have H9 := H9_; clear H9_
          have H11_ := Lib.hid (H11.out.below bm); clear H11; have H11 := H11_; clear H11_
          have HC7 := Lib.hid (bch HC5.out bm); clear bm
          have H13 := Lib.hid H13_; clear H13_
          rw [hV]
          clear hV
          obtain ⟨c0, c1, c2⟩ := H13.out.cells
          go_wp2_with fail
          ((with_reducible refine (q5 _).mono ?_); rintro e R7 ⟨rfl, bq⟩)
          have H9_ := Lib.hid (H9.out.below bq); clear H9; have H9 := H9_; clear H9_
          have H11_ := Lib.hid (H11.out.below bq); clear H11; have H11 := H11_; clear H11_
          have H13_ := Lib.hid (H13.out.below bq); clear H13; have H13 := H13_; clear H13_
          have HC7 := Lib.hid (bch HC7.out bq); clear bq
          clear c0 c1 c2
          obtain ⟨c0, c1, c2⟩ := H11.out.cells
          go_wp2_with fail
          go_ret
          exact ⟨ret_bool (by simp), HC7.out⟩
        · have q4 := fun W => HA.out.no (a := ⟨#[]⟩) (b := T) (c := ⟨#[]⟩) (s := t) (by omega) (by decide) (by omega) (show ¬ T.size + 0 + t.size ≤ 100000 by omega) W
          have eq1 := eqDk_same ⟨#[]⟩ T ⟨#[]⟩
          have h6 : r < t.size := by omega
          have dm1 : decide ((r : Int) < (t.size : Int)) = true := decide_eq_true (by omega)
          have dm2 : decide (r < t.size) = true := decide_eq_true (by omega)
          clear zT hT hkk htt hlt z1 z2 hA1 hA2
          go_wp2_with fail
          ((with_reducible refine (qp _).mono ?_); rintro e Wp ⟨rfl, rfl⟩)
          go_wp2_with fail
          ((with_reducible refine (q1 _).mono ?_); rintro e R0 ⟨rfl, bq⟩)
          have HC0 := Lib.hid (bch HB2.out bq); clear bq
          go_upto_region 8 with fail
          have bm := (Below.refl R0.heap.size R0).alloc (Nat.le_refl _) (.cells #[.string ⟨#[]⟩, .string ⟨#[]⟩, .string T] 23)
          obtain ⟨V1, hV⟩ : ∃ W, R0.alloc (.cells #[.string ⟨#[]⟩, .string ⟨#[]⟩, .string T] 23) = W := ⟨_, rfl⟩
          have H9_ : DkBlk V1 R0.heap.size ⟨#[]⟩ ⟨#[]⟩ T := by rw [← hV]; exact DkBlk.new R0 _ _ _
          rw [hV] at bm
          have HC2 := Lib.hid (bch HC0.out bm); clear bm
          have H9 := Lib.hid H9_; clear H9_
          rw [hV]
          clear hV
          go_wp2_with fail
          ((with_reducible refine (q2 _).mono ?_); rintro e R2 ⟨rfl, bq⟩)
          have H9_ := Lib.hid (H9.out.below bq); clear H9; have H9 := H9_; clear H9_
          have HC2 := Lib.hid (bch HC2.out bq); clear bq
          go_upto_region 9 with fail
          have bm := (Below.refl R2.heap.size R2).alloc (Nat.le_refl _) (.cells #[.string T, .string ⟨#[]⟩, .string ⟨#[]⟩] 23)
          obtain ⟨V3, hV⟩ : ∃ W, R2.alloc (.cells #[.string T, .string ⟨#[]⟩, .string ⟨#[]⟩] 23) = W := ⟨_, rfl⟩
          have H11_ : DkBlk V3 R2.heap.size T ⟨#[]⟩ ⟨#[]⟩ := by rw [← hV]; exact DkBlk.new R2 _ _ _
          rw [hV] at bm
          have H9_ := Lib.hid (H9.out.below bm); clear H9; have H9 := H9_; clear H9_
          have HC4 := Lib.hid (bch HC2.out bm); clear bm
          have H11 := Lib.hid H11_; clear H11_
          rw [hV]
          clear hV
          obtain ⟨c0, c1, c2⟩ := H9.out.cells
          go_wp2_with fail
          ((with_reducible refine (q3 _).mono ?_); rintro e R4 ⟨rfl, bq⟩)
          have H9_ := Lib.hid (H9.out.below bq); clear H9; have H9 := H9_; clear H9_
          have H11_ := Lib.hid (H11.out.below bq); clear H11; have H11 := H11_; clear H11_
          have HC4 := Lib.hid (bch HC4.out bq); clear bq
          clear c0 c1 c2
          go_wp2_with fail
          ((with_reducible refine (q4 _).mono ?_); rintro e R5 ⟨rfl, bq⟩)
          have H9_ := Lib.hid (H9.out.below bq); clear H9; have H9 := H9_; clear H9_
          have H11_ := Lib.hid (H11.out.below bq); clear H11; have H11 := H11_; clear H11_
          have HC5 := Lib.hid (bch HC4.out bq); clear bq
          go_upto_region 12 with fail
          have bm := (Below.refl R5.heap.size R5).alloc (Nat.le_refl _) (.cells #[.string ⟨#[]⟩, .string T, .string ⟨#[]⟩] 23)
          obtain ⟨V6, hV⟩ : ∃ W, R5.alloc (.cells #[.string ⟨#[]⟩, .string T, .string ⟨#[]⟩] 23) = W := ⟨_, rfl⟩
          have H13_ : DkBlk V6 R5.heap.size ⟨#[]⟩ T ⟨#[]⟩ := by rw [← hV]; exact DkBlk.new R5 _ _ _
          rw [hV] at bm
          have H9_ := Lib.hid (H9.out.below bm); clear H9; have H9 := H9_; clear H9_
          have H11_ := Lib.hid (H11.out.below bm); clear H11; have H11 := H11_; clear H11_
          have HC7 := Lib.hid (bch HC5.out bm); clear bm
          have H13 := Lib.hid H13_; clear H13_
          rw [hV]
          clear hV
          go_upto_region 13 with fail
          have H9_ := Lib.hid H9.out.drew; clear H9
          have H13_ := Lib.hid H13.out.drew; clear H13
          refine wp_region_noPanic ?_
          refine wp_region_held_drew (S := fun W => Below V6.drew.heap.size V6.drew W) (by kernel_rfl) (Below.refl _ _) (fun hHeld => ?_)
          refine wpAnyH_take (i := 0) (v := ?_) rfl (by kernel_rfl) (by kernel_rfl) (by kernel_rfl) (fun _ _ _ h => h) (Or.inl ⟨by rfl, ?_⟩) (by assumption) ?_
          rotate_left
          · (intro w hSw; (try dsimp only at hSw); go_simp; (try with_reducible rfl))
          simp only [Act.put, List.getElem_toArray, List.getElem_cons_zero, List.setIfInBounds_toArray, List.set_cons_zero, List.set_cons_succ]
          refine wpAnyH_take (i := 1) (v := ?_) rfl (by kernel_rfl) (by kernel_rfl) (by kernel_rfl) (fun _ _ _ h => h) (Or.inl ⟨by rfl, ?_⟩) (by assumption) ?_
          rotate_left
          · (intro w hSw; (try dsimp only at hSw); go_simp; (try with_reducible rfl))
          simp only [Act.put, List.getElem_toArray, List.getElem_cons_zero, List.getElem_cons_succ, List.setIfInBounds_toArray, List.set_cons_zero, List.set_cons_succ]
          refine wpAnyH_take (i := 2) (v := ?_) rfl (by kernel_rfl) (by kernel_rfl) (by kernel_rfl) (fun _ _ _ h => h) (Or.inl ⟨by rfl, ?_⟩) (by assumption) ?_
          rotate_left
          · (intro w hSw; (try dsimp only at hSw); go_simp; (try with_reducible rfl))
          simp only [Act.put, List.getElem_toArray, List.getElem_cons_zero, List.getElem_cons_succ, List.setIfInBounds_toArray, List.set_cons_zero, List.set_cons_succ]
          refine wpAnyH_take (i := 3) (v := ?_) rfl (by kernel_rfl) (by kernel_rfl) (by kernel_rfl) (fun _ _ _ h => h) (Or.inl ⟨by rfl, ?_⟩) (by assumption) ?_
          rotate_left
          · (intro w hSw; (try dsimp only at hSw); go_simp; (try with_reducible rfl))
          simp only [Act.put, List.getElem_toArray, List.getElem_cons_zero, List.getElem_cons_succ, List.setIfInBounds_toArray, List.set_cons_zero, List.set_cons_succ]
          refine wpAnyH_take (i := 4) (v := ?_) rfl (by kernel_rfl) (by kernel_rfl) (by kernel_rfl) (fun _ _ _ h => h) (Or.inl ⟨by rfl, ?_⟩) (by assumption) ?_
          rotate_left
          · (intro w hSw; (try dsimp only at hSw); go_simp; (try with_reducible rfl))
          simp only [Act.put, List.getElem_toArray, List.getElem_cons_zero, List.getElem_cons_succ, List.setIfInBounds_toArray, List.set_cons_zero, List.set_cons_succ]
          refine wpAnyH_take (i := 5) (v := ?_) rfl (by kernel_rfl) (by kernel_rfl) (by kernel_rfl) (fun _ _ _ h => h) (Or.inl ⟨by rfl, ?_⟩) (by assumption) ?_
          rotate_left
          · (intro w hSw; (try dsimp only at hSw); go_simp; (try with_reducible rfl))
          simp only [Act.put, List.getElem_toArray, List.getElem_cons_zero, List.getElem_cons_succ, List.setIfInBounds_toArray, List.set_cons_zero, List.set_cons_succ]
          refine wpAnyH_take (i := 6) (v := ?_) rfl (by kernel_rfl) (by kernel_rfl) (by kernel_rfl) (fun _ _ _ h => h) (Or.inl ⟨by rfl, ?_⟩) (by assumption) ?_
          rotate_left
          · (intro w hSw; (try dsimp only at hSw); go_simp; (try with_reducible rfl))
          simp only [Act.put, List.getElem_toArray, List.getElem_cons_zero, List.getElem_cons_succ, List.setIfInBounds_toArray, List.set_cons_zero, List.set_cons_succ]
          refine wpAnyH_take (i := 7) (v := ?_) rfl (by kernel_rfl) (by kernel_rfl) (by kernel_rfl) (fun _ _ _ h => h) (Or.inl ⟨by rfl, ?_⟩) (by assumption) ?_
          rotate_left
          · (intro w hSw; (try dsimp only at hSw); go_simp; (try with_reducible rfl))
          simp only [Act.put, List.getElem_toArray, List.getElem_cons_zero, List.getElem_cons_succ, List.setIfInBounds_toArray, List.set_cons_zero, List.set_cons_succ]
          refine wpAnyH_take (i := 8) (v := ?_) rfl (by kernel_rfl) (by kernel_rfl) (by kernel_rfl) (fun _ _ _ h => h) (Or.inl ⟨by rfl, ?_⟩) (by assumption) ?_
          rotate_left
          · (intro w hSw; (try dsimp only at hSw); go_simp; (try with_reducible rfl))
          simp only [Act.put, List.getElem_toArray, List.getElem_cons_zero, List.getElem_cons_succ, List.setIfInBounds_toArray, List.set_cons_zero, List.set_cons_succ]
          refine wpAnyH_take (i := 9) (v := ?_) rfl (by kernel_rfl) (by kernel_rfl) (by kernel_rfl) (fun _ _ _ h => h) (Or.inl ⟨by rfl, ?_⟩) (by assumption) ?_
          rotate_left
          · (intro w hSw; (try dsimp only at hSw); go_simp; (try with_reducible rfl))
          simp only [Act.put, List.getElem_toArray, List.getElem_cons_zero, List.getElem_cons_succ, List.setIfInBounds_toArray, List.set_cons_zero, List.set_cons_succ]
          refine wpAnyH_take (i := 10) (v := ?_) rfl (by kernel_rfl) (by kernel_rfl) (by kernel_rfl) (fun _ _ _ h => h) (Or.inl ⟨by rfl, ?_⟩) (by assumption) ?_
          rotate_left
          · (intro w hSw; (try dsimp only at hSw); go_simp; (try with_reducible rfl))
          simp only [Act.put, List.getElem_toArray, List.getElem_cons_zero, List.getElem_cons_succ, List.setIfInBounds_toArray, List.set_cons_zero, List.set_cons_succ]
          refine wpAnyH_take (i := 11) (v := ?_) rfl (by kernel_rfl) (by kernel_rfl) (by kernel_rfl) (fun _ _ _ h => h) (Or.inl ⟨by rfl, ?_⟩) (by assumption) ?_
          rotate_left
          · (intro w hSw; (try dsimp only at hSw); go_simp; (try with_reducible rfl))
          simp only [Act.put, List.getElem_toArray, List.getElem_cons_zero, List.getElem_cons_succ, List.setIfInBounds_toArray, List.set_cons_zero, List.set_cons_succ]
          refine wpAnyH_take (i := 12) (v := ?_) rfl (by kernel_rfl) (by kernel_rfl) (by kernel_rfl) (fun _ _ _ h => h) (Or.inl ⟨by rfl, ?_⟩) (by assumption) ?_
          rotate_left
          · (intro w hSw; (try dsimp only at hSw); go_simp; (try with_reducible rfl))
          simp only [Act.put, List.getElem_toArray, List.getElem_cons_zero, List.getElem_cons_succ, List.setIfInBounds_toArray, List.set_cons_zero, List.set_cons_succ]
          refine wpAnyH_take (i := 13) (v := ?_) rfl (by kernel_rfl) (by kernel_rfl) (by kernel_rfl) (fun _ _ _ h => h) (Or.inl ⟨by rfl, ?_⟩) (by assumption) ?_
          rotate_left
          · (intro w hSw; (try dsimp only at hSw); go_simp; (try with_reducible rfl))
          simp only [Act.put, List.getElem_toArray, List.getElem_cons_zero, List.getElem_cons_succ, List.setIfInBounds_toArray, List.set_cons_zero, List.set_cons_succ]
          refine wpAnyH_take (i := 14) (v := ?_) rfl (by kernel_rfl) (by kernel_rfl) (by kernel_rfl) (fun _ _ _ h => h) (Or.inl ⟨by rfl, ?_⟩) (by assumption) ?_
          rotate_left
          · (intro w hSw; (try dsimp only at hSw); obtain ⟨c0, c1, c2⟩ := (H13_.out.below hSw).cells; go_simp; (try with_reducible rfl))
          simp only [Act.put, List.getElem_toArray, List.getElem_cons_zero, List.getElem_cons_succ, List.setIfInBounds_toArray, List.set_cons_zero, List.set_cons_succ]
          refine wpAnyH_take (i := 15) (v := ?_) rfl (by kernel_rfl) (by kernel_rfl) (by kernel_rfl) (fun _ _ _ h => h) (Or.inl ⟨by rfl, ?_⟩) (by assumption) ?_
          rotate_left
          · (intro w hSw; (try dsimp only at hSw); obtain ⟨c0, c1, c2⟩ := (H9_.out.below hSw).cells; go_simp; (try with_reducible rfl))
          simp only [Act.put, List.getElem_toArray, List.getElem_cons_zero, List.getElem_cons_succ, List.setIfInBounds_toArray, List.set_cons_zero, List.set_cons_succ]
          refine wpAnyH_ready (rs := [16]) (by kernel_rfl) (by simp) ?_
          refine AllReadyH.cons rfl (fun K hK => ?_) AllReadyH.nil
          rw [if_pos (by rfl)]
          go_simp
          ((with_reducible refine (q3 _).mono ?_); rintro e w' ⟨rfl, bq⟩)
          refine hK.out _ _ (bch hHeld bq) (fun hHeld2 => ?_)
          clear hK K hHeld
          have hHeld := hHeld2; clear hHeld2
          refine wpAnyH_take (i := 17) (v := ?_) rfl (by kernel_rfl) (by kernel_rfl) (by kernel_rfl) (fun _ _ _ h => h) (Or.inl ⟨by rfl, ?_⟩) (by assumption) ?_
          rotate_left
          · (intro w hSw; (try dsimp only at hSw); go_simp; (try with_reducible rfl))
          simp only [Act.put, List.getElem_toArray, List.getElem_cons_zero, List.getElem_cons_succ, List.setIfInBounds_toArray, List.set_cons_zero, List.set_cons_succ]
          refine wpAnyH_take (i := 18) (v := ?_) rfl (by kernel_rfl) (by kernel_rfl) (by kernel_rfl) (fun _ _ _ h => h) (Or.inl ⟨by rfl, ?_⟩) (by assumption) ?_
          rotate_left
          · (intro w hSw; (try dsimp only at hSw); go_simp; (try with_reducible rfl))
          simp only [Act.put, List.getElem_toArray, List.getElem_cons_zero, List.getElem_cons_succ, List.setIfInBounds_toArray, List.set_cons_zero, List.set_cons_succ]
          refine wpAnyH_take (i := 19) (v := ?_) rfl (by kernel_rfl) (by kernel_rfl) (by kernel_rfl) (fun _ _ _ h => h) (Or.inl ⟨by rfl, ?_⟩) (by assumption) ?_
          rotate_left
          · (intro w hSw; (try dsimp only at hSw); go_simp; (try with_reducible rfl))
          simp only [Act.put, List.getElem_toArray, List.getElem_cons_zero, List.getElem_cons_succ, List.setIfInBounds_toArray, List.set_cons_zero, List.set_cons_succ]
          refine wpAnyH_done (by kernel_rfl) ?_ _
          refine NoPanic.normal ?_
          have hbe := bch HC7.out.drew hHeld
          clear hHeld
          go_wp2_with fail
          go_ret
          exact ⟨rfl, hbe⟩
      · have q1 := fun W => HA.out.no (a := ⟨#[]⟩) (b := ⟨#[]⟩) (c := ⟨#[]⟩) (s := T) (by decide) (by decide) (by omega) (show ¬ 0 + 0 + T.size ≤ 100000 by omega) W
        have q2 := fun W => HP.out.no (a := ⟨#[]⟩) (b := t) (c := ⟨#[]⟩) (s := T) (by omega) (by omega) W
        have eq1 := eqDk_same ⟨#[]⟩ ⟨#[]⟩ ⟨#[]⟩
        have eq2 := eqDk_same ⟨#[]⟩ t ⟨#[]⟩
        have dk1 : decide ((100000 : Int) < (k : Int)) = true := decide_eq_true (by omega)
        have dk2 : decide (100000 < k) = true := decide_eq_true (by omega)
        clear zT hT hkk htt hlt z1 z2 hA1
        go_wp2_with fail
        ((with_reducible refine (qp _).mono ?_); rintro e Wp ⟨rfl, rfl⟩)
        go_wp2_with fail
        ((with_reducible refine (q1 _).mono ?_); rintro e R0 ⟨rfl, bq⟩)
        have HC0 := Lib.hid (bch HB2.out bq); clear bq
        go_upto_region 8 with fail
        have bm := (Below.refl R0.heap.size R0).alloc (Nat.le_refl _) (.cells #[.string ⟨#[]⟩, .string ⟨#[]⟩, .string ⟨#[]⟩] 23)
        obtain ⟨V1, hV⟩ : ∃ W, R0.alloc (.cells #[.string ⟨#[]⟩, .string ⟨#[]⟩, .string ⟨#[]⟩] 23) = W := ⟨_, rfl⟩
        have H9_ : DkBlk V1 R0.heap.size ⟨#[]⟩ ⟨#[]⟩ ⟨#[]⟩ := by rw [← hV]; exact DkBlk.new R0 _ _ _
        rw [hV] at bm
        have HC2 := Lib.hid (bch HC0.out bm); clear bm
        have H9 := Lib.hid H9_; clear H9_
        rw [hV]
        clear hV
        go_wp2_with fail
        ((with_reducible refine (q2 _).mono ?_); rintro e R2 ⟨rfl, bq⟩)
        have H9_ := Lib.hid (H9.out.below bq); clear H9; have H9 := H9_; clear H9_
        have HC2 := Lib.hid (bch HC2.out bq); clear bq
        go_upto_region 9 with fail
        have bm := (Below.refl R2.heap.size R2).alloc (Nat.le_refl _) (.cells #[.string ⟨#[]⟩, .string t, .string ⟨#[]⟩] 23)
        obtain ⟨V3, hV⟩ : ∃ W, R2.alloc (.cells #[.string ⟨#[]⟩, .string t, .string ⟨#[]⟩] 23) = W := ⟨_, rfl⟩
        have H11_ : DkBlk V3 R2.heap.size ⟨#[]⟩ t ⟨#[]⟩ := by rw [← hV]; exact DkBlk.new R2 _ _ _
        rw [hV] at bm
        have H9_ := Lib.hid (H9.out.below bm); clear H9; have H9 := H9_; clear H9_
        have HC4 := Lib.hid (bch HC2.out bm); clear bm
        have H11 := Lib.hid H11_; clear H11_
        rw [hV]
        clear hV
        obtain ⟨c0, c1, c2⟩ := H9.out.cells
        obtain ⟨d0, d1, d2⟩ := H11.out.cells
        go_wp2_with fail
        go_ret
        exact ⟨rfl, HC4.out⟩

end Go.Proofs.Ytbncaolflhmgpaa
