import Derived.Test.YtljjbpgbddaekaaMailAwake
/-
  The walk of the law MailFull, over what is asked of the program (stage 11).
-/
namespace Go.Proofs.Ytljjbpgbddaekaa
open Go.RowKit
set_option linter.unusedVariables false
set_option linter.unusedSimpArgs false
theorem rep_at (m : Lt) (n : Nat) (h : 0 < n) : atL (List.replicate n m) 0 = m := by
  rw [atL_get (by simpa using h)]; simp
theorem rep_wf {m : Lt} (h : LtWf m) (n : Nat) : LtsWf (List.replicate n m) := fun x hx => by rw [(List.mem_replicate.1 hx).2]; exact h
set_option maxRecDepth 100000 in
set_option maxHeartbeats 8000000 in
theorem mailFull_core (kP : PostQ) (kC : CopyQ) (kL : LoseQ) (kT : TakeM) (kF : ForQ) (a0 : Int) (m : Lt) (w : World) (h0 : (Lit.int .i64 a0).wf = true) (hm : LtWf m) :
    Calls Try.prog 4 #[.int .i64 a0, ltV m] w fun e w' => e = .returned (.bool true) ∧ Below w.heap.size w w' := by
  have qw := awakeM_any kP kC kL kT kF
  have KP := Lib.hid kP; clear kP
  have KC := Lib.hid kC; clear kC
  clear kL kT kF
  have hp := pickN_lt a0 204 (by omega)
  have qp := fun W => pickN11_nat a0 204 (by omega) (by omega) h0 W
  generalize pickN a0 204 = p at *
  clear h0
  have hbx := LtBlk.new w m
  have hb0 : Below w.heap.size w (w.alloc (.cells #[.int .i64 m.frm, .int .i64 m.to, .string m.bytes] 25)) := (Below.refl _ _).alloc (Nat.le_refl _) _
  obtain ⟨W0, hW0⟩ : ∃ W, w.alloc (.cells #[.int .i64 m.frm, .int .i64 m.to, .string m.bytes] 25) = W := ⟨_, rfl⟩
  rw [hW0] at hbx hb0
  have HX0 := Lib.hid hbx; clear hbx
  have HB0 := Lib.hid hb0; clear hb0
  go_enter Try.func4, Try.ntmps4
  go_wp2_with fail
  ((with_reducible refine (qw _).mono ?_); rintro e Wa ⟨rfl, ba⟩)
  clear hW0
  have HX := Lib.hid (HX0.out.below ba)
  have HB1 := Lib.hid (bch HB0.out ba)
  clear ba HX0 HB0 qw
  go_wp2_with fail
  ((with_reducible refine (qp _).mono ?_); rintro e W_ ⟨rfl, rfl⟩)
  clear qp
  go_wp2_with fail
  go_loopw [7, 8] (fun v i wy => ∃ (k n c : Nat) (A : Option Addr) (wr : World), wr = wy ∧ k ≤ p ∧ n = min k 200 ∧ i = .int .i64 k ∧ v = .slice A n c ∧ n ≤ c ∧ IsLs wr A n (List.replicate n m) ∧ LtBlk wr w.heap.size m ∧ Below w.heap.size w wr) (fun _ i _ => 300 - (intOf i).toNat)
  case atStart => exact ⟨0, 0, 0, none, _, rfl, by omega, rfl, rfl, rfl, Nat.le_refl _, isLs_nil _ _, HX.out, HB1.out⟩
  case round =>
    clear HX HB1
    obtain ⟨k, n, c, A, wr, rfl, hk, hn, rfl, rfl, hcp, hls, hx, hb⟩ := hrel
    have HN := Lib.hid hn; clear hn
    have hn200 : n ≤ 200 := by have := HN.out; omega
    have HX := Lib.hid hx; clear hx
    have HB := Lib.hid hb; clear hb
    by_cases hlt : k < p
    · have q := KP.out (List.replicate n m) m A n c wr hm hcp hls (by omega)
      obtain ⟨c0, c1, c2⟩ := HX.out.cells
      by_cases h2 : k < 200
      · have hnk : n = k := by have := HN.out; omega
        subst hnk
        have hpo : postL (List.replicate n m) m = (List.replicate (n + 1) m, 0) := by
          unfold postL; rw [if_neg (by rw [List.length_replicate]; omega), List.replicate_succ']
        rw [hpo] at q
        have hki : (n : Int) < 200 := by omega
        have hmn : (if (200 : Int) < (n : Int) + 1 then (200 : Int) else (n : Int) + 1) = (n : Int) + 1 := by rw [if_neg (by omega)]
        have hmn2 : min ((n : Int) + 1) 200 = (n : Int) + 1 := by omega
        clear hls hpo
        go_wp2_with fail
        ((with_reducible refine q.mono ?_); rintro e W5 ⟨A5, n5, cap5, rfl, hcap5, hls5, hnw5, b5⟩)
        have hn5 : n5 = n + 1 := by rw [hls5.1]; simp
        subst hn5
        have HLS := Lib.hid hls5
        have HX5 := Lib.hid (HX.out.below b5)
        have HB5 := Lib.hid (bch HB.out b5)
        have hkp : (n : Int) < (p : Int) := by omega
        clear q hls5 hnw5 b5 HX HB c0 c1 c2
        go_wp2_with fail
        go_roundw
        case rel => exact ⟨n + 1, n + 1, cap5, A5, _, rfl, by omega, by omega, by go_num, rfl, hcap5, HLS.out, HX5.out, HB5.out⟩
        case measure => simp [intOf]; omega
      · have hnk : n = 200 := by have := HN.out; omega
        subst hnk
        have hpo : postL (List.replicate 200 m) m = (List.replicate 200 m, 50) := by
          unfold postL; rw [if_pos (by rw [List.length_replicate]; omega)]
        rw [hpo] at q
        have hki : (200 : Int) ≤ (k : Int) := by omega
        have hmn : (if (200 : Int) < (k : Int) + 1 then (200 : Int) else (k : Int) + 1) = 200 := by rw [if_pos (by omega)]
        have hmn2 : min ((k : Int) + 1) 200 = 200 := by omega
        clear hls hpo
        go_wp2_with fail
        ((with_reducible refine q.mono ?_); rintro e W5 ⟨A5, n5, cap5, rfl, hcap5, hls5, hnw5, b5⟩)
        have hn5 : n5 = 200 := by rw [hls5.1]; simp
        subst hn5
        have HLS := Lib.hid hls5
        have HX5 := Lib.hid (HX.out.below b5)
        have HB5 := Lib.hid (bch HB.out b5)
        have hkp : (k : Int) < (p : Int) := by omega
        clear q hls5 hnw5 b5 HX HB c0 c1 c2
        go_wp2_with fail
        go_roundw
        case rel => exact ⟨k + 1, 200, cap5, A5, _, rfl, by omega, by omega, by go_num, rfl, hcap5, HLS.out, HX5.out, HB5.out⟩
        case measure => simp [intOf]; omega
    · have hke : k = p := by omega
      subst hke
      have qc := KC.out (List.replicate n m) 0 A n c wr (by decide) hcp hls (by omega)
      by_cases h0 : k = 0
      · have hn0 : n = 0 := by have := HN.out; omega
        subst h0 hn0
        have hco : copyL (List.replicate 0 m) 0 = ([], 1) := rfl
        rw [hco] at qc
        clear hls hco
        go_wp2_with fail
        ((with_reducible refine qc.mono ?_); rintro e W9 ⟨A9, n9, cap9, rfl, hcap9, hls9, hnw9, b9⟩)
        have HB9 := Lib.hid (bch HB.out b9)
        clear qc hls9 hnw9 b9
        go_wp2_with fail
        go_ret
        exact ⟨rfl, HB9.out⟩
      · by_cases h2 : k < 200
        · have hnk : n = k := by have := HN.out; omega
          subst hnk
          have hco : copyL (List.replicate n m) 0 = (List.replicate (n + 1) m, 0) := by
            unfold copyL
            rw [if_pos (thereL_iff.2 ⟨by omega, by rw [List.length_replicate]; omega⟩), show (0 : Int).toNat = 0 from rfl, rep_at m n (by omega)]
            unfold postL; rw [if_neg (by rw [List.length_replicate]; omega), List.replicate_succ']
          rw [hco] at qc
          have hki : (n : Int) < 200 := by omega
          have hkd : decide ((200 : Int) ≤ (n : Int)) = false := decide_eq_false (by omega)
          have hk1 : (0 : Int) < (n : Int) := by omega
          clear hls hco h0
          go_wp2_with fail
          ((with_reducible refine qc.mono ?_); rintro e W9 ⟨A9, n9, cap9, rfl, hcap9, hls9, hnw9, b9⟩)
          have HB9 := Lib.hid (bch HB.out b9)
          clear qc hls9 hnw9 b9
          go_wp2_with fail
          go_ret
          exact ⟨rfl, HB9.out⟩
        · have hnk : n = 200 := by have := HN.out; omega
          subst hnk
          have hco : copyL (List.replicate 200 m) 0 = (List.replicate 200 m, 50) := by
            unfold copyL
            rw [if_pos (thereL_iff.2 ⟨by omega, by rw [List.length_replicate]; omega⟩)]
            unfold postL; rw [if_pos (by rw [List.length_replicate]; omega)]
          rw [hco] at qc
          have hki : (200 : Int) ≤ (k : Int) := by omega
          have hk1 : (0 : Int) < (k : Int) := by omega
          have hkd : decide ((k : Int) < 200) = false := decide_eq_false (by omega)
          clear hls hco h0
          go_wp2_with fail
          ((with_reducible refine qc.mono ?_); rintro e W9 ⟨A9, n9, cap9, rfl, hcap9, hls9, hnw9, b9⟩)
          have HB9 := Lib.hid (bch HB.out b9)
          clear qc hls9 hnw9 b9
          go_wp2_with fail
          go_ret
          exact ⟨rfl, HB9.out⟩
end Go.Proofs.Ytljjbpgbddaekaa
