/-
  The walk of the law VarintUnlike: for every two integers it returns true, and nothing that was in memory changes.
-/
import Derived.Test.YtjhpebfapddciaaStr
namespace Go.Proofs.Ytjhpebfapddciaa
open Go.RowKit

theorem vb_inj {x y : Nat} (h : vb x = vb y) : x = y := by rw [← val_vb x, h, val_vb]

set_option maxRecDepth 100000 in
set_option maxHeartbeats 2000000 in
theorem varintUnlike_walk (a0 : Int) (a1 : Int) (w : World) (w0 : (Lit.int .i64 a0).wf = true) (w1 : (Lit.int .i64 a1).wf = true) :
    Calls Try.prog 6 #[.int .i64 a0, .int .i64 a1] w fun e w' => e = .returned (.bool true) ∧ Below w.heap.size w w' := by
  have pa := pickN_lt a0 9007199254740993 (by omega)
  have pb := pickN_lt a1 9007199254740993 (by omega)
  generalize hA : pickN a0 9007199254740993 = A at pa
  generalize hB : pickN a1 9007199254740993 = B at pb
  have HA := Lib.hid hA; clear hA
  have HB := Lib.hid hB; clear hB
  rcases Nat.lt_trichotomy A B with h | h | h
  · obtain ⟨S, hS⟩ : ∃ S, bs (vb A) = S := ⟨_, rfl⟩
    obtain ⟨T, hT⟩ : ∃ T, bs (vb B) = T := ⟨_, rfl⟩
    have g1 : (S.toList == T.toList) = false := by rw [← hS, ← hT]; exact bs_ne (fun e => by have := vb_inj e; omega)
    have g2 : S.size ≤ T.size := by rw [← hS, ← hT, bs_size, bs_size]; exact vb_len_mono (by omega)
    have g3 : ((A : Int) == B) = false := by simp; omega
    have hsl : ∀ W : World, (Instr.slice 9 (.string T) none (some (.int .i64 S.size)) none).run Try.prog W = .ok (.string (bs ((vb B).take S.size))) W := fun W => slice_to (by rw [← hT, bs_take]) g2 W
    have g4 : ((bs ((vb B).take S.size)).toList == S.toList) = false := by
      rw [← hS, bs_size]
      refine bs_ne fun e => ?_
      have := vb_prefix (x := A) (y := B) (by omega) (by omega) ((vb B).drop (vb A).length) (by rw [← e, List.length_take, Nat.min_eq_left (by rw [← bs_size, ← bs_size, hS, hT]; exact g2), List.take_append_drop])
      omega
    generalize bs ((vb B).take S.size) = R at hsl g4
    have HS := Lib.hid hS; clear hS
    have HT := Lib.hid hT; clear hT
    go_enter Try.func6, Try.ntmps6
    go_wp2_with fail
    refine (awake_any _).mono ?_; rintro e wa ⟨rfl, ba⟩
    go_wp2_with fail
    refine (pick_nat _ _ (by omega) (by omega) w0 _).mono ?_; rintro e w' ⟨rfl, rfl⟩
    rw [HA.out]
    go_wp2_with fail
    refine (pick_nat _ _ (by omega) (by omega) w1 _).mono ?_; rintro e w' ⟨rfl, rfl⟩
    rw [HB.out]
    go_wp2_with fail
    refine (pick_nat _ _ (by omega) (by omega) w0 _).mono ?_; rintro e w' ⟨rfl, rfl⟩
    rw [HA.out]
    go_wp2_with fail
    refine (pick_nat _ _ (by omega) (by omega) w1 _).mono ?_; rintro e w' ⟨rfl, rfl⟩
    rw [HB.out]
    go_wp2_with fail
    refine (put_nat A (by omega) _).mono ?_; rintro e W1 ⟨rfl, b1⟩
    rw [HS.out]
    go_wp2_with fail
    refine (put_nat B (by omega) _).mono ?_; rintro e W2 ⟨rfl, b2⟩
    rw [HT.out]
    go_wp2_with fail
    go_ret
    exact ⟨rfl, bch (bch ba b1) b2⟩
  · subst h
    obtain ⟨S, hS⟩ : ∃ S, bs (vb A) = S := ⟨_, rfl⟩
    have HS := Lib.hid hS; clear hS
    go_enter Try.func6, Try.ntmps6
    go_wp2_with fail
    refine (awake_any _).mono ?_; rintro e wa ⟨rfl, ba⟩
    go_wp2_with fail
    refine (pick_nat _ _ (by omega) (by omega) w0 _).mono ?_; rintro e w' ⟨rfl, rfl⟩
    rw [HA.out]
    go_wp2_with fail
    refine (pick_nat _ _ (by omega) (by omega) w1 _).mono ?_; rintro e w' ⟨rfl, rfl⟩
    rw [HB.out]
    go_wp2_with fail
    refine (pick_nat _ _ (by omega) (by omega) w0 _).mono ?_; rintro e w' ⟨rfl, rfl⟩
    rw [HA.out]
    go_wp2_with fail
    refine (pick_nat _ _ (by omega) (by omega) w1 _).mono ?_; rintro e w' ⟨rfl, rfl⟩
    rw [HB.out]
    go_wp2_with fail
    refine (put_nat A (by omega) _).mono ?_; rintro e W1 ⟨rfl, b1⟩
    rw [HS.out]
    go_wp2_with fail
    refine (put_nat A (by omega) _).mono ?_; rintro e W2 ⟨rfl, b2⟩
    rw [HS.out]
    go_wp2_with fail
    go_ret
    exact ⟨rfl, bch (bch ba b1) b2⟩
  · obtain ⟨S, hS⟩ : ∃ S, bs (vb B) = S := ⟨_, rfl⟩
    obtain ⟨T, hT⟩ : ∃ T, bs (vb A) = T := ⟨_, rfl⟩
    have g1 : (S.toList == T.toList) = false := by rw [← hS, ← hT]; exact bs_ne (fun e => by have := vb_inj e; omega)
    have g2 : S.size ≤ T.size := by rw [← hS, ← hT, bs_size, bs_size]; exact vb_len_mono (by omega)
    have g3 : ((B : Int) == A) = false := by simp; omega
    have hsl : ∀ W : World, (Instr.slice 9 (.string T) none (some (.int .i64 S.size)) none).run Try.prog W = .ok (.string (bs ((vb A).take S.size))) W := fun W => slice_to (by rw [← hT, bs_take]) g2 W
    have g4 : ((bs ((vb A).take S.size)).toList == S.toList) = false := by
      rw [← hS, bs_size]
      refine bs_ne fun e => ?_
      have := vb_prefix (x := B) (y := A) (by omega) (by omega) ((vb A).drop (vb B).length) (by rw [← e, List.length_take, Nat.min_eq_left (by rw [← bs_size, ← bs_size, hS, hT]; exact g2), List.take_append_drop])
      omega
    generalize bs ((vb A).take S.size) = R at hsl g4
    have HS := Lib.hid hS; clear hS
    have HT := Lib.hid hT; clear hT
    go_enter Try.func6, Try.ntmps6
    go_wp2_with fail
    refine (awake_any _).mono ?_; rintro e wa ⟨rfl, ba⟩
    go_wp2_with fail
    refine (pick_nat _ _ (by omega) (by omega) w0 _).mono ?_; rintro e w' ⟨rfl, rfl⟩
    rw [HA.out]
    go_wp2_with fail
    refine (pick_nat _ _ (by omega) (by omega) w1 _).mono ?_; rintro e w' ⟨rfl, rfl⟩
    rw [HB.out]
    go_wp2_with fail
    refine (pick_nat _ _ (by omega) (by omega) w0 _).mono ?_; rintro e w' ⟨rfl, rfl⟩
    rw [HA.out]
    go_wp2_with fail
    refine (pick_nat _ _ (by omega) (by omega) w1 _).mono ?_; rintro e w' ⟨rfl, rfl⟩
    rw [HB.out]
    go_wp2_with fail
    refine (put_nat B (by omega) _).mono ?_; rintro e W1 ⟨rfl, b1⟩
    rw [HS.out]
    go_wp2_with fail
    refine (put_nat A (by omega) _).mono ?_; rintro e W2 ⟨rfl, b2⟩
    rw [HT.out]
    go_wp2_with fail
    go_ret
    exact ⟨rfl, bch (bch ba b1) b2⟩
end Go.Proofs.Ytjhpebfapddciaa
