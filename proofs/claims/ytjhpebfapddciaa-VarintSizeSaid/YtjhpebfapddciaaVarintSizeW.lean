/-
  The walk of the law VarintSize: for every two integers it returns true, and nothing that was in memory changes.
-/
import Derived.Test.YtjhpebfapddciaaStr
namespace Go.Proofs.Ytjhpebfapddciaa
open Go.RowKit

set_option maxRecDepth 100000 in
set_option maxHeartbeats 1000000 in
theorem varintSize_walk (a0 : Int) (a1 : Int) (w : World) (w0 : (Lit.int .i64 a0).wf = true) (w1 : (Lit.int .i64 a1).wf = true) :
    Calls Try.prog 8 #[.int .i64 a0, .int .i64 a1] w fun e w' => e = .returned (.bool true) ∧ Below w.heap.size w w' := by
  have px := pickN_lt a0 35184372088832 (by omega)
  have pm := pickN_lt a1 128 (by omega)
  generalize hX : pickN a0 35184372088832 = X at px
  generalize hM : pickN a1 128 = M at pm
  have HX := Lib.hid hX; clear hX
  have HM := Lib.hid hM; clear hM
  go_enter Try.func8, Try.ntmps8
  go_wp2_with fail
  refine (awake_any _).mono ?_; rintro e wa ⟨rfl, ba⟩
  go_wp2_with fail
  refine (pick_nat _ _ (by omega) (by omega) w0 _).mono ?_; rintro e w' ⟨rfl, rfl⟩
  rw [HX.out]
  go_wp2_with fail
  refine (put_at (1 + X) (by omega) (by omega) _).mono ?_; rintro e W1 ⟨rfl, b1⟩
  go_wp2_with fail
  refine (pick_nat _ _ (by omega) (by omega) w1 _).mono ?_; rintro e w' ⟨rfl, rfl⟩
  rw [HM.out]
  go_wp2_with fail
  refine (put_at (128 * (1 + X) + M) (by omega) (by omega) _).mono ?_; rintro e W2 ⟨rfl, b2⟩
  go_wp2_with fail
  refine (put_at 0 (by omega) (by omega) _).mono ?_; rintro e W3 ⟨rfl, b3⟩
  have fS : 1 ≤ (bs (vb (1 + X))).size ∧ (bs (vb (1 + X))).size ≤ 8 := by
    rw [bs_size]; exact ⟨vb_pos _, vb_len8 (by omega)⟩
  have fT : (bs (vb (128 * (1 + X) + M))).size = (bs (vb (1 + X))).size + 1 := by
    rw [bs_size, bs_size, vb_step _ _ (by omega) (by omega)]; rfl
  have fZ : (bs (vb 0)).size = 1 := by rw [bs_size, vb_small (by omega)]; rfl
  have fX : (bs (vb (1 + X))).size = 1 ↔ X < 127 := by rw [bs_size, vb_len_one]; omega
  have fE : (bs (vb (128 * (1 + X) + M))).extract 1 (bs (vb (128 * (1 + X) + M))).size = bs (vb (1 + X)) := by rw [vb_step _ _ (by omega) (by omega)]; exact extract_cons _ _
  generalize hS : bs (vb (1 + X)) = S at fE fS fT fX
  generalize hT : bs (vb (128 * (1 + X) + M)) = T at fE fT
  generalize hZ : bs (vb 0) = Z at fZ
  have HS := Lib.hid hS; clear hS
  have HT := Lib.hid hT; clear hT
  have HZ := Lib.hid hZ; clear hZ
  have fT1 : S.size + 1 ≤ T.size := by omega
  have fT2 : T.size ≤ S.size + 1 := by omega
  have fZ1 : 1 ≤ Z.size := by omega
  have fZ2 : Z.size ≤ 1 := by omega
  have FX := Lib.hid fX; clear fX fT fZ
  have hsl : ∀ W : World, (Instr.slice 9 (.string T) (some (.int .i64 1)) none none).run Try.prog W = .ok (.string S) W := fun W => slice_from (k := 1) fE (by omega) W
  have FE := Lib.hid fE; clear fE
  by_cases hX127 : X < 127
  · have g1 : S.size = 1 := FX.out.2 hX127
    have gS : ((S.size : Int) == 1) = true := by simp [g1]
    clear g1
    have gT : ((T.size : Int) == (S.size : Int) + 1) = true := by simp; omega
    have gZ : ((Z.size : Int) == 1) = true := by simp; omega
    clear fT1 fT2 fZ1 fZ2
    go_wp2_with fail
    go_ret
    exact ⟨ret_bool (by simp; omega), bch (bch (bch ba b1) b2) b3⟩
  · have g1 : S.size ≠ 1 := fun h => hX127 (FX.out.1 h)
    have gS : ((S.size : Int) == 1) = false := by simp; omega
    clear g1
    have gT : ((T.size : Int) == (S.size : Int) + 1) = true := by simp; omega
    have gZ : ((Z.size : Int) == 1) = true := by simp; omega
    clear fT1 fT2 fZ1 fZ2
    go_wp2_with fail
    go_ret
    exact ⟨ret_bool (by simp; omega), bch (bch (bch ba b1) b2) b3⟩
end Go.Proofs.Ytjhpebfapddciaa
