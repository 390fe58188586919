/-
  The walk of the law VarintBack: for every number, text and place it returns true, and nothing that was in memory changes.
-/
import Derived.Test.YtjhpebfapddciaaStr
namespace Go.Proofs.Ytjhpebfapddciaa
open Go.RowKit

/-- The two numbers that the law ranges over. -/
def two (A B : Nat) (k : Nat) : Nat := if k = 0 then A else B

set_option maxRecDepth 100000 in
set_option maxHeartbeats 2000000 in
theorem varintBack_walk (a0 : Int) (m : ByteArray) (a2 : Int) (w : World) (w0 : (Lit.int .i64 a0).wf = true) (hm : m.size ≤ 140737488351232) (w2 : (Lit.int .i64 a2).wf = true) :
    Calls Try.prog 4 #[.int .i64 a0, .string m, .int .i64 a2] w fun e w' => e = .returned (.bool true) ∧ Below w.heap.size w w' := by
  have pa := pickN_lt a0 9007199254740993 (by omega)
  have pb := pickN_lt a0 300 (by omega)
  generalize hA : pickN a0 9007199254740993 = A at pa
  generalize hB : pickN a0 300 = B at pb
  have HA := Lib.hid hA; clear hA
  have HB := Lib.hid hB; clear hB
  have HM := Lib.hid hm; clear hm
  go_enter Try.func4, Try.ntmps4
  go_wp2_with fail
  refine (awake_any _).mono ?_; rintro e wa ⟨rfl, ba⟩
  go_wp2_with fail
  refine (pick_nat _ _ (by omega) (by omega) w0 _).mono ?_; rintro e w' ⟨rfl, rfl⟩
  rw [HA.out]
  go_wp2_with fail
  refine (pick_nat _ _ (by omega) (by omega) w0 _).mono ?_; rintro e w' ⟨rfl, rfl⟩
  rw [HB.out]
  go_wp2_with fail
  obtain ⟨W0, hW0⟩ : ∃ W0, wa.alloc (.cells #[.int .i64 A, .int .i64 B] 3) = W0 := ⟨_, rfl⟩
  have hz : W0.heap.size = wa.heap.size + 1 := by rw [← hW0]; simp
  have hc : ∀ k, k < 2 → W0.cell? ⟨wa.heap.size, k, none⟩ = some (.int .i64 (two A B k)) := by
    intro k hk
    rw [← hW0, World.cell?_alloc_mark]
    obtain rfl | rfl : k = 0 ∨ k = 1 := by omega
    · rfl
    · rfl
  have hb0 : Below w.heap.size w W0 := by rw [← hW0]; exact ba.alloc ba.size _
  have hx : ∀ k, two A B k ≤ 9007199254740992 := by intro k; unfold two; split <;> omega
  rw [hW0]
  have HX := Lib.hid hx; clear hx
  have HC := Lib.hid hc; clear hc
  clear pa pb
  go_loopw [25] (fun i wr => ∃ k : Nat, k ≤ 2 ∧ i = .int .i64 k ∧ Below W0.heap.size W0 wr) (fun i _ => 2 - (intOf i).toNat)
  case atStart => exact ⟨0, by omega, rfl, Below.refl _ _⟩
  case round =>
    obtain ⟨k, hk, rfl, hbw⟩ := hrel
    by_cases hlt : k < 2
    · have hcell : wr.cell? ⟨wa.heap.size, k, none⟩ = some (.int .i64 (two A B k)) := (hbw.cell (p := ⟨wa.heap.size, k, none⟩) (by show wa.heap.size < _; omega)).trans (HC.out k hlt)
      have hxk := HX.out k
      generalize two A B k = x at hcell hxk
      have hx' : (x : Int) ≤ 9007199254740992 := by omega
      have HXK := Lib.hid hxk; clear hxk
      have f1 : 1 ≤ (bs (vb x)).size := by rw [bs_size]; exact vb_pos x
      have f2 : (bs (vb x)).size ≤ 8 := by rw [bs_size]; exact vb_len8 (by omega)
      have hput := put_nat x hx'
      have htake := take_back x HXK.out m HM.out
      have hcut := take_cut x HXK.out
      have hsl : ∀ (j : Nat), j < (bs (vb x)).size → ∀ W : World, (Instr.slice 9 (.string (bs (vb x))) none (some (.int .i64 j)) none).run Try.prog W = .ok (.string (bs ((vb x).take j))) W := fun j hj W => slice_to (bs_take _ _) (by omega) W
      have hadd : ∀ W : World, (Op.stringOp .add (bs (vb x)) m).run Try.prog W = .ok (.string (bs (vb x) ++ m)) W := fun W => str_add (by have := HM.out; omega) W
      have hpl := pickN_lt a2 (bs (vb x)).size (by omega)
      have hsl' := hsl (pickN a2 (bs (vb x)).size) (by omega)
      have hcut' := hcut (pickN a2 (bs (vb x)).size) (by rw [← bs_size]; omega)
      clear hsl hcut hpl
      generalize bs (List.take (pickN a2 (bs (vb x)).size) (vb x)) = C at hsl' hcut'
      generalize hJ : pickN a2 (bs (vb x)).size = J at hsl'
      generalize bs (vb x) ++ m = T at hadd htake
      generalize bs (vb x) = S at f1 f2 hput htake hsl' hadd hJ
      have HJ := Lib.hid hJ; clear hJ
      clear hx'
      go_wp2_with fail
      refine (hput _).mono ?_; rintro e W1 ⟨rfl, b1⟩
      go_wp2_with fail
      refine (htake _).mono ?_; rintro e W2 ⟨rfl, b2⟩
      go_wp2_with fail
      refine (pick_nat _ _ (by omega) (by omega) w2 _).mono ?_; rintro e w' ⟨rfl, rfl⟩
      rw [HJ.out]
      go_wp2_with fail
      refine (hcut' _).mono ?_; rintro e W3 ⟨rfl, b3⟩
      go_wp2_with fail
      go_roundw
      case rel => exact ⟨k + 1, by omega, by go_num, bch (bch (bch hbw b1) b2) b3⟩
      case measure => simp [intOf]; omega
    · go_wp2_with fail
      go_ret
      exact ⟨rfl, hb0.trans (hbw.mono hb0.size)⟩
end Go.Proofs.Ytjhpebfapddciaa
