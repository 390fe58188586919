/-
  The walk of the law VarintTells: for every number, text and place it returns true, and nothing that was in memory changes.
-/
import Derived.Test.YtjhpebfapddciaaStr
import Derived.Test.YtjhpebfapddciaaRefTake
import Derived.BigRegion
import Derived.RegionTactic
namespace Go.Proofs.Ytjhpebfapddciaa
open Go.RowKit

/-- What Put answers: the bytes, the error. -/
def putR (n : Int) : List UInt8 × Nat := if 0 ≤ n ∧ n ≤ 9007199254740992 then (vb n.toNat, 0) else ([], 1)
theorem putR_len (n : Int) : (putR n).1.length ≤ 8 := by
  unfold putR; split
  · exact vb_len8 (by omega)
  · simp
theorem put_all (n : Int) (w : World) : Calls Try.prog 11 #[.int .i64 n] w fun e w' => e = .returned (.tuple #[.string (bs (putR n).1), .int .i64 (putR n).2]) ∧ Below w.heap.size w w' := by
  unfold putR; split
  · exact put_ok n (by omega) (by omega) w
  · exact put_no n (by omega) w
theorem refput_all (n : Int) (w : World) : Calls Try.prog 12 #[.int .i64 n] w fun e w' => e = .returned (.tuple #[.string (bs (putR n).1), .int .i64 (putR n).2]) ∧ Below w.heap.size w w' := by
  unfold putR; split
  · exact refput_ok n (by omega) (by omega) w
  · exact refput_no n (by omega) w
/-- The three numbers that the law ranges over. -/
def three (n : Int) (A B : Nat) (k : Nat) : Int := if k = 0 then n else if k = 1 then A else B

set_option maxRecDepth 100000 in
set_option maxHeartbeats 4000000 in
theorem varintTells_walk (a0 : Int) (s : ByteArray) (a2 : Int) (m : ByteArray) (w : World) (w0 : (Lit.int .i64 a0).wf = true) (hs : s.size ≤ 140737488351232) (w2 : (Lit.int .i64 a2).wf = true) (hm : m.size ≤ 140737488351232) :
    Calls Try.prog 3 #[.int .i64 a0, .string s, .int .i64 a2, .string m] w fun e w' => e = .returned (.bool true) ∧ Below w.heap.size w w' := by
  generalize hA : pickN a0 9007199254740993 = A
  generalize hB : pickN a0 70000 = B
  have HA := Lib.hid hA; clear hA
  have HB := Lib.hid hB; clear hB
  have HM := Lib.hid hm; clear hm
  have HS := Lib.hid hs; clear hs
  go_enter Try.func3, Try.ntmps3
  go_wp2_with fail
  refine (awake_any _).mono ?_; rintro e wa ⟨rfl, ba⟩
  go_wp2_with fail
  refine (pick_nat _ _ (by omega) (by omega) w0 _).mono ?_; rintro e w' ⟨rfl, rfl⟩
  rw [HA.out]
  go_wp2_with fail
  refine (pick_nat _ _ (by omega) (by omega) w0 _).mono ?_; rintro e w' ⟨rfl, rfl⟩
  rw [HB.out]
  go_wp2_with fail
  obtain ⟨W0, hW0⟩ : ∃ W0, wa.alloc (.cells #[.int .i64 a0, .int .i64 A, .int .i64 B] 3) = W0 := ⟨_, rfl⟩
  have hz : W0.heap.size = wa.heap.size + 1 := by rw [← hW0]; simp
  have hc : ∀ k, k < 3 → W0.cell? ⟨wa.heap.size, k, none⟩ = some (.int .i64 (three a0 A B k)) := by
    intro k hk
    rw [← hW0, World.cell?_alloc_mark]
    obtain rfl | rfl | rfl : k = 0 ∨ k = 1 ∨ k = 2 := by omega
    · rfl
    · rfl
    · rfl
  have hb0 : Below w.heap.size w W0 := by rw [← hW0]; exact ba.alloc ba.size _
  rw [hW0]
  have HC := Lib.hid hc; clear hc
  go_loopw [33] (fun i wr => ∃ k : Nat, k ≤ 3 ∧ i = .int .i64 k ∧ Below W0.heap.size W0 wr) (fun i _ => 3 - (intOf i).toNat)
  case atStart => exact ⟨0, by omega, rfl, Below.refl _ _⟩
  case round =>
    obtain ⟨k, hk, rfl, hbw⟩ := hrel
    by_cases hlt : k < 3
    · have hcell : wr.cell? ⟨wa.heap.size, k, none⟩ = some (.int .i64 (three a0 A B k)) := (hbw.cell (p := ⟨wa.heap.size, k, none⟩) (by show wa.heap.size < _; omega)).trans (HC.out k hlt)
      generalize three a0 A B k = x at hcell
      have hput := put_all x
      have hrput := refput_all x
      have hl := putR_len x
      generalize (putR x).2 = E at hput hrput
      generalize (putR x).1 = l at hput hrput hl
      have heq := bs_eq (l := l) rfl
      have hS8 : (bs l).size ≤ 8 := by rw [bs_size]; exact hl
      have hpl := pickN_lt a2 ((bs l).size + 1) (by omega)
      generalize hJ : pickN a2 ((bs l).size + 1) = J at hpl
      have HJ := Lib.hid hJ; clear hJ
      have hJS : J ≤ (bs l).size := by omega
      clear hpl hl
      obtain ⟨D, hD⟩ : ∃ D, min (J + m.size) (bs l).size = D := ⟨_, rfl⟩
      have hP8 : (bs (l.take J)).size ≤ 8 := by rw [bs_size, List.length_take]; rw [bs_size] at hS8; omega
      have hR8 : (bs (l.drop D)).size ≤ 8 := by rw [bs_size, List.length_drop]; rw [bs_size] at hS8; omega
      have hR9 : (bs (l.drop J)).size ≤ 8 := by rw [bs_size, List.length_drop]; rw [bs_size] at hS8; omega
      have hsP : (bs l).extract 0 J = bs (l.take J) := bs_take l J
      have hsR : (bs l).extract D (bs l).size = bs (l.drop D) := bs_drop l D
      have hsT : (bs l).extract J (bs l).size = bs (l.drop J) := bs_drop l J
      obtain ⟨S, hS⟩ : ∃ S, bs l = S := ⟨_, rfl⟩
      obtain ⟨P, hP⟩ : ∃ P, bs (l.take J) = P := ⟨_, rfl⟩
      obtain ⟨R, hR⟩ : ∃ R, bs (l.drop D) = R := ⟨_, rfl⟩
      obtain ⟨T, hT⟩ : ∃ T, bs (l.drop J) = T := ⟨_, rfl⟩
      rw [hS] at hput hrput hS8 HJ hJS heq hsP hsR hsT hD
      rw [hP] at hP8 hsP
      rw [hR] at hR8 hsR
      rw [hT] at hR9 hsT
      have hm := HM.out
      obtain ⟨Q, hQ⟩ : ∃ Q, P ++ m = Q := ⟨_, rfl⟩
      have hQs : Q.size ≤ 140737488351240 := by rw [← hQ, ByteArray.size_append]; omega
      have ha1 : ∀ W : World, (Op.stringOp .add P m).run Try.prog W = .ok (.string Q) W := fun W => by rw [← hQ]; exact str_add (by omega) W
      obtain ⟨Y, hY⟩ : ∃ Y, Q ++ R = Y := ⟨_, rfl⟩
      obtain ⟨Z, hZ⟩ : ∃ Z, Q ++ T = Z := ⟨_, rfl⟩
      have hYs : Y.size ≤ 140737488351248 := by rw [← hY, ByteArray.size_append]; omega
      have hZs : Z.size ≤ 140737488351248 := by rw [← hZ, ByteArray.size_append]; omega
      have ha2 : ∀ W : World, (Op.stringOp .add Q R).run Try.prog W = .ok (.string Y) W := fun W => by rw [← hY]; exact str_add (by omega) W
      have ha3 : ∀ W : World, (Op.stringOp .add Q T).run Try.prog W = .ok (.string Z) W := fun W => by rw [← hZ]; exact str_add (by omega) W
      have hw1 : IntKind.i64.wrap ((J : Int) + (m.size : Int)) = (J : Int) + (m.size : Int) := IntWalk.i64_in _ (by omega)
      have hw2 : IntKind.i64.wrap ((S.size : Int) + 1) = (S.size : Int) + 1 := IntWalk.i64_in _ (by omega)
      have HY := Lib.hid hY
      have HQS : Hid (Q.size ≤ 140737488351240) := hQs
      clear hS hP hR hT hQ hY hZ
      have HYS := Lib.hid hYs; clear hYs
      have HZS := Lib.hid hZs; clear hZs
      have HPS := Lib.hid hP8; clear hP8
      clear hR8 hR9 hm
      go_wp2_with fail
      refine (hput _).mono ?_; rintro e W1 ⟨rfl, b1⟩
      go_wp2_with fail
      refine (hrput _).mono ?_; rintro e W2 ⟨rfl, b2⟩
      go_wp2_with fail
      refine (pick_nat _ _ (by omega) (by omega) w2 _).mono ?_; rintro e w' ⟨rfl, rfl⟩
      rw [HJ.out]
      go_wp2_with fail
      by_cases hmn : (S.size : Int) < (J : Int) + (m.size : Int)
      · obtain rfl : S.size = D := by omega
        clear hD
        obtain rfl : ByteArray.empty = R := by rw [← hsR]; simp
        obtain rfl : Q = Y := by rw [← HY.out]; simp
        have hq : ¬ 9223372036854775807 < Q.size := by omega
        clear hQs ha2
        go_region
        have hY9 := HYS.out
        have hZ9 := HZS.out
        have hP9 := HPS.out
        have hs9 := HS.out
        obtain ⟨W3, hW3⟩ : ∃ W3, (W2.alloc (.cells #[.string s, .string S, .string Q, .string Z, .string P] 9)).drew = W3 := ⟨_, rfl⟩
        have hz3 : W3.heap.size = W2.heap.size + 1 := by rw [← hW3]; simp
        have hc3 : ∀ j, j < 5 → ∃ y : ByteArray, y.size ≤ maxLen ∧ W3.cell? ⟨W2.heap.size, j, none⟩ = some (.string y) := by
          intro j hj
          rw [← hW3]
          have hcm : ∀ j, (W2.alloc (.cells #[.string s, .string S, .string Q, .string Z, .string P] 9)).drew.cell? ⟨W2.heap.size, j, none⟩ = #[Value.string s, .string S, .string Q, .string Z, .string P][j]? := fun j => World.cell?_alloc_mark _ _ _ _ j
          obtain rfl | rfl | rfl | rfl | rfl : j = 0 ∨ j = 1 ∨ j = 2 ∨ j = 3 ∨ j = 4 := by omega
          · exact ⟨s, by unfold maxLen; omega, hcm 0⟩
          · exact ⟨S, by unfold maxLen; omega, hcm 1⟩
          · exact ⟨Q, by unfold maxLen; omega, hcm 2⟩
          · exact ⟨Z, by unfold maxLen; omega, hcm 3⟩
          · exact ⟨P, by unfold maxLen; omega, hcm 4⟩
        have hb3 : Below W0.heap.size W0 W3 := by
          rw [← hW3]
          have h12 := bch (bch hbw b1) b2
          exact (h12.alloc h12.size _).drew
        rw [hW3]
        have HC3 := Lib.hid hc3; clear hc3
        clear hY9 hZ9 hP9 hs9 hW3
        go_wp2_with fail
        go_loopw [91] (fun i wr => ∃ j : Nat, j ≤ 5 ∧ i = .int .i64 j ∧ Below W3.heap.size W3 wr) (fun i _ => 5 - (intOf i).toNat)
        case atStart => exact ⟨0, by omega, rfl, Below.refl _ _⟩
        case round =>
          obtain ⟨j, hj, rfl, hbw3⟩ := hrel
          by_cases hlt3 : j < 5
          · obtain ⟨y, hy, hcy0⟩ := HC3.out j hlt3
            have hcy : wr.cell? ⟨W2.heap.size, j, none⟩ = some (.string y) := (hbw3.cell (p := ⟨W2.heap.size, j, none⟩) (by show W2.heap.size < _; omega)).trans hcy0
            clear hcy0
            have ht := take_any y hy
            have hr := reftake_any y hy
            generalize (takeR y.data.toList).1 = q1 at ht hr
            generalize (takeR y.data.toList).2.1 = q2 at ht hr
            generalize (takeR y.data.toList).2.2 = q3 at ht hr
            go_wp2_with fail
            refine (ht _).mono ?_; rintro e V1 ⟨rfl, c1⟩
            go_wp2_with fail
            refine (hr _).mono ?_; rintro e V2 ⟨rfl, rfl⟩
            go_wp2_with fail
            go_roundw
            case rel => exact ⟨j + 1, by omega, by go_num, bch hbw3 c1⟩
            case measure => simp [intOf]; omega
          · go_wp2_with fail
            go_roundw
            case rel => exact ⟨k + 1, by omega, by go_num, hb3.trans (hbw3.mono hb3.size)⟩
            case measure => simp [intOf]; omega
      · obtain rfl : J + m.size = D := by omega
        clear hD hQs
        have hmn2 : (J : Int) + (m.size : Int) ≤ (S.size : Int) := by omega
        go_region
        have hY9 := HYS.out
        have hZ9 := HZS.out
        have hP9 := HPS.out
        have hs9 := HS.out
        obtain ⟨W3, hW3⟩ : ∃ W3, (W2.alloc (.cells #[.string s, .string S, .string Y, .string Z, .string P] 9)).drew = W3 := ⟨_, rfl⟩
        have hz3 : W3.heap.size = W2.heap.size + 1 := by rw [← hW3]; simp
        have hc3 : ∀ j, j < 5 → ∃ y : ByteArray, y.size ≤ maxLen ∧ W3.cell? ⟨W2.heap.size, j, none⟩ = some (.string y) := by
          intro j hj
          rw [← hW3]
          have hcm : ∀ j, (W2.alloc (.cells #[.string s, .string S, .string Y, .string Z, .string P] 9)).drew.cell? ⟨W2.heap.size, j, none⟩ = #[Value.string s, .string S, .string Y, .string Z, .string P][j]? := fun j => World.cell?_alloc_mark _ _ _ _ j
          obtain rfl | rfl | rfl | rfl | rfl : j = 0 ∨ j = 1 ∨ j = 2 ∨ j = 3 ∨ j = 4 := by omega
          · exact ⟨s, by unfold maxLen; omega, hcm 0⟩
          · exact ⟨S, by unfold maxLen; omega, hcm 1⟩
          · exact ⟨Y, by unfold maxLen; omega, hcm 2⟩
          · exact ⟨Z, by unfold maxLen; omega, hcm 3⟩
          · exact ⟨P, by unfold maxLen; omega, hcm 4⟩
        have hb3 : Below W0.heap.size W0 W3 := by
          rw [← hW3]
          have h12 := bch (bch hbw b1) b2
          exact (h12.alloc h12.size _).drew
        rw [hW3]
        have HC3 := Lib.hid hc3; clear hc3
        clear hY9 hZ9 hP9 hs9 hW3
        go_wp2_with fail
        go_loopw [91] (fun i wr => ∃ j : Nat, j ≤ 5 ∧ i = .int .i64 j ∧ Below W3.heap.size W3 wr) (fun i _ => 5 - (intOf i).toNat)
        case atStart => exact ⟨0, by omega, rfl, Below.refl _ _⟩
        case round =>
          obtain ⟨j, hj, rfl, hbw3⟩ := hrel
          by_cases hlt3 : j < 5
          · obtain ⟨y, hy, hcy0⟩ := HC3.out j hlt3
            have hcy : wr.cell? ⟨W2.heap.size, j, none⟩ = some (.string y) := (hbw3.cell (p := ⟨W2.heap.size, j, none⟩) (by show W2.heap.size < _; omega)).trans hcy0
            clear hcy0
            have ht := take_any y hy
            have hr := reftake_any y hy
            generalize (takeR y.data.toList).1 = q1 at ht hr
            generalize (takeR y.data.toList).2.1 = q2 at ht hr
            generalize (takeR y.data.toList).2.2 = q3 at ht hr
            go_wp2_with fail
            refine (ht _).mono ?_; rintro e V1 ⟨rfl, c1⟩
            go_wp2_with fail
            refine (hr _).mono ?_; rintro e V2 ⟨rfl, rfl⟩
            go_wp2_with fail
            go_roundw
            case rel => exact ⟨j + 1, by omega, by go_num, bch hbw3 c1⟩
            case measure => simp [intOf]; omega
          · go_wp2_with fail
            go_roundw
            case rel => exact ⟨k + 1, by omega, by go_num, hb3.trans (hbw3.mono hb3.size)⟩
            case measure => simp [intOf]; omega
    · go_wp2_with fail
      go_ret
      exact ⟨rfl, hb0.trans (hbw.mono hb0.size)⟩
end Go.Proofs.Ytjhpebfapddciaa
