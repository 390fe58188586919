import Derived.Test.YtnfpfcbbbabckaaSumAwake
/-
  The walk of the law SumBehind.
-/
namespace Go.Proofs.Ytnfpfcbbbabckaa
open Go.RowKit
set_option linter.unusedVariables false

set_option maxRecDepth 100000 in
set_option maxHeartbeats 4000000 in
theorem sumBehind_walk (s t r : ByteArray) (w : World) (hs : s.size ≤ 140737488351232) (ht : t.size ≤ 140737488351232) (hr : r.size ≤ 140737488351232) :
    Calls Try.prog 5 #[.string s, .string t, .string r] w fun e w' => e = .returned (.bool true) ∧ Below w.heap.size w w' := by
  obtain ⟨m, hm, m1, m2⟩ := least s 1000
  obtain ⟨A, hA⟩ : ∃ A, s.extract 0 m = A := ⟨_, rfl⟩
  have hAs : A.size ≤ 1000 := by rw [← hA, ByteArray.size_extract]; omega
  have hsl1 := slice_to hA m1
  replace hm : (if (1000 : Int) < (s.size : Int) then (1000 : Int) else (s.size : Int)) = (m : Int) := hm
  obtain ⟨n, hn, n1, n2⟩ := least t 1000
  obtain ⟨B, hB⟩ : ∃ B, t.extract 0 n = B := ⟨_, rfl⟩
  have hBs : B.size ≤ 1000 := by rw [← hB, ByteArray.size_extract]; omega
  have hsl2 := slice_to hB n1
  replace hn : (if (1000 : Int) < (t.size : Int) then (1000 : Int) else (t.size : Int)) = (n : Int) := hn
  obtain ⟨k, hk, k1, k2⟩ := least r 1000
  obtain ⟨C, hC⟩ : ∃ C, r.extract 0 k = C := ⟨_, rfl⟩
  have hCs : C.size ≤ 1000 := by rw [← hC, ByteArray.size_extract]; omega
  have hsl3 := slice_to hC k1
  replace hk : (if (1000 : Int) < (r.size : Int) then (1000 : Int) else (r.size : Int)) = (k : Int) := hk
  clear m1 m2 n1 n2 k1 k2 hA hB hC
  obtain ⟨u1, hu1⟩ : ∃ u, sumR A.data.toList = u := ⟨_, rfl⟩
  obtain ⟨u2, hu2⟩ : ∃ u, sumR B.data.toList = u := ⟨_, rfl⟩
  have l1 : u1 < 4294967296 := by rw [← hu1]; exact sumR_lt _
  have l2 : u2 < 4294967296 := by rw [← hu2]; exact sumR_lt _
  obtain ⟨P, hP⟩ : ∃ P, bs (le4 u1) = P := ⟨_, rfl⟩
  obtain ⟨Q, hQ⟩ : ∃ Q, bs (le4 u2) = Q := ⟨_, rfl⟩
  have y1 := bytes_at l1 hP
  have y2 := bytes_at l2 hQ
  have dP : P.data.toList = le4 u1 := by rw [← hP, bs_data]
  have dQ : Q.data.toList = le4 u2 := by rw [← hQ, bs_data]
  have zP : P.size = 4 := by rw [← hP, bs_size]; rfl
  have zQ : Q.size = 4 := by rw [← hQ, bs_size]; rfl
  obtain ⟨f1, f2, f3⟩ := sum_behind A.data.toList B.data.toList C.data.toList
  rw [hu1, hu2] at f1 f2 f3
  obtain ⟨X, hX⟩ : ∃ T, A ++ P = T := ⟨_, rfl⟩
  obtain ⟨Y, hY⟩ : ∃ T, B ++ Q = T := ⟨_, rfl⟩
  have s1 : X.size = A.size + P.size := by rw [← hX]; exact ByteArray.size_append
  have s2 : Y.size = B.size + Q.size := by rw [← hY]; exact ByteArray.size_append
  have t1 : ∀ W : World, (Op.stringOp .add A P).run Try.prog W = .ok (.string X) W := fun W => by rw [str_add (by omega), hX]
  have t2 : ∀ W : World, (Op.stringOp .add B Q).run Try.prog W = .ok (.string Y) W := fun W => by rw [str_add (by omega), hY]
  have e1 : X.data.toList = A.data.toList ++ le4 u1 := by rw [← hX, add_data, dP]
  have e2 : Y.data.toList = B.data.toList ++ le4 u2 := by rw [← hY, add_data, dQ]
  obtain ⟨XC, hXC⟩ : ∃ T, X ++ C = T := ⟨_, rfl⟩
  obtain ⟨YC, hYC⟩ : ∃ T, Y ++ C = T := ⟨_, rfl⟩
  obtain ⟨AC, hAC⟩ : ∃ T, A ++ C = T := ⟨_, rfl⟩
  obtain ⟨BC, hBC⟩ : ∃ T, B ++ C = T := ⟨_, rfl⟩
  have s3 : XC.size = X.size + C.size := by rw [← hXC]; exact ByteArray.size_append
  have s4 : YC.size = Y.size + C.size := by rw [← hYC]; exact ByteArray.size_append
  have s5 : AC.size = A.size + C.size := by rw [← hAC]; exact ByteArray.size_append
  have s6 : BC.size = B.size + C.size := by rw [← hBC]; exact ByteArray.size_append
  have t3 : ∀ W : World, (Op.stringOp .add X C).run Try.prog W = .ok (.string XC) W := fun W => by rw [str_add (by omega), hXC]
  have t4 : ∀ W : World, (Op.stringOp .add Y C).run Try.prog W = .ok (.string YC) W := fun W => by rw [str_add (by omega), hYC]
  have t5 : ∀ W : World, (Op.stringOp .add A C).run Try.prog W = .ok (.string AC) W := fun W => by rw [str_add (by omega), hAC]
  have t6 : ∀ W : World, (Op.stringOp .add B C).run Try.prog W = .ok (.string BC) W := fun W => by rw [str_add (by omega), hBC]
  have e3 : XC.data.toList = (A.data.toList ++ le4 u1) ++ C.data.toList := by rw [← hXC, add_data, e1]
  have e4 : YC.data.toList = (B.data.toList ++ le4 u2) ++ C.data.toList := by rw [← hYC, add_data, e2]
  have e5 : AC.data.toList = A.data.toList ++ C.data.toList := by rw [← hAC, add_data]
  have e6 : BC.data.toList = B.data.toList ++ C.data.toList := by rw [← hBC, add_data]
  obtain ⟨v1, hv1⟩ : ∃ u, sumR (A.data.toList ++ le4 u1) = u := ⟨_, rfl⟩
  obtain ⟨v2, hv2⟩ : ∃ u, sumR (B.data.toList ++ le4 u2) = u := ⟨_, rfl⟩
  obtain ⟨v3, hv3⟩ : ∃ u, sumR ((A.data.toList ++ le4 u1) ++ C.data.toList) = u := ⟨_, rfl⟩
  obtain ⟨v4, hv4⟩ : ∃ u, sumR ((B.data.toList ++ le4 u2) ++ C.data.toList) = u := ⟨_, rfl⟩
  obtain ⟨v5, hv5⟩ : ∃ u, sumR (A.data.toList ++ C.data.toList) = u := ⟨_, rfl⟩
  obtain ⟨v6, hv6⟩ : ∃ u, sumR (B.data.toList ++ C.data.toList) = u := ⟨_, rfl⟩
  have o1 := of_list (S := A) rfl hu1 (by omega)
  have o2 := of_list (S := B) rfl hu2 (by omega)
  have o3 := of_list e1 hv1 (by omega)
  have o4 := of_list e2 hv2 (by omega)
  have o5 := of_list e3 hv3 (by omega)
  have o6 := of_list e4 hv4 (by omega)
  have o7 := of_list e5 hv5 (by omega)
  have o8 := of_list e6 hv6 (by omega)
  rw [hv1, hv2] at f1
  rw [hv3, hv4] at f2
  rw [hv5, hv6] at f3
  have g1 := beqT f1
  have g2 := beqT f2
  have g3 := beqI f3
  clear f1 f2 f3 hu1 hu2 hv1 hv2 hv3 hv4 hv5 hv6 e1 e2 e3 e4 e5 e6 s1 s2 s3 s4 s5 s6 hX hY hXC hYC hAC hBC dP dQ zP zQ hP hQ hAs hBs hCs
  obtain ⟨b, hb⟩ : ∃ b, ((v5 : Int) == (v6 : Int)) = b := ⟨_, rfl⟩
  rw [hb] at g3
  go_enter Try.func5, Try.ntmps5
  go_wp2_with fail
  ((with_reducible refine (awake5_any _).mono ?_); rintro e W1 ⟨rfl, b1⟩)
  go_wp2_with fail
  ((with_reducible refine (o1 _).mono ?_); rintro e W ⟨rfl, rfl⟩)
  go_wp2_with fail
  ((with_reducible refine (y1 _).mono ?_); rintro e W2 ⟨rfl, b2⟩)
  go_wp2_with fail
  ((with_reducible refine (o2 _).mono ?_); rintro e W ⟨rfl, rfl⟩)
  go_wp2_with fail
  ((with_reducible refine (y2 _).mono ?_); rintro e W3 ⟨rfl, b3⟩)
  go_wp2_with fail
  ((with_reducible refine (o3 _).mono ?_); rintro e W ⟨rfl, rfl⟩)
  go_wp2_with fail
  ((with_reducible refine (o4 _).mono ?_); rintro e W ⟨rfl, rfl⟩)
  go_wp2_with fail
  ((with_reducible refine (o5 _).mono ?_); rintro e W ⟨rfl, rfl⟩)
  go_wp2_with fail
  ((with_reducible refine (o6 _).mono ?_); rintro e W ⟨rfl, rfl⟩)
  go_wp2_with fail
  ((with_reducible refine (o1 _).mono ?_); rintro e W ⟨rfl, rfl⟩)
  go_wp2_with fail
  ((with_reducible refine (o2 _).mono ?_); rintro e W ⟨rfl, rfl⟩)
  go_wp2_with fail
  ((with_reducible refine (o7 _).mono ?_); rintro e W ⟨rfl, rfl⟩)
  go_wp2_with fail
  ((with_reducible refine (o8 _).mono ?_); rintro e W ⟨rfl, rfl⟩)
  go_wp2_with fail
  go_ret
  exact ⟨rfl, bch (bch b1 b2) b3⟩
end Go.Proofs.Ytnfpfcbbbabckaa
