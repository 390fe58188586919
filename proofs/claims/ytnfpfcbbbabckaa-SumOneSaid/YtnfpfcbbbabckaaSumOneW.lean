import Derived.Test.YtnfpfcbbbabckaaSumAwake
import Derived.Test.YtnfpfcbbbabckaaGPick
/-
  The walk of the law SumOne.
-/
namespace Go.Proofs.Ytnfpfcbbbabckaa
open Go.RowKit
set_option linter.unusedVariables false

set_option maxRecDepth 100000 in
set_option maxHeartbeats 4000000 in
theorem sumOne_walk (s : ByteArray) (a1 a2 : Int) (w : World) (hs : s.size ≤ 140737488351232) (w1 : (Lit.int .i64 a1).wf = true) (w2 : (Lit.int .i64 a2).wf = true) :
    Calls Try.prog 7 #[.string s, .int .i64 a1, .int .i64 a2] w fun e w' => e = .returned (.bool true) ∧ Below w.heap.size w w' := by
  have p1 := pickS_nat a1 4294967296 (by omega) (by omega) w1
  have p2 := pickS_nat a2 4294967296 (by omega) (by omega) w2
  have k1 := pickN_lt a1 4294967296 (by omega)
  have k2 := pickN_lt a2 4294967296 (by omega)
  generalize pickN a1 4294967296 = x at p1 k1
  generalize pickN a2 4294967296 = y at p2 k2
  have hx : x < 4294967296 := by omega
  have hy : y < 4294967296 := by omega
  obtain ⟨m, hm, m1, m2⟩ := least s 1000
  obtain ⟨A, hA⟩ : ∃ A, s.extract 0 m = A := ⟨_, rfl⟩
  have hAs : A.size ≤ 1000 := by rw [← hA, ByteArray.size_extract]; omega
  have hsl := slice_to hA m1
  obtain ⟨P, hP⟩ : ∃ P, bs (le4 x) = P := ⟨_, rfl⟩
  obtain ⟨Q, hQ⟩ : ∃ Q, bs (le4 y) = Q := ⟨_, rfl⟩
  have y1 := bytes_at hx hP
  have y2 := bytes_at hy hQ
  have dP : P.data.toList = le4 x := by rw [← hP, bs_data]
  have dQ : Q.data.toList = le4 y := by rw [← hQ, bs_data]
  have zP : P.size = 4 := by rw [← hP, bs_size]; rfl
  have zQ : Q.size = 4 := by rw [← hQ, bs_size]; rfl
  obtain ⟨f1, f2, f3⟩ := sum_one A.data.toList hx hy
  obtain ⟨PA, hPA⟩ : ∃ T, P ++ A = T := ⟨_, rfl⟩
  obtain ⟨QA, hQA⟩ : ∃ T, Q ++ A = T := ⟨_, rfl⟩
  obtain ⟨AP, hAP⟩ : ∃ T, A ++ P = T := ⟨_, rfl⟩
  obtain ⟨AQ, hAQ⟩ : ∃ T, A ++ Q = T := ⟨_, rfl⟩
  have s1 : PA.size = P.size + A.size := by rw [← hPA]; exact ByteArray.size_append
  have s2 : QA.size = Q.size + A.size := by rw [← hQA]; exact ByteArray.size_append
  have s3 : AP.size = A.size + P.size := by rw [← hAP]; exact ByteArray.size_append
  have s4 : AQ.size = A.size + Q.size := by rw [← hAQ]; exact ByteArray.size_append
  have t1 : ∀ W : World, (Op.stringOp .add P A).run Try.prog W = .ok (.string PA) W := fun W => by rw [str_add (by omega), hPA]
  have t2 : ∀ W : World, (Op.stringOp .add Q A).run Try.prog W = .ok (.string QA) W := fun W => by rw [str_add (by omega), hQA]
  have t3 : ∀ W : World, (Op.stringOp .add A P).run Try.prog W = .ok (.string AP) W := fun W => by rw [str_add (by omega), hAP]
  have t4 : ∀ W : World, (Op.stringOp .add A Q).run Try.prog W = .ok (.string AQ) W := fun W => by rw [str_add (by omega), hAQ]
  have e1 : PA.data.toList = le4 x ++ A.data.toList := by rw [← hPA, add_data, dP]
  have e2 : QA.data.toList = le4 y ++ A.data.toList := by rw [← hQA, add_data, dQ]
  have e3 : AP.data.toList = A.data.toList ++ le4 x := by rw [← hAP, add_data, dP]
  have e4 : AQ.data.toList = A.data.toList ++ le4 y := by rw [← hAQ, add_data, dQ]
  obtain ⟨u1, hu1⟩ : ∃ u, sumR (le4 x) = u := ⟨_, rfl⟩
  obtain ⟨u2, hu2⟩ : ∃ u, sumR (le4 y) = u := ⟨_, rfl⟩
  obtain ⟨u3, hu3⟩ : ∃ u, sumR (le4 x ++ A.data.toList) = u := ⟨_, rfl⟩
  obtain ⟨u4, hu4⟩ : ∃ u, sumR (le4 y ++ A.data.toList) = u := ⟨_, rfl⟩
  obtain ⟨u5, hu5⟩ : ∃ u, sumR (A.data.toList ++ le4 x) = u := ⟨_, rfl⟩
  obtain ⟨u6, hu6⟩ : ∃ u, sumR (A.data.toList ++ le4 y) = u := ⟨_, rfl⟩
  obtain ⟨u7, hu7⟩ : ∃ u, sumR A.data.toList = u := ⟨_, rfl⟩
  have o1 := of_list dP hu1 (by omega)
  have o2 := of_list dQ hu2 (by omega)
  have o3 := of_list e1 hu3 (by omega)
  have o4 := of_list e2 hu4 (by omega)
  have o5 := of_list e3 hu5 (by omega)
  have o6 := of_list e4 hu6 (by omega)
  have o7 := of_list (S := A) rfl hu7 (by omega)
  have hl7 : u7 < 4294967296 := by rw [← hu7]; exact sumR_lt _
  rw [hu1, hu2] at f1
  rw [hu3, hu4] at f2
  rw [hu5, hu6] at f3
  have g1 := beqI f1
  have g2 := beqI f2
  have g3 := beqI f3
  replace hm : (if (1000 : Int) < (s.size : Int) then (1000 : Int) else (s.size : Int)) = (m : Int) := hm
  clear m1 m2
  clear f1 f2 f3 hu1 hu2 hu3 hu4 hu5 hu6 hu7 e1 e2 e3 e4 s1 s2 s3 s4 hPA hQA hAP hAQ dP dQ zP zQ hP hQ hA k1 k2 hx hy hAs
  have G7 : (u7 : Int) ≤ 4294967295 := by omega
  obtain ⟨b, hb⟩ : ∃ b, ((x : Int) == (y : Int)) = b := ⟨_, rfl⟩
  rw [hb] at g1 g2 g3
  go_enter Try.func7, Try.ntmps7
  go_wp2_with fail
  ((with_reducible refine (awake5_any _).mono ?_); rintro e W1 ⟨rfl, b1⟩)
  go_wp2_with fail
  ((with_reducible refine (p1 _).mono ?_); rintro e W ⟨rfl, rfl⟩)
  go_wp2_with fail
  ((with_reducible refine (p2 _).mono ?_); rintro e W ⟨rfl, rfl⟩)
  go_wp2_with fail
  ((with_reducible refine (y1 _).mono ?_); rintro e W2 ⟨rfl, b2⟩)
  go_wp2_with fail
  ((with_reducible refine (y2 _).mono ?_); rintro e W3 ⟨rfl, b3⟩)
  go_wp2_with fail
  ((with_reducible refine (o1 _).mono ?_); rintro e W ⟨rfl, rfl⟩)
  go_wp2_with fail
  ((with_reducible refine (o2 _).mono ?_); rintro e W ⟨rfl, rfl⟩)
  go_wp2_with fail
  ((with_reducible refine (o3 _).mono ?_); rintro e W ⟨rfl, rfl⟩)
  go_wp2_with fail
  ((with_reducible refine (o4 _).mono ?_); rintro e W ⟨rfl, rfl⟩)
  go_wp2_with fail
  ((with_reducible refine (o5 _).mono ?_); rintro e W ⟨rfl, rfl⟩)
  go_wp2_with fail
  ((with_reducible refine (o6 _).mono ?_); rintro e W ⟨rfl, rfl⟩)
  go_wp2_with fail
  ((with_reducible refine (o7 _).mono ?_); rintro e W ⟨rfl, rfl⟩)
  go_wp2_with fail
  ((with_reducible refine (o7 _).mono ?_); rintro e W ⟨rfl, rfl⟩)
  go_wp2_with fail
  go_ret
  exact ⟨ret_bool (decide_eq_true (by omega)), bch (bch b1 b2) b3⟩
end Go.Proofs.Ytnfpfcbbbabckaa
