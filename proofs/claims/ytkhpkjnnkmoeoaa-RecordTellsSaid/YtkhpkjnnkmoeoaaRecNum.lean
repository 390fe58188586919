/-
  The contracts of record.numberData, of the document's own number and whole, and of record.takeText and takeNumber's reading: numD, wholeN; nothing that was in memory changes.
-/
import Derived.Test.YtkhpkjnnkmoeoaaRecRight
import Derived.Test.YtkhpkjnnkmoeoaaRefTake
import Derived.Test.YtkhpkjnnkmoeoaaDecode
namespace Go.Proofs.Ytkhpkjnnkmoeoaa
open Go.RowKit

theorem numD_bs {n : Int} (h : n ≠ 0) : numD n = bs (vb n.toNat) := by unfold numD bs; rw [if_neg h]
set_option maxHeartbeats 400000 in
theorem numberData_any (n : Int) (h1 : 0 ≤ n) (h2 : n ≤ 9007199254740992) (w : World) :
    Calls Try.prog 48 #[.int .i64 n] w fun e w' => e = .returned (.string (numD n)) ∧ Below w.heap.size w w' := by
  by_cases h0 : n = 0
  · subst h0
    go_enter Try.func48, Try.ntmps48
    go_wp2_with fail
    go_ret
    exact ⟨rfl, Below.refl _ _⟩
  · have hp := put_ok n h1 h2
    rw [← numD_bs h0] at hp
    have e0 : (n == 0) = false := by simpa using h0
    clear h1 h2 h0
    generalize numD n = S at hp ⊢
    go_enter Try.func48, Try.ntmps48
    go_wp2_with fail
    refine (hp _).mono ?_; rintro e w1 ⟨rfl, b1⟩
    go_wp2_with fail
    go_ret
    exact ⟨rfl, b1⟩
set_option maxHeartbeats 400000 in
theorem refnumber_any (n : Int) (h1 : 0 ≤ n) (h2 : n ≤ 9007199254740992) (w : World) :
    Calls Try.prog 27 #[.int .i64 n] w fun e w' => e = .returned (.string (numD n)) ∧ Below w.heap.size w w' := by
  by_cases h0 : n = 0
  · subst h0
    go_enter Try.func27, Try.ntmps27
    go_wp2_with fail
    go_ret
    exact ⟨rfl, Below.refl _ _⟩
  · have hp := refput_ok n h1 h2
    rw [← numD_bs h0] at hp
    have e0 : (n == 0) = false := by simpa using h0
    clear h1 h2 h0
    generalize numD n = S at hp ⊢
    go_enter Try.func27, Try.ntmps27
    go_wp2_with fail
    refine (hp _).mono ?_; rintro e w1 ⟨rfl, b1⟩
    go_wp2_with fail
    go_ret
    exact ⟨rfl, b1⟩
set_option maxHeartbeats 400000 in
theorem refwhole_any (s : ByteArray) (hs : s.size ≤ maxLen) (w : World) :
    Calls Try.prog 40 #[.string s] w fun e w' => e = .returned (.int .i64 (wholeN s.data.toList)) ∧ w = w' := by
  have hp := reftake_any s hs
  have he := takeR_err s.data.toList
  have hl : s.data.toList.length = s.size := by simp
  obtain ⟨W, hW⟩ : ∃ W, wholeN s.data.toList = W := ⟨_, rfl⟩
  rw [hW]
  unfold wholeN at hW
  rw [hl] at hW
  clear hl
  unfold maxLen at hs
  generalize (takeR s.data.toList).1 = n at *
  generalize (takeR s.data.toList).2.1 = k at *
  generalize (takeR s.data.toList).2.2 = x at *
  have HW := Lib.hid hW; clear hW
  rcases he with rfl | rfl | rfl
  · by_cases hk : k = s.size
    · have HE : Hid (W = n) := by have := HW.out; rw [if_pos ⟨rfl, hk⟩] at this; exact this.symm
      have e1 : ((k : Int) != (s.size : Int)) = false := by simp; omega
      clear hk
      go_enter Try.func40, Try.ntmps40
      go_wp2_with fail
      refine (hp _).mono ?_; rintro e w1 ⟨rfl, rfl⟩
      go_wp2_with fail
      go_ret
      exact ⟨ret_int (by rw [HE.out]), rfl⟩
    · have HE : Hid (W = 0) := by have := HW.out; rw [if_neg (fun h => hk h.2)] at this; exact this.symm
      have e1 : ((k : Int) != (s.size : Int)) = true := by simp; omega
      clear hk
      go_enter Try.func40, Try.ntmps40
      go_wp2_with fail
      refine (hp _).mono ?_; rintro e w1 ⟨rfl, rfl⟩
      go_wp2_with fail
      go_ret
      exact ⟨ret_int (by rw [HE.out]; rfl), rfl⟩
  all_goals
    have HE : Hid (W = 0) := by have := HW.out; rw [if_neg (fun h => by omega)] at this; exact this.symm
    go_enter Try.func40, Try.ntmps40
    go_wp2_with fail
    refine (hp _).mono ?_; rintro e w1 ⟨rfl, rfl⟩
    go_wp2_with fail
    go_ret
    exact ⟨ret_int (by rw [HE.out]; rfl), rfl⟩
end Go.Proofs.Ytkhpkjnnkmoeoaa
