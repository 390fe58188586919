import Derived.Test.YtjdpihppniibjaaWire
import Derived.Test.YtjdpihppniibjaaWireEnc
import Derived.Test.YtjdpihppniibjaaGPick
import Derived.BigRegion
import Derived.BigQuiet
/-
  The contracts of the program's own placesOf and of the methods of places (stage 8).
-/
namespace Go.Proofs.Ytjdpihppniibjaa
open Go.RowKit
set_option linter.unusedVariables false
/-- Where a message has its fields. -/
def plV (g : Nat) : Value := .agg #[.iface 79 (.pointer (some ⟨g, 0, none⟩)), .iface 79 (.pointer (some ⟨g, 1, none⟩)), .iface 79 (.pointer (some ⟨g, 2, none⟩)), .iface 79 (.pointer (some ⟨g, 3, none⟩)), .iface 81 (.pointer (some ⟨g, 4, none⟩)), .iface 79 (.pointer (some ⟨g, 5, none⟩))]
set_option maxRecDepth 100000 in
set_option maxHeartbeats 2000000 in
theorem placesOf_any (g : Nat) (m : Mg) (w : World) (h : MgBlk w g m) : Calls Try.prog 34 #[.pointer (some ⟨g, 0, none⟩)] w fun e w' => e = .returned (plV g) ∧ Below w.heap.size w w' := by
  have HM := Lib.hid h
  clear h
  go_enter Try.func34, Try.ntmps34
  go_wp2_with fail
  go_region
  go_wp2_with fail
  refine bodyPost_ret (v := plV g) (by unfold plV; simp [results, Try.results34, go_sem]) rfl ⟨rfl, ?_⟩
  exact ((Below.refl _ _).alloc (Nat.le_refl _) _).drew
/-- The methods of places, by their names. -/
@[go_sem] theorem meth_nd (k : Nat) (v : Value) (w : World) : (method (k + 1) 79 v "careen/wire.data").run Try.prog w = .ok (64, v) w := by rfl
@[go_sem] theorem meth_td (k : Nat) (v : Value) (w : World) : (method (k + 1) 81 v "careen/wire.data").run Try.prog w = .ok (66, v) w := by rfl
@[go_sem] theorem meth_nt (k : Nat) (v : Value) (w : World) : (method (k + 1) 79 v "careen/wire.take").run Try.prog w = .ok (65, v) w := by rfl
@[go_sem] theorem meth_tt (k : Nat) (v : Value) (w : World) : (method (k + 1) 81 v "careen/wire.take").run Try.prog w = .ok (67, v) w := by rfl

set_option maxRecDepth 100000 in
set_option maxHeartbeats 1000000 in
theorem numData_any (g j : Nat) (n : Int) (h0 : 0 ≤ n) (h1 : n ≤ 9007199254740992) (w : World) (h : w.cell? ⟨g, j, none⟩ = some (.int .i64 n)) :
    Calls Try.prog 64 #[.pointer (some ⟨g, j, none⟩)] w fun e w' => e = .returned (.string (numD n)) ∧ Below w.heap.size w w' := by
  by_cases hz : n = 0
  · have HE : Hid (numD n = ⟨#[]⟩) := by show _ = _; unfold numD; rw [if_pos hz]; rfl
    subst hz
    go_enter Try.func64, Try.ntmps64
    go_wp2_with fail
    go_ret
    exact ⟨by rw [HE.out]; rfl, Below.refl _ _⟩
  · have q := fun W => put_ok n h0 h1 W
    have hD : bs (vb n.toNat) = numD n := by unfold numD; rw [if_neg hz]; rfl
    rw [hD] at q
    have hz' : (n == 0) = false := by simpa using hz
    clear hz hD h0 h1
    generalize numD n = D at *
    go_enter Try.func64, Try.ntmps64
    go_wp2_with fail
    ((with_reducible refine (q _).mono ?_); rintro e W1 ⟨rfl, b1⟩)
    go_wp2_with fail
    go_ret
    exact ⟨rfl, b1⟩
set_option maxRecDepth 100000 in
set_option maxHeartbeats 1000000 in
theorem textData_any (g j : Nat) (d : ByteArray) (w : World) (h : w.cell? ⟨g, j, none⟩ = some (.string d)) :
    Calls Try.prog 66 #[.pointer (some ⟨g, j, none⟩)] w fun e w' => e = .returned (.string d) ∧ Below w.heap.size w w' := by
  go_enter Try.func66, Try.ntmps66
  go_wp2_with fail
  go_ret
  exact ⟨rfl, Below.refl _ _⟩
def numOk (d : ByteArray) : Bool := decide (0 < wholeN d.data.toList)
set_option maxRecDepth 100000 in
set_option maxHeartbeats 1000000 in
theorem numTake_any (b j : Nat) (d : ByteArray) (w : World) (hd : d.size ≤ maxLen) (hc : ∃ n, w.cell? ⟨b, j, none⟩ = some (.int .i64 n)) (hf : w.frozen? ⟨b, j, none⟩ = false) :
    Calls Try.prog 65 #[.pointer (some ⟨b, j, none⟩), .string d] w fun e w' => e = .returned (.bool (numOk d)) ∧ ∃ (n : Nat) (w1 : World), (numOk d = true → n = wholeN d.data.toList) ∧ Below w.heap.size w w1 ∧ w1.setCell ⟨b, j, none⟩ (.int .i64 n) = w' := by
  obtain ⟨s, hc⟩ := hc
  have hlt := lt_of_cell (a := ⟨b, j, none⟩) hc
  have p1 := take_any d hd
  have he := takeR_err d.data.toList
  have hl : d.data.toList.length = d.size := by simp
  obtain ⟨W, hW⟩ : ∃ W, wholeN d.data.toList = W := ⟨_, rfl⟩
  have hB : numOk d = decide (0 < W) := by unfold numOk; rw [hW]
  rw [hB, hW]
  clear hB
  unfold wholeN at hW
  rw [hl] at hW
  clear hl
  unfold maxLen at hd
  generalize (takeR d.data.toList).1 = n at *
  generalize (takeR d.data.toList).2.1 = k at *
  generalize (takeR d.data.toList).2.2 = x at *
  have HW := Lib.hid hW; clear hW
  rcases he with rfl | rfl | rfl
  · by_cases hk : k = d.size
    · have HE : Hid (W = n) := by have := HW.out; rw [if_pos ⟨rfl, hk⟩] at this; exact this.symm
      have e1 : ((k : Int) == (d.size : Int)) = true := by simp; omega
      clear hk
      by_cases h0 : 0 < n
      · have h0' : 0 < (n : Int) := by omega
        go_enter Try.func65, Try.ntmps65
        go_wp2_with fail
        refine (p1 _).mono ?_; rintro e w1 ⟨rfl, b1⟩; have hc1 := (b1.cell (p := ⟨b, j, none⟩) hlt).trans hc; have hf1 := (b1.frozen (p := ⟨b, j, none⟩) hlt).trans hf
        go_wp2_with fail
        go_ret
        exact ⟨ret_bool (by rw [HE.out]; simp; omega), n, w1, fun _ => HE.out.symm, b1, rfl⟩
      · have h0' : decide (0 < (n : Int)) = false := by simp; omega
        have h0'' : decide (0 < n) = false := by simp; omega
        go_enter Try.func65, Try.ntmps65
        go_wp2_with fail
        refine (p1 _).mono ?_; rintro e w1 ⟨rfl, b1⟩; have hc1 := (b1.cell (p := ⟨b, j, none⟩) hlt).trans hc; have hf1 := (b1.frozen (p := ⟨b, j, none⟩) hlt).trans hf
        go_wp2_with fail
        go_ret
        exact ⟨ret_bool (by rw [HE.out]; simp; omega), n, w1, fun _ => HE.out.symm, b1, rfl⟩
    · have HE : Hid (W = 0) := by have := HW.out; rw [if_neg (fun h => hk h.2)] at this; exact this.symm
      have e1 : ((k : Int) == (d.size : Int)) = false := by simp; omega
      clear hk
      go_enter Try.func65, Try.ntmps65
      go_wp2_with fail
      refine (p1 _).mono ?_; rintro e w1 ⟨rfl, b1⟩; have hc1 := (b1.cell (p := ⟨b, j, none⟩) hlt).trans hc; have hf1 := (b1.frozen (p := ⟨b, j, none⟩) hlt).trans hf
      go_wp2_with fail
      go_ret
      exact ⟨ret_bool (by rw [HE.out]; rfl), n, w1, fun h => (by rw [HE.out] at h; cases h), b1, rfl⟩
  all_goals
    have HE : Hid (W = 0) := by have := HW.out; rw [if_neg (fun h => by omega)] at this; exact this.symm
    go_enter Try.func65, Try.ntmps65
    go_wp2_with fail
    refine (p1 _).mono ?_; rintro e w1 ⟨rfl, b1⟩; have hc1 := (b1.cell (p := ⟨b, j, none⟩) hlt).trans hc; have hf1 := (b1.frozen (p := ⟨b, j, none⟩) hlt).trans hf
    go_wp2_with fail
    go_ret
    exact ⟨ret_bool (by rw [HE.out]; rfl), n, w1, fun h => (by rw [HE.out] at h; cases h), b1, rfl⟩
set_option maxRecDepth 100000 in
set_option maxHeartbeats 1000000 in
theorem textTake_any (b j : Nat) (d : ByteArray) (w : World) (hd : d.size ≤ maxLen) (hc : ∃ n, w.cell? ⟨b, j, none⟩ = some (.string n)) (hf : w.frozen? ⟨b, j, none⟩ = false) :
    Calls Try.prog 67 #[.pointer (some ⟨b, j, none⟩), .string d] w fun e w' => e = .returned (.bool (decide (1 ≤ d.size))) ∧ w.setCell ⟨b, j, none⟩ (.string d) = w' := by
  obtain ⟨s, hc⟩ := hc
  by_cases h0 : d.size = 0
  · have e0 := (tl_size _).2 h0
    have E : Hid (decide (1 ≤ d.size) = false) := decide_eq_false (by omega)
    clear h0
    go_enter Try.func67, Try.ntmps67
    go_wp2_with fail
    go_ret
    exact ⟨ret_bool E.out.symm, rfl⟩
  · have e0 : d.toList.isEmpty = false := by rw [Bool.eq_false_iff]; intro h2; exact h0 ((tl_size _).1 (by simpa using h2))
    have E : Hid (decide (1 ≤ d.size) = true) := decide_eq_true (by omega)
    clear h0
    go_enter Try.func67, Try.ntmps67
    go_wp2_with fail
    go_ret
    exact ⟨ret_bool E.out.symm, rfl⟩
end Go.Proofs.Ytjdpihppniibjaa
