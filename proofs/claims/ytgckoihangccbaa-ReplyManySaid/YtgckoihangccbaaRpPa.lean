import Derived.Test.YtgckoihangccbaaRpRef
/-
  The contracts of the program's own within, tooLong, mayCall, of cmp.Compare, and of find's order (stage 13).
-/
namespace Go.Proofs.Ytgckoihangccbaa
open Go.RowKit
set_option linter.unusedVariables false
set_option linter.unusedSimpArgs false

/-- Is a number within? -/
def wiB (n a b : Int) : Bool := decide (a ≤ n ∧ n ≤ b)
set_option maxRecDepth 100000 in
set_option maxHeartbeats 8000000 in
theorem within_any (n a b : Int) (w : World) : Calls Try.prog 39 #[.int .i64 n, .int .i64 a, .int .i64 b] w fun e w' => e = .returned (.bool (wiB n a b)) ∧ w = w' := by
  by_cases h1 : a ≤ n
  · by_cases h2 : n ≤ b
    · have HB : Hid (wiB n a b = true) := by show wiB n a b = true; unfold wiB; simp; omega
      go_enter Try.func39, Try.ntmps39
      go_wp2
      go_ret
      exact ⟨ret_bool (by rw [HB.out]), rfl⟩
    · have HB : Hid (wiB n a b = false) := by show wiB n a b = false; unfold wiB; simp; omega
      go_enter Try.func39, Try.ntmps39
      go_wp2
      go_ret
      exact ⟨ret_bool (by rw [HB.out]), rfl⟩
  · have HB : Hid (wiB n a b = false) := by show wiB n a b = false; unfold wiB; simp; omega
    go_enter Try.func39, Try.ntmps39
    go_wp2
    go_ret
    exact ⟨ret_bool (by rw [HB.out]), rfl⟩
def longB (k : ByteArray) : Bool := decide (¬ k.size ≤ 16)
set_option maxRecDepth 100000 in
set_option maxHeartbeats 8000000 in
theorem tooLong_any (k : ByteArray) (w : World) : Calls Try.prog 46 #[.string k] w fun e w' => e = .returned (.bool (longB k)) ∧ w = w' := by
  by_cases h : (k.size : Int) ≤ 16
  · have HB : Hid (longB k = false) := by show longB k = false; exact decide_eq_false (by omega)
    go_enter Try.func46, Try.ntmps46
    go_wp2
    go_ret
    exact ⟨ret_bool (by rw [HB.out]; exact decide_eq_false (by omega)), rfl⟩
  · have HB : Hid (longB k = true) := by show longB k = true; exact decide_eq_true (by omega)
    go_enter Try.func46, Try.ntmps46
    go_wp2
    go_ret
    exact ⟨ret_bool (by rw [HB.out]), rfl⟩
def goodCB (c i : Int) : Bool := decide (GoodC c i)
theorem goodCB_iff {c i : Int} : goodCB c i = true ↔ GoodC c i := by unfold goodCB; simp
set_option maxRecDepth 100000 in
set_option maxHeartbeats 8000000 in
theorem mayCall_any (c i : Int) (w : World) : Calls Try.prog 24 #[.int .i64 c, .int .i64 i] w fun e w' => e = .returned (.bool (goodCB c i)) ∧ w = w' := by
  have q1 := fun W => within_any c 1 1000 W
  have q2 := fun W => within_any i 1 9007199254740992 W
  have HB : Hid (goodCB c i = (wiB c 1 1000 && wiB i 1 9007199254740992)) := by
    show _ = _
    rw [Bool.eq_iff_iff, goodCB_iff]
    unfold wiB GoodC maxN
    simp
  generalize goodCB c i = g at *
  generalize wiB c 1 1000 = u at *
  generalize wiB i 1 9007199254740992 = v at *
  cases u with
  | false =>
    go_enter Try.func24, Try.ntmps24
    go_wp2_with fail
    ((with_reducible refine (q1 _).mono ?_); rintro e W1 ⟨rfl, rfl⟩)
    go_wp2_with fail
    go_ret
    exact ⟨ret_bool (by rw [HB.out]; rfl), rfl⟩
  | true =>
    go_enter Try.func24, Try.ntmps24
    go_wp2_with fail
    ((with_reducible refine (q1 _).mono ?_); rintro e W1 ⟨rfl, rfl⟩)
    go_wp2_with fail
    ((with_reducible refine (q2 _).mono ?_); rintro e W1 ⟨rfl, rfl⟩)
    go_wp2_with fail
    go_ret
    exact ⟨ret_bool (by rw [HB.out]; rfl), rfl⟩
set_option maxRecDepth 100000 in
set_option maxHeartbeats 8000000 in
theorem isNaN13_any (a : Int) (w : World) : Calls Try.prog 48 #[.int .i64 a] w fun e w' => e = .returned (.bool false) ∧ w = w' := by
  have e1 : (a != a) = false := by simp
  go_enter Try.func48, Try.ntmps48
  go_wp2_with fail
  go_ret
  exact ⟨rfl, rfl⟩
/-- What cmp.Compare tells. -/
def cmpI (a b : Int) : Int := if a < b then -1 else if b < a then 1 else 0
theorem cmpI_lt {a b : Int} (h : a < b) : cmpI a b = -1 := if_pos h
theorem cmpI_ge {a b : Int} (h : ¬ a < b) : 0 ≤ cmpI a b := by unfold cmpI; rw [if_neg h]; split <;> decide
theorem cmpI_eq0 {a b : Int} : cmpI a b = 0 ↔ a = b := by
  unfold cmpI
  constructor
  · intro h
    split at h
    · cases h
    · split at h
      · cases h
      · omega
  · intro h; subst h; simp
set_option maxRecDepth 100000 in
set_option maxHeartbeats 8000000 in
theorem compare13_any (a b : Int) (w : World) : Calls Try.prog 34 #[.int .i64 a, .int .i64 b] w fun e w' => e = .returned (.int .i64 (cmpI a b)) ∧ w = w' := by
  have q1 := fun W => isNaN13_any a W
  have q2 := fun W => isNaN13_any b W
  rcases (by omega : a < b ∨ (¬ a < b ∧ b < a) ∨ (¬ a < b ∧ ¬ b < a)) with h | ⟨h, h2⟩ | ⟨h, h2⟩
  all_goals
    have HB : Hid (cmpI a b = cmpI a b) := rfl
    obtain ⟨z, hz⟩ : ∃ z, cmpI a b = z := ⟨_, rfl⟩
    have HZ : Hid (∀ v, cmpI a b = v → v = z) := fun v e => e.symm.trans hz
    have hv := hz
    unfold cmpI at hv
    simp [*] at hv
    rw [hz]
    have HV := Lib.hid hv; clear hv hz HB HZ
    go_enter Try.func34, Try.ntmps34
    go_wp2_with fail
    ((with_reducible refine (q1 _).mono ?_); rintro e W1 ⟨rfl, rfl⟩)
    go_wp2_with fail
    ((with_reducible refine (q2 _).mono ?_); rintro e W1 ⟨rfl, rfl⟩)
    go_wp2_with fail
    go_ret
    exact ⟨by rw [← HV.out]; rfl, rfl⟩
set_option maxRecDepth 100000 in
set_option maxHeartbeats 8000000 in
theorem find1_any (d : DnR) (x : Value) (c : Int) (w : World) : Calls Try.prog 33 #[.agg #[.int .i64 d.client, .int .i64 d.id, .int .i64 d.rep.errno, .int .i64 d.rep.rev, .string d.rep.value, x], .int .i64 c] w fun e w' => e = .returned (.int .i64 (cmpI d.client c)) ∧ Below w.heap.size w w' := by
  have hbw : Below w.heap.size w (w.alloc (.cells #[.int .i64 d.client, .int .i64 d.id, .int .i64 d.rep.errno, .int .i64 d.rep.rev, .string d.rep.value, x] 45)) := (Below.refl _ _).alloc (Nat.le_refl _) _
  have q := fun W => compare13_any d.client c W
  generalize cmpI d.client c = z at *
  go_enter Try.func33, Try.ntmps33
  go_wp2_with fail
  ((with_reducible refine (q _).mono ?_); rintro e W1 ⟨rfl, rfl⟩)
  go_wp2_with fail
  go_ret
  exact ⟨rfl, hbw⟩
end Go.Proofs.Ytgckoihangccbaa
