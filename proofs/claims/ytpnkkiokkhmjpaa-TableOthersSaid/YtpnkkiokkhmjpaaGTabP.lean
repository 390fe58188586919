import Derived.Test.YtpnkkiokkhmjpaaTabRefB
import Derived.Test.YtpnkkiokkhmjpaaRecRight2
import Derived.Test.YtpnkkiokkhmjpaaRecSame
import Derived.Test.YtpnkkiokkhmjpaaTabTabMath
import Derived.Lib.Bytealg
import Derived.Lib.Walk
import Derived.Deep.LoopGhost
import Derived.Test.YtpnkkiokkhmjpaaTabPut
import Derived.Test.YtpnkkiokkhmjpaaTabDo
import Derived.Lib.SliceRun
import Derived.Lib.Overlaps
import Derived.Lib.AppendZerosOnto
import Derived.Laws.IdiomCopy
import Derived.Deep.AppendSrc
/-
  The contracts of the program's own isNumber, opRight, Check, Writes, Right and Same of tables (stage 12).
-/
namespace Go.Proofs.Ytpnkkiokkhmjpaa
open Go.RowKit
set_option linter.unusedVariables false
set_option linter.unusedSimpArgs false

theorem tabNumber_any (n : Int) (w : World) : Calls Try.prog 42 #[.int .i64 n] w fun e w' => e = .returned (.bool (numB n)) ∧ w = w' := by
  by_cases h1 : 0 ≤ n
  · by_cases h2 : n ≤ 9007199254740992
    · have HB : Hid (numB n = true) := by show numB n = true; unfold numB; simp; omega
      go_enter Try.func42, Try.ntmps42
      go_wp2
      go_ret
      exact ⟨ret_bool (by rw [HB.out]), rfl⟩
    · have HB : Hid (numB n = false) := by show numB n = false; unfold numB; simp; omega
      go_enter Try.func42, Try.ntmps42
      go_wp2
      go_ret
      exact ⟨ret_bool (by rw [HB.out]), rfl⟩
  · have HB : Hid (numB n = false) := by show numB n = false; unfold numB; simp; omega
    go_enter Try.func42, Try.ntmps42
    go_wp2
    go_ret
    exact ⟨ret_bool (by rw [HB.out]), rfl⟩
/-- May an op be, whatever the version? -/
def opB (o : OpR) : Bool := decide (¬ BadO 2 o)
set_option maxRecDepth 100000 in
set_option maxHeartbeats 8000000 in
theorem opRight_any (o : OpR) (w : World) : Calls Try.prog 29 #[opV o] w fun e w' => e = .returned (.bool (opB o)) ∧ Below w.heap.size w w' := by
  have hno : ¬ (¬ BadO 2 o) → opB o = false := fun h => decide_eq_false h
  have hyes : ¬ BadO 2 o → opB o = true := fun h => decide_eq_true h
  unfold BadO maxN at hno hyes
  simp only [not_or] at hno hyes
  have HNO := Lib.hid hno; clear hno
  have HYES := Lib.hid hyes; clear hyes
  have q0 := tabNumber_any o.rev
  have q1 := tabNumber_any o.life
  unfold opV
  have hbx := OpBlk.new w o
  have hb0 : Below w.heap.size w (w.alloc (.cells #[.int .i64 o.kind, .string o.key, .string o.value, .int .i64 o.rev, .string o.upto, .int .i64 o.life, .string o.note] 26)) := (Below.refl _ _).alloc (Nat.le_refl _) _
  obtain ⟨W0, hW0⟩ : ∃ W, w.alloc (.cells #[.int .i64 o.kind, .string o.key, .string o.value, .int .i64 o.rev, .string o.upto, .int .i64 o.life, .string o.note] 26) = W := ⟨_, rfl⟩
  rw [hW0] at hbx hb0
  obtain ⟨c0, c1, c2, c3, c4, c5, c6⟩ := hbx.cells
  have HBX := Lib.hid hbx
  have HB := Lib.hid hb0; clear hb0 hbx
  by_cases h0 : 1 ≤ o.kind
  rotate_left
  · have E : Hid (opB o = false) := HNO.out (fun h => by obtain ⟨_, k1, k2, k3, _, k5, k6, k7, _⟩ := h; omega)
    clear q0 q1
    go_enter Try.func29, Try.ntmps29
    go_wp2_with fail
    go_ret
    exact ⟨ret_bool E.out.symm, HB.out⟩
  by_cases h1 : o.kind ≤ 6
  rotate_left
  · have E : Hid (opB o = false) := HNO.out (fun h => by obtain ⟨_, k1, k2, k3, _, k5, k6, k7, _⟩ := h; omega)
    clear q0 q1
    go_enter Try.func29, Try.ntmps29
    go_wp2_with fail
    go_ret
    exact ⟨ret_bool E.out.symm, HB.out⟩
  by_cases h2 : o.key.size = 0 ∧ o.kind ≠ 6
  · have ke : o.key.toList = [] := (toList_size _).2 h2.1
    have ke2 : o.key.toList.isEmpty = true := by rw [ke]; rfl
    have kk : (o.kind == 6) = false := by simpa using h2.2
    have E : Hid (opB o = false) := HNO.out (fun h => by obtain ⟨_, _, _, _, h5, _⟩ := h; exact h5 h2)
    clear h2 q0 q1
    go_enter Try.func29, Try.ntmps29
    go_wp2_with fail
    go_ret
    exact ⟨ret_bool E.out.symm, HB.out⟩
  have hke : (o.key.toList = [] ∧ (o.kind == 6) = true) ∨ (o.key.toList.isEmpty = false ∧ o.key.toList ≠ []) := by
    by_cases k : o.key.size = 0
    · exact .inl ⟨(toList_size _).2 k, by simp; exact Classical.byContradiction fun h => h2 ⟨k, h⟩⟩
    · exact .inr ⟨by rw [Bool.eq_false_iff]; intro h2; exact k ((toList_size _).1 (by simpa using h2)), fun h2 => k ((toList_size _).1 h2)⟩
  have HKE := Lib.hid hke; clear hke
  have H2 := Lib.hid h2; clear h2
  by_cases h3 : (o.key.size : Int) ≤ 16
  rotate_left
  · have E : Hid (opB o = false) := HNO.out (fun h => by obtain ⟨_, k1, k2, k3, _, k5, k6, k7, _⟩ := h; omega)
    clear q0 q1
    rcases HKE.out with ⟨f1, f2⟩ | ⟨f1, f2⟩ <;> (go_enter Try.func29, Try.ntmps29; go_wp2_with fail; go_ret; exact ⟨ret_bool E.out.symm, HB.out⟩)
  by_cases h4 : (o.value.size : Int) ≤ 200
  rotate_left
  · have E : Hid (opB o = false) := HNO.out (fun h => by obtain ⟨_, k1, k2, k3, _, k5, k6, k7, _⟩ := h; omega)
    clear q0 q1
    rcases HKE.out with ⟨f1, f2⟩ | ⟨f1, f2⟩ <;> (go_enter Try.func29, Try.ntmps29; go_wp2_with fail; go_ret; exact ⟨ret_bool E.out.symm, HB.out⟩)
  by_cases h5 : (o.upto.size : Int) ≤ 16
  rotate_left
  · have E : Hid (opB o = false) := HNO.out (fun h => by obtain ⟨_, k1, k2, k3, _, k5, k6, k7, _⟩ := h; omega)
    clear q0 q1
    rcases HKE.out with ⟨f1, f2⟩ | ⟨f1, f2⟩ <;> (go_enter Try.func29, Try.ntmps29; go_wp2_with fail; go_ret; exact ⟨ret_bool E.out.symm, HB.out⟩)
  by_cases h6 : (o.note.size : Int) ≤ 40
  rotate_left
  · have E : Hid (opB o = false) := HNO.out (fun h => by obtain ⟨_, k1, k2, k3, _, k5, k6, k7, _⟩ := h; omega)
    clear q0 q1
    rcases HKE.out with ⟨f1, f2⟩ | ⟨f1, f2⟩ <;> (go_enter Try.func29, Try.ntmps29; go_wp2_with fail; go_ret; exact ⟨ret_bool E.out.symm, HB.out⟩)
  cases n0 : numB o.rev with
  | false =>
    rw [n0] at q0
    have E : Hid (opB o = false) := HNO.out (fun h => by obtain ⟨_, _, _, _, _, _, _, _, r1, r2, l1, l2⟩ := h; simp [numB] at n0; omega)
    clear n0
    rcases HKE.out with ⟨f1, f2⟩ | ⟨f1, f2⟩ <;> (go_enter Try.func29, Try.ntmps29; go_wp2_with fail; ((with_reducible refine (q0 _).mono ?_); rintro e W1 ⟨rfl, rfl⟩); go_wp2_with fail; go_ret; exact ⟨ret_bool E.out.symm, HB.out⟩)
  | true =>
    rw [n0] at q0
    have N0 := Lib.hid n0; clear n0
    cases n1 : numB o.life with
    | false =>
      rw [n1] at q1
      have E : Hid (opB o = false) := HNO.out (fun h => by obtain ⟨_, _, _, _, _, _, _, _, r1, r2, l1, l2⟩ := h; simp [numB] at n1; omega)
      clear n1
      rcases HKE.out with ⟨f1, f2⟩ | ⟨f1, f2⟩ <;> (go_enter Try.func29, Try.ntmps29; go_wp2_with fail; ((with_reducible refine (q0 _).mono ?_); rintro e W1 ⟨rfl, rfl⟩); go_wp2_with fail; ((with_reducible refine (q1 _).mono ?_); rintro e W1 ⟨rfl, rfl⟩); go_wp2_with fail; go_ret; exact ⟨ret_bool E.out.symm, HB.out⟩)
    | true =>
      rw [n1] at q1
      have N1 := Lib.hid n1; clear n1
      have E : Hid (opB o = true) := HYES.out (by have n0 := N0.out; have n1 := N1.out; simp [numB] at n0 n1; exact ⟨fun h => h.2 trivial, by omega, by omega, by omega, H2.out, by omega, by omega, by omega, by omega, by omega, by omega, by omega⟩)
      rcases HKE.out with ⟨f1, f2⟩ | ⟨f1, f2⟩ <;> (go_enter Try.func29, Try.ntmps29; go_wp2_with fail; ((with_reducible refine (q0 _).mono ?_); rintro e W1 ⟨rfl, rfl⟩); go_wp2_with fail; ((with_reducible refine (q1 _).mono ?_); rintro e W1 ⟨rfl, rfl⟩); go_wp2_with fail; go_ret; exact ⟨ret_bool E.out.symm, HB.out⟩)
theorem bad_two {v : Int} {o : OpR} (hv : v = 1 ∨ v = 2) : BadO v o ↔ BadO 2 o := by
  unfold BadO
  simp [hv]
set_option maxRecDepth 100000 in
set_option maxHeartbeats 8000000 in
theorem check12_any (v : Int) (o : OpR) (w : World) : Calls Try.prog 13 #[.int .i64 v, opV o] w fun e w' => e = .returned (.int .i64 (checkO v o)) ∧ Below w.heap.size w w' := by
  have q := opRight_any o
  have hb1 : ¬ (v = 1 ∨ v = 2) → checkO v o = 1 := fun h => if_pos (.inl h)
  have hb2 : (v = 1 ∨ v = 2) → opB o = false → checkO v o = 1 := fun h h2 => if_pos ((bad_two h).2 (Classical.byContradiction fun h3 => by unfold opB at h2; rw [decide_eq_true h3] at h2; cases h2))
  have hb3 : (v = 1 ∨ v = 2) → opB o = true → checkO v o = if v = 1 ∧ o.kind = 5 then 22 else 0 := fun h h2 => if_neg fun h3 => by unfold opB at h2; exact (of_decide_eq_true h2) ((bad_two h).1 h3)
  have HB1 := Lib.hid hb1; clear hb1
  have HB2 := Lib.hid hb2; clear hb2
  have HB3 := Lib.hid hb3; clear hb3
  unfold opV at q ⊢
  have hbx := OpBlk.new w o
  have hb0 : Below w.heap.size w (w.alloc (.cells #[.int .i64 o.kind, .string o.key, .string o.value, .int .i64 o.rev, .string o.upto, .int .i64 o.life, .string o.note] 26)) := (Below.refl _ _).alloc (Nat.le_refl _) _
  obtain ⟨W0, hW0⟩ : ∃ W, w.alloc (.cells #[.int .i64 o.kind, .string o.key, .string o.value, .int .i64 o.rev, .string o.upto, .int .i64 o.life, .string o.note] 26) = W := ⟨_, rfl⟩
  rw [hW0] at hbx hb0
  obtain ⟨c0, c1, c2, c3, c4, c5, c6⟩ := hbx.cells
  have HBX := Lib.hid hbx
  have HB := Lib.hid hb0; clear hb0 hbx
  by_cases v1 : v = 1
  · have e1 : (v != 1) = false := by simp [v1]
    have e2 : (v == 1) = true := by simp [v1]
    cases hq : opB o with
    | false =>
      rw [hq] at q
      have E : Hid (checkO v o = 1) := HB2.out (.inl v1) hq
      clear hq v1
      go_enter Try.func13, Try.ntmps13
      go_wp2_with fail
      ((with_reducible refine (q _).mono ?_); rintro e W1 ⟨rfl, b1⟩)
      have HBF := Lib.hid (bch HB.out b1)
      go_wp2_with fail
      go_ret
      exact ⟨by rw [E.out]; rfl, HBF.out⟩
    | true =>
      rw [hq] at q
      have hg := HB3.out (.inl v1) hq
      clear hq
      by_cases k5 : o.kind = 5
      · have E : Hid (checkO v o = 22) := by show _ = _; rw [hg]; simp [v1, k5]
        have e3 : (o.kind == 5) = true := by simpa using k5
        clear k5 hg v1
        go_enter Try.func13, Try.ntmps13
        go_wp2_with fail
        ((with_reducible refine (q _).mono ?_); rintro e W1 ⟨rfl, b1⟩)
        have HBF := Lib.hid (bch HB.out b1)
        have hx1 := HBX.out.below b1
        clear c0 c1 c2 c3 c4 c5 c6 b1
        obtain ⟨c0, c1, c2, c3, c4, c5, c6⟩ := hx1.cells
        clear hx1
        go_wp2_with fail
        go_ret
        exact ⟨by rw [E.out]; rfl, HBF.out⟩
      · have E : Hid (checkO v o = 0) := by show _ = _; rw [hg]; simp [k5]
        have e3 : (o.kind == 5) = false := by simpa using k5
        clear k5 hg v1
        go_enter Try.func13, Try.ntmps13
        go_wp2_with fail
        ((with_reducible refine (q _).mono ?_); rintro e W1 ⟨rfl, b1⟩)
        have HBF := Lib.hid (bch HB.out b1)
        have hx1 := HBX.out.below b1
        clear c0 c1 c2 c3 c4 c5 c6 b1
        obtain ⟨c0, c1, c2, c3, c4, c5, c6⟩ := hx1.cells
        clear hx1
        go_wp2_with fail
        go_ret
        exact ⟨by rw [E.out]; rfl, HBF.out⟩
  · have e1 : (v != 1) = true := by simpa using v1
    have e2 : (v == 1) = false := by simpa using v1
    by_cases v2 : v = 2
    · have e4 : (v != 2) = false := by simp [v2]
      cases hq : opB o with
      | false =>
        rw [hq] at q
        have E : Hid (checkO v o = 1) := HB2.out (.inr v2) hq
        clear hq v1 v2
        go_enter Try.func13, Try.ntmps13
        go_wp2_with fail
        ((with_reducible refine (q _).mono ?_); rintro e W1 ⟨rfl, b1⟩)
        have HBF := Lib.hid (bch HB.out b1)
        go_wp2_with fail
        go_ret
        exact ⟨by rw [E.out]; rfl, HBF.out⟩
      | true =>
        rw [hq] at q
        have hg := HB3.out (.inr v2) hq
        have E : Hid (checkO v o = 0) := by show _ = _; rw [hg]; simp [v1]
        clear hq hg v1 v2
        go_enter Try.func13, Try.ntmps13
        go_wp2_with fail
        ((with_reducible refine (q _).mono ?_); rintro e W1 ⟨rfl, b1⟩)
        have HBF := Lib.hid (bch HB.out b1)
        have hx1 := HBX.out.below b1
        clear c0 c1 c2 c3 c4 c5 c6 b1
        obtain ⟨c0, c1, c2, c3, c4, c5, c6⟩ := hx1.cells
        clear hx1
        go_wp2_with fail
        go_ret
        exact ⟨by rw [E.out]; rfl, HBF.out⟩
    · have e4 : (v != 2) = true := by simpa using v2
      have E : Hid (checkO v o = 1) := HB1.out (fun h => by omega)
      clear v1 v2 q
      go_enter Try.func13, Try.ntmps13
      go_wp2_with fail
      go_ret
      exact ⟨by rw [E.out]; rfl, HB.out⟩
theorem checkT_any : CheckT := fun v o _ _ w => check12_any v o w
set_option maxRecDepth 100000 in
set_option maxHeartbeats 8000000 in
theorem writes12_any (o : OpR) (w : World) : Calls Try.prog 23 #[opV o] w fun e w' => e = .returned (.bool (writesO o)) ∧ Below w.heap.size w w' := by
  unfold opV
  have hbx := OpBlk.new w o
  have hb0 : Below w.heap.size w (w.alloc (.cells #[.int .i64 o.kind, .string o.key, .string o.value, .int .i64 o.rev, .string o.upto, .int .i64 o.life, .string o.note] 26)) := (Below.refl _ _).alloc (Nat.le_refl _) _
  obtain ⟨W0, hW0⟩ : ∃ W, w.alloc (.cells #[.int .i64 o.kind, .string o.key, .string o.value, .int .i64 o.rev, .string o.upto, .int .i64 o.life, .string o.note] 26) = W := ⟨_, rfl⟩
  rw [hW0] at hbx hb0
  obtain ⟨c0, c1, c2, c3, c4, c5, c6⟩ := hbx.cells
  have HBX := Lib.hid hbx
  have HB := Lib.hid hb0; clear hb0 hbx
  by_cases k2 : o.kind = 2
  · have E : Hid (writesO o = true) := by show _ = _; unfold writesO; rw [k2]; rfl
    have e2 : (o.kind == 2) = true := by simpa using k2
    clear k2
    go_enter Try.func23, Try.ntmps23
    go_wp2_with fail
    go_ret
    exact ⟨ret_bool E.out.symm, HB.out⟩
  have e2 : (o.kind == 2) = false := by simpa using k2
  by_cases k3 : o.kind = 3
  · have E : Hid (writesO o = true) := by show _ = _; unfold writesO; rw [k3]; rfl
    have e3 : (o.kind == 3) = true := by simpa using k3
    clear k2 k3
    go_enter Try.func23, Try.ntmps23
    go_wp2_with fail
    go_ret
    exact ⟨ret_bool E.out.symm, HB.out⟩
  have e3 : (o.kind == 3) = false := by simpa using k3
  by_cases k4 : o.kind = 4
  · have E : Hid (writesO o = true) := by show _ = _; unfold writesO; rw [k4]; rfl
    have e4 : (o.kind == 4) = true := by simpa using k4
    clear k2 k3 k4
    go_enter Try.func23, Try.ntmps23
    go_wp2_with fail
    go_ret
    exact ⟨ret_bool E.out.symm, HB.out⟩
  have e4 : (o.kind == 4) = false := by simpa using k4
  by_cases k5 : o.kind = 5
  · have E : Hid (writesO o = true) := by show _ = _; unfold writesO; rw [k5]; rfl
    have e5 : (o.kind == 5) = true := by simpa using k5
    clear k2 k3 k4 k5
    go_enter Try.func23, Try.ntmps23
    go_wp2_with fail
    go_ret
    exact ⟨ret_bool E.out.symm, HB.out⟩
  have e5 : (o.kind == 5) = false := by simpa using k5
  have E : Hid (writesO o = false) := by show _ = _; unfold writesO; rw [Bool.and_eq_false_iff]; by_cases h : 2 ≤ o.kind; exact .inr (decide_eq_false (by omega)); exact .inl (decide_eq_false h)
  clear k2 k3 k4 k5
  go_enter Try.func23, Try.ntmps23
  go_wp2_with fail
  go_ret
  exact ⟨ret_bool E.out.symm, HB.out⟩
theorem writesT_any : WritesT := fun o _ w => writes12_any o w
end Go.Proofs.Ytpnkkiokkhmjpaa


/-
  The contracts of the program's own Right and Same of tables (stage 12), over record.Right and slices.EqualFunc with record.Same.
-/
namespace Go.Proofs.Ytpnkkiokkhmjpaa
open Go.RowKit
set_option linter.unusedVariables false
set_option linter.unusedSimpArgs false

set_option maxRecDepth 100000 in
set_option maxHeartbeats 8000000 in
theorem right12_any (t : List Rcd) (A : Option Addr) (n cap : Nat) (w : World) (h : IsTs w A n t) :
    Calls Try.prog 20 #[.slice A n cap] w fun e w' => e = .returned (.bool (rightT t)) ∧ Below w.heap.size w w' := by
  have hn9 := h.2.1
  unfold maxLen at hn9
  have HN : Hid (n = t.length) := h.1
  have HT := Lib.hid h; clear h
  have HNO : Hid (¬ RightT t → rightT t = false) := rightT_no
  have HYES : Hid (RightT t → rightT t = true) := rightT_iff.2
  generalize rightT t = R at *
  by_cases h20 : (20 : Int) < (n : Int)
  · have HE : Hid (R = false) := HNO.out fun h => by have := h.2.2; have := HN.out; omega
    go_enter Try.func20, Try.ntmps20
    go_wp2_with fail
    go_ret
    exact ⟨by rw [HE.out]; rfl, Below.refl _ _⟩
  go_enter Try.func20, Try.ntmps20
  go_wp2_with fail
  go_loopw [10] (fun i wy => ∃ (j : Nat) (wr : World), wr = wy ∧ j ≤ n ∧ i = .int .i64 j ∧ (∀ q, q < j → rightR 2 (atR t q) = true) ∧ Rise (t.take j) ∧ Below w.heap.size w wr) (fun i _ => n - (intOf i).toNat)
  case atStart => exact ⟨0, _, rfl, by omega, rfl, (fun q hq => by omega), List.Pairwise.nil, Below.refl _ _⟩
  case round =>
    obtain ⟨j, wr, rfl, hj, rfl, hri, hrs, hb⟩ := hrel
    have HB := Lib.hid hb; clear hb
    have HRI := Lib.hid hri; clear hri
    have HRS := Lib.hid hrs; clear hrs
    by_cases hlt : j < n
    · have hji : (j : Int) < (n : Int) := by omega
      have hj0 : (0 : Int) ≤ (j : Int) := by omega
      have hjl : j < t.length := by have := HN.out; omega
      obtain ⟨b, off, hA, _⟩ := HT.out.block (by omega)
      subst hA
      obtain ⟨E, m, c, hx, _, hfs⟩ := HT.out.at hjl HB.out
      have hbw : Below wr.heap.size wr (wr.alloc (.cells #[.string (atR t j).key, .string (atR t j).value, .int .i64 (atR t j).rev, .int .i64 (atR t j).life, .string (atR t j).note, .slice E m c] 47)) := (Below.refl _ _).alloc (Nat.le_refl _) _
      have hrb := Blk.new wr (.cells #[.string (atR t j).key, .string (atR t j).value, .int .i64 (atR t j).rev, .int .i64 (atR t j).life, .string (atR t j).note, .slice E m c] 47)
      have hgx := World.size_alloc wr (.cells #[.string (atR t j).key, .string (atR t j).value, .int .i64 (atR t j).rev, .int .i64 (atR t j).life, .string (atR t j).note, .slice E m c] 47)
      have q0 := fun W (hb : Below (wr.alloc (.cells #[.string (atR t j).key, .string (atR t j).value, .int .i64 (atR t j).rev, .int .i64 (atR t j).life, .string (atR t j).note, .slice E m c] 47)).heap.size (wr.alloc (.cells #[.string (atR t j).key, .string (atR t j).value, .int .i64 (atR t j).rev, .int .i64 (atR t j).life, .string (atR t j).note, .slice E m c] 47)) W) => rRight_any 2 (atR t j) E m c W (HT.out.2.2.1 _ (atR_mem hjl)).1 ((hfs.below hbw).below hb)
      have HJL := Lib.hid hjl
      have HGEN : Hid (∀ (i : Nat), i < t.length → ∀ W, Below (wr.alloc (.cells #[.string (atR t j).key, .string (atR t j).value, .int .i64 (atR t j).rev, .int .i64 (atR t j).life, .string (atR t j).note, .slice E m c] 47)).heap.size (wr.alloc (.cells #[.string (atR t j).key, .string (atR t j).value, .int .i64 (atR t j).rev, .int .i64 (atR t j).life, .string (atR t j).note, .slice E m c] 47)) W → ∃ E2 m2 c2, RcAt W b (off + i * 6) (atR t i) (.slice E2 m2 c2)) := fun i hi W hb => by
        obtain ⟨E2, m2, c2, hz, _, _⟩ := HT.out.at hi HB.out
        exact ⟨E2, m2, c2, (hz.below hbw).below hb⟩
      clear hfs hjl
      obtain ⟨x0, x1, x2, x3, x4, x5⟩ := hx
      unfold rcV at q0
      have HLT : Hid (∀ i, j = i + 1 → ltB (atR t i).key (atR t j).key = true → Rise (t.take (j + 1))) := fun i e hl => rise_next2 e HRS.out HJL.out hl
      have HLN : Hid (∀ i, j = i + 1 → ltB (atR t i).key (atR t j).key = false → ¬ RightT t) := fun i e hl h => by have := rise_lt h.2.1 (i := i) (j := j) (by omega) HJL.out; rw [hl] at this; cases this
      have HL0 : Hid (j = 0 → Rise (t.take (j + 1))) := fun hz => by rw [take_succR HJL.out, hz]; exact List.pairwise_singleton _ _
      have HRJ0 : Hid (∀ v, rightR 2 (atR t j) = v → v = false → ¬ RightT t) := fun v e1 e2 h => by have := h.1 _ (atR_mem HJL.out); rw [e1, e2] at this; cases this
      have HRJ1 : Hid (∀ v, rightR 2 (atR t j) = v → v = true → rightR 2 (atR t j) = true) := fun v e1 e2 => e1.trans e2
      cases hr : rightR 2 (atR t j) with
      | false =>
        rw [hr] at q0
        have HE : Hid (R = false) := HNO.out (HRJ0.out _ hr rfl)
        clear hr HGEN HLT HLN HL0 HRJ0 HRJ1
        generalize atR t j = r at *
        go_upto_region 6 with fail
        obtain ⟨V, hV⟩ : ∃ V, wr.alloc (.cells #[.string r.key, .string r.value, .int .i64 r.rev, .int .i64 r.life, .string r.note, .slice E m c] 47) = V := ⟨_, rfl⟩
        rw [hV] at hbw hrb hgx ⊢
        have qs : ∀ W, Below V.heap.size V W → Calls Try.prog 37 _ W _ := fun W hb => q0 W (by rw [hV]; exact hb)
        clear q0 hV x0 x1 x2 x3 x4 x5
        have HRB := Lib.hid hrb; clear hrb
        have HBV := Lib.hid (bch HB.out hbw); clear hbw
        have HGX := Lib.hid hgx; clear hgx
        refine wp_region_noPanic ?_
        refine wp_region_held_drew (S := fun W => Below V.heap.size V W) (by kernel_rfl) ((Below.refl _ _).drew) (fun hHeld => ?_)
        refine wpAnyH_take (i := 0) (v := ?_) rfl (by kernel_rfl) (by kernel_rfl) (by kernel_rfl) (fun _ _ _ h => h) (Or.inl ⟨by rfl, ?_⟩) (by assumption) ?_
        rotate_left
        · (intro w hSw; (try dsimp only at hSw); (have hx_ := Blk.below HRB.out hSw); (have y0 := Blk.cell hx_ 0); (have y1 := Blk.cell hx_ 1); (have y2 := Blk.cell hx_ 2); (have y3 := Blk.cell hx_ 3); (have y4 := Blk.cell hx_ 4); (have y5 := Blk.cell hx_ 5); simp only [List.getElem?_toArray, List.getElem?_cons_zero, List.getElem?_cons_succ] at y0 y1 y2 y3 y4 y5; go_simp; (try with_reducible rfl))
        simp only [Act.put, List.getElem_toArray, List.getElem_cons_zero, List.setIfInBounds_toArray, List.set_cons_zero, List.set_cons_succ]
        refine wpAnyH_ready (rs := [1]) (by kernel_rfl) (by simp) ?_
        refine AllReadyH.cons rfl (fun K hK => ?_) AllReadyH.nil
        rw [if_pos (by rfl)]
        go_simp
        ((with_reducible refine (qs _ hHeld).mono ?_); rintro e w' ⟨rfl, bq⟩)
        refine hK.out _ _ (bch hHeld bq) (fun hHeld2 => ?_)
        clear hK K hHeld
        have hHeld := hHeld2; clear hHeld2
        refine wpAnyH_take (i := 2) (v := ?_) rfl (by kernel_rfl) (by kernel_rfl) (by kernel_rfl) (fun _ _ _ h => h) (Or.inl ⟨by rfl, ?_⟩) (by assumption) ?_
        rotate_left
        · (intro w hSw; (try dsimp only at hSw); go_simp; (try with_reducible rfl))
        simp only [Act.put, List.getElem_toArray, List.getElem_cons_zero, List.getElem_cons_succ, List.setIfInBounds_toArray, List.set_cons_zero, List.set_cons_succ]
        refine wpAnyH_take (i := 3) (v := ?_) rfl (by kernel_rfl) (by kernel_rfl) (by kernel_rfl) (fun _ _ _ h => h) (Or.inl ⟨by rfl, ?_⟩) (by assumption) ?_
        rotate_left
        · (intro w hSw; (try dsimp only at hSw); go_simp; (try with_reducible rfl))
        simp only [Act.put, List.getElem_toArray, List.getElem_cons_zero, List.getElem_cons_succ, List.setIfInBounds_toArray, List.set_cons_zero, List.set_cons_succ]
        refine wpAnyH_take (i := 4) (v := undef) rfl (by kernel_rfl) (by kernel_rfl) (by kernel_rfl) (fun _ _ _ h => h) (Or.inr ⟨by rfl, rfl⟩) (by assumption) ?_
        simp only [Act.put, List.getElem_toArray, List.getElem_cons_zero, List.getElem_cons_succ, List.setIfInBounds_toArray, List.set_cons_zero, List.set_cons_succ]
        refine wpAnyH_take (i := 5) (v := undef) rfl (by kernel_rfl) (by kernel_rfl) (by kernel_rfl) (fun _ _ _ h => h) (Or.inr ⟨by rfl, rfl⟩) (by assumption) ?_
        simp only [Act.put, List.getElem_toArray, List.getElem_cons_zero, List.getElem_cons_succ, List.setIfInBounds_toArray, List.set_cons_zero, List.set_cons_succ]
        refine wpAnyH_take (i := 6) (v := undef) rfl (by kernel_rfl) (by kernel_rfl) (by kernel_rfl) (fun _ _ _ h => h) (Or.inr ⟨by rfl, rfl⟩) (by assumption) ?_
        simp only [Act.put, List.getElem_toArray, List.getElem_cons_zero, List.getElem_cons_succ, List.setIfInBounds_toArray, List.set_cons_zero, List.set_cons_succ]
        refine wpAnyH_take (i := 7) (v := undef) rfl (by kernel_rfl) (by kernel_rfl) (by kernel_rfl) (fun _ _ _ h => h) (Or.inr ⟨by rfl, rfl⟩) (by assumption) ?_
        simp only [Act.put, List.getElem_toArray, List.getElem_cons_zero, List.getElem_cons_succ, List.setIfInBounds_toArray, List.set_cons_zero, List.set_cons_succ]
        refine wpAnyH_take (i := 8) (v := undef) rfl (by kernel_rfl) (by kernel_rfl) (by kernel_rfl) (fun _ _ _ h => h) (Or.inr ⟨by rfl, rfl⟩) (by assumption) ?_
        simp only [Act.put, List.getElem_toArray, List.getElem_cons_zero, List.getElem_cons_succ, List.setIfInBounds_toArray, List.set_cons_zero, List.set_cons_succ]
        refine wpAnyH_take (i := 9) (v := undef) rfl (by kernel_rfl) (by kernel_rfl) (by kernel_rfl) (fun _ _ _ h => h) (Or.inr ⟨by rfl, rfl⟩) (by assumption) ?_
        simp only [Act.put, List.getElem_toArray, List.getElem_cons_zero, List.getElem_cons_succ, List.setIfInBounds_toArray, List.set_cons_zero, List.set_cons_succ]
        refine wpAnyH_take (i := 10) (v := undef) rfl (by kernel_rfl) (by kernel_rfl) (by kernel_rfl) (fun _ _ _ h => h) (Or.inr ⟨by rfl, rfl⟩) (by assumption) ?_
        simp only [Act.put, List.getElem_toArray, List.getElem_cons_zero, List.getElem_cons_succ, List.setIfInBounds_toArray, List.set_cons_zero, List.set_cons_succ]
        refine wpAnyH_take (i := 11) (v := undef) rfl (by kernel_rfl) (by kernel_rfl) (by kernel_rfl) (fun _ _ _ h => h) (Or.inr ⟨by rfl, rfl⟩) (by assumption) ?_
        simp only [Act.put, List.getElem_toArray, List.getElem_cons_zero, List.getElem_cons_succ, List.setIfInBounds_toArray, List.set_cons_zero, List.set_cons_succ]
        refine wpAnyH_take (i := 12) (v := undef) rfl (by kernel_rfl) (by kernel_rfl) (by kernel_rfl) (fun _ _ _ h => h) (Or.inr ⟨by rfl, rfl⟩) (by assumption) ?_
        simp only [Act.put, List.getElem_toArray, List.getElem_cons_zero, List.getElem_cons_succ, List.setIfInBounds_toArray, List.set_cons_zero, List.set_cons_succ]
        refine wpAnyH_take (i := 13) (v := undef) rfl (by kernel_rfl) (by kernel_rfl) (by kernel_rfl) (fun _ _ _ h => h) (Or.inr ⟨by rfl, rfl⟩) (by assumption) ?_
        simp only [Act.put, List.getElem_toArray, List.getElem_cons_zero, List.getElem_cons_succ, List.setIfInBounds_toArray, List.set_cons_zero, List.set_cons_succ]
        refine wpAnyH_take (i := 14) (v := undef) rfl (by kernel_rfl) (by kernel_rfl) (by kernel_rfl) (fun _ _ _ h => h) (Or.inr ⟨by rfl, rfl⟩) (by assumption) ?_
        simp only [Act.put, List.getElem_toArray, List.getElem_cons_zero, List.getElem_cons_succ, List.setIfInBounds_toArray, List.set_cons_zero, List.set_cons_succ]
        refine wpAnyH_take (i := 15) (v := undef) rfl (by kernel_rfl) (by kernel_rfl) (by kernel_rfl) (fun _ _ _ h => h) (Or.inr ⟨by rfl, rfl⟩) (by assumption) ?_
        simp only [Act.put, List.getElem_toArray, List.getElem_cons_zero, List.getElem_cons_succ, List.setIfInBounds_toArray, List.set_cons_zero, List.set_cons_succ]
        refine wpAnyH_take (i := 16) (v := undef) rfl (by kernel_rfl) (by kernel_rfl) (by kernel_rfl) (fun _ _ _ h => h) (Or.inr ⟨by rfl, rfl⟩) (by assumption) ?_
        simp only [Act.put, List.getElem_toArray, List.getElem_cons_zero, List.getElem_cons_succ, List.setIfInBounds_toArray, List.set_cons_zero, List.set_cons_succ]
        refine wpAnyH_take (i := 17) (v := ?_) rfl (by kernel_rfl) (by kernel_rfl) (by kernel_rfl) (fun _ _ _ h => h) (Or.inl ⟨by rfl, ?_⟩) (by assumption) ?_
        rotate_left
        · (intro w hSw; (try dsimp only at hSw); go_simp; (try with_reducible rfl))
        simp only [Act.put, List.getElem_toArray, List.getElem_cons_zero, List.getElem_cons_succ, List.setIfInBounds_toArray, List.set_cons_zero, List.set_cons_succ]
        refine wpAnyH_done (by kernel_rfl) ?_ _
        refine NoPanic.normal ?_
        have HBF := Lib.hid (bch HBV.out hHeld); clear hHeld
        go_wp2_with fail
        go_ret
        exact ⟨by rw [HE.out]; rfl, HBF.out⟩
      | true =>
        rw [hr] at q0
        have HRJ := Lib.hid (HRJ1.out _ hr rfl); clear hr HRJ0 HRJ1
        rcases Nat.eq_zero_or_pos j with hz | hp
        · have HNX := Lib.hid (HL0.out hz)
          clear HGEN HLT HLN HL0
          have dj : decide ((0 : Int) < (j : Int)) = false := decide_eq_false (by omega)
          have djn : decide (0 < j) = false := decide_eq_false (by omega)
          have HZ := Lib.hid hz; clear hz
          have HAT : Hid (atR t j = atR t j) := rfl
          generalize hrr : atR t j = r at *
          have HRR := Lib.hid hrr; clear hrr
          go_upto_region 6 with fail
          obtain ⟨V, hV⟩ : ∃ V, wr.alloc (.cells #[.string r.key, .string r.value, .int .i64 r.rev, .int .i64 r.life, .string r.note, .slice E m c] 47) = V := ⟨_, rfl⟩
          rw [hV] at hbw hrb hgx ⊢
          have qs : ∀ W, Below V.heap.size V W → Calls Try.prog 37 _ W _ := fun W hb => q0 W (by rw [hV]; exact hb)
          clear q0 hV x0 x1 x2 x3 x4 x5
          have HRB := Lib.hid hrb; clear hrb
          have HBV := Lib.hid (bch HB.out hbw); clear hbw
          have HGX := Lib.hid hgx; clear hgx
          refine wp_region_noPanic ?_
          refine wp_region_held_drew (S := fun W => Below V.heap.size V W) (by kernel_rfl) ((Below.refl _ _).drew) (fun hHeld => ?_)
          refine wpAnyH_take (i := 0) (v := ?_) rfl (by kernel_rfl) (by kernel_rfl) (by kernel_rfl) (fun _ _ _ h => h) (Or.inl ⟨by rfl, ?_⟩) (by assumption) ?_
          rotate_left
          · (intro w hSw; (try dsimp only at hSw); (have hx_ := Blk.below HRB.out hSw); (have y0 := Blk.cell hx_ 0); (have y1 := Blk.cell hx_ 1); (have y2 := Blk.cell hx_ 2); (have y3 := Blk.cell hx_ 3); (have y4 := Blk.cell hx_ 4); (have y5 := Blk.cell hx_ 5); simp only [List.getElem?_toArray, List.getElem?_cons_zero, List.getElem?_cons_succ] at y0 y1 y2 y3 y4 y5; go_simp; (try with_reducible rfl))
          simp only [Act.put, List.getElem_toArray, List.getElem_cons_zero, List.setIfInBounds_toArray, List.set_cons_zero, List.set_cons_succ]
          refine wpAnyH_ready (rs := [1]) (by kernel_rfl) (by simp) ?_
          refine AllReadyH.cons rfl (fun K hK => ?_) AllReadyH.nil
          rw [if_pos (by rfl)]
          go_simp
          ((with_reducible refine (qs _ hHeld).mono ?_); rintro e w' ⟨rfl, bq⟩)
          refine hK.out _ _ (bch hHeld bq) (fun hHeld2 => ?_)
          clear hK K hHeld
          have hHeld := hHeld2; clear hHeld2
          refine wpAnyH_take (i := 2) (v := ?_) rfl (by kernel_rfl) (by kernel_rfl) (by kernel_rfl) (fun _ _ _ h => h) (Or.inl ⟨by rfl, ?_⟩) (by assumption) ?_
          rotate_left
          · (intro w hSw; (try dsimp only at hSw); go_simp; (try with_reducible rfl))
          simp only [Act.put, List.getElem_toArray, List.getElem_cons_zero, List.getElem_cons_succ, List.setIfInBounds_toArray, List.set_cons_zero, List.set_cons_succ]
          refine wpAnyH_take (i := 3) (v := ?_) rfl (by kernel_rfl) (by kernel_rfl) (by kernel_rfl) (fun _ _ _ h => h) (Or.inl ⟨by rfl, ?_⟩) (by assumption) ?_
          rotate_left
          · (intro w hSw; (try dsimp only at hSw); go_simp; (try with_reducible rfl))
          simp only [Act.put, List.getElem_toArray, List.getElem_cons_zero, List.getElem_cons_succ, List.setIfInBounds_toArray, List.set_cons_zero, List.set_cons_succ]
          refine wpAnyH_take (i := 4) (v := ?_) rfl (by kernel_rfl) (by kernel_rfl) (by kernel_rfl) (fun _ _ _ h => h) (Or.inl ⟨by rfl, ?_⟩) (by assumption) ?_
          rotate_left
          · (intro w hSw; (try dsimp only at hSw); go_simp; (try with_reducible rfl))
          simp only [Act.put, List.getElem_toArray, List.getElem_cons_zero, List.getElem_cons_succ, List.setIfInBounds_toArray, List.set_cons_zero, List.set_cons_succ]
          refine wpAnyH_take (i := 5) (v := ?_) rfl (by kernel_rfl) (by kernel_rfl) (by kernel_rfl) (fun _ _ _ h => h) (Or.inl ⟨by rfl, ?_⟩) (by assumption) ?_
          rotate_left
          · (intro w hSw; (try dsimp only at hSw); go_simp; (try with_reducible rfl))
          simp only [Act.put, List.getElem_toArray, List.getElem_cons_zero, List.getElem_cons_succ, List.setIfInBounds_toArray, List.set_cons_zero, List.set_cons_succ]
          refine wpAnyH_take (i := 6) (v := ?_) rfl (by kernel_rfl) (by kernel_rfl) (by kernel_rfl) (fun _ _ _ h => h) (Or.inl ⟨by rfl, ?_⟩) (by assumption) ?_
          rotate_left
          · (intro w hSw; (try dsimp only at hSw); go_simp; (try with_reducible rfl))
          simp only [Act.put, List.getElem_toArray, List.getElem_cons_zero, List.getElem_cons_succ, List.setIfInBounds_toArray, List.set_cons_zero, List.set_cons_succ]
          refine wpAnyH_take (i := 7) (v := undef) rfl (by kernel_rfl) (by kernel_rfl) (by kernel_rfl) (fun _ _ _ h => h) (Or.inr ⟨by rfl, rfl⟩) (by assumption) ?_
          simp only [Act.put, List.getElem_toArray, List.getElem_cons_zero, List.getElem_cons_succ, List.setIfInBounds_toArray, List.set_cons_zero, List.set_cons_succ]
          refine wpAnyH_take (i := 8) (v := undef) rfl (by kernel_rfl) (by kernel_rfl) (by kernel_rfl) (fun _ _ _ h => h) (Or.inr ⟨by rfl, rfl⟩) (by assumption) ?_
          simp only [Act.put, List.getElem_toArray, List.getElem_cons_zero, List.getElem_cons_succ, List.setIfInBounds_toArray, List.set_cons_zero, List.set_cons_succ]
          refine wpAnyH_take (i := 9) (v := undef) rfl (by kernel_rfl) (by kernel_rfl) (by kernel_rfl) (fun _ _ _ h => h) (Or.inr ⟨by rfl, rfl⟩) (by assumption) ?_
          simp only [Act.put, List.getElem_toArray, List.getElem_cons_zero, List.getElem_cons_succ, List.setIfInBounds_toArray, List.set_cons_zero, List.set_cons_succ]
          refine wpAnyH_take (i := 10) (v := undef) rfl (by kernel_rfl) (by kernel_rfl) (by kernel_rfl) (fun _ _ _ h => h) (Or.inr ⟨by rfl, rfl⟩) (by assumption) ?_
          simp only [Act.put, List.getElem_toArray, List.getElem_cons_zero, List.getElem_cons_succ, List.setIfInBounds_toArray, List.set_cons_zero, List.set_cons_succ]
          refine wpAnyH_take (i := 11) (v := undef) rfl (by kernel_rfl) (by kernel_rfl) (by kernel_rfl) (fun _ _ _ h => h) (Or.inr ⟨by rfl, rfl⟩) (by assumption) ?_
          simp only [Act.put, List.getElem_toArray, List.getElem_cons_zero, List.getElem_cons_succ, List.setIfInBounds_toArray, List.set_cons_zero, List.set_cons_succ]
          refine wpAnyH_take (i := 12) (v := undef) rfl (by kernel_rfl) (by kernel_rfl) (by kernel_rfl) (fun _ _ _ h => h) (Or.inr ⟨by rfl, rfl⟩) (by assumption) ?_
          simp only [Act.put, List.getElem_toArray, List.getElem_cons_zero, List.getElem_cons_succ, List.setIfInBounds_toArray, List.set_cons_zero, List.set_cons_succ]
          refine wpAnyH_take (i := 13) (v := undef) rfl (by kernel_rfl) (by kernel_rfl) (by kernel_rfl) (fun _ _ _ h => h) (Or.inr ⟨by rfl, rfl⟩) (by assumption) ?_
          simp only [Act.put, List.getElem_toArray, List.getElem_cons_zero, List.getElem_cons_succ, List.setIfInBounds_toArray, List.set_cons_zero, List.set_cons_succ]
          refine wpAnyH_take (i := 14) (v := undef) rfl (by kernel_rfl) (by kernel_rfl) (by kernel_rfl) (fun _ _ _ h => h) (Or.inr ⟨by rfl, rfl⟩) (by assumption) ?_
          simp only [Act.put, List.getElem_toArray, List.getElem_cons_zero, List.getElem_cons_succ, List.setIfInBounds_toArray, List.set_cons_zero, List.set_cons_succ]
          refine wpAnyH_take (i := 15) (v := undef) rfl (by kernel_rfl) (by kernel_rfl) (by kernel_rfl) (fun _ _ _ h => h) (Or.inr ⟨by rfl, rfl⟩) (by assumption) ?_
          simp only [Act.put, List.getElem_toArray, List.getElem_cons_zero, List.getElem_cons_succ, List.setIfInBounds_toArray, List.set_cons_zero, List.set_cons_succ]
          refine wpAnyH_take (i := 16) (v := ?_) rfl (by kernel_rfl) (by kernel_rfl) (by kernel_rfl) (fun _ _ _ h => h) (Or.inl ⟨by rfl, ?_⟩) (by assumption) ?_
          rotate_left
          · (intro w hSw; (try dsimp only at hSw); go_simp; (try with_reducible rfl))
          simp only [Act.put, List.getElem_toArray, List.getElem_cons_zero, List.getElem_cons_succ, List.setIfInBounds_toArray, List.set_cons_zero, List.set_cons_succ]
          refine wpAnyH_take (i := 17) (v := ?_) rfl (by kernel_rfl) (by kernel_rfl) (by kernel_rfl) (fun _ _ _ h => h) (Or.inl ⟨by rfl, ?_⟩) (by assumption) ?_
          rotate_left
          · (intro w hSw; (try dsimp only at hSw); go_simp; (try with_reducible rfl))
          simp only [Act.put, List.getElem_toArray, List.getElem_cons_zero, List.getElem_cons_succ, List.setIfInBounds_toArray, List.set_cons_zero, List.set_cons_succ]
          refine wpAnyH_done (by kernel_rfl) ?_ _
          refine NoPanic.normal ?_
          have HBF := Lib.hid (bch HBV.out hHeld); clear hHeld
          go_wp2_with fail
          go_roundw
          case rel =>
            refine ⟨j + 1, _, rfl, by omega, by go_num, fun q hq => ?_, HNX.out, HBF.out⟩
            rw [show q = j from by have := HZ.out; omega, HRR.out]
            exact HRJ.out
          case measure => simp [intOf]; omega
        · obtain ⟨i, hij⟩ : ∃ i, j = i + 1 := ⟨j - 1, by omega⟩
          have HIJ := Lib.hid hij
          have HZG := Lib.hid (HGEN.out i (by have := HJL.out; omega)); clear HGEN
          have HLT2 := Lib.hid (HLT.out i hij); clear HLT
          have HLN2 := Lib.hid (HLN.out i hij); clear HLN HL0
          have hi1 : (j : Int) - 1 = (i : Int) := by omega
          have hin : (i : Int) < (n : Int) := by omega
          have hiw : IntKind.i64.wrap (i : Int) = (i : Int) := IntWalk.i64_in _ (by omega)
          have hi0 : (0 : Int) ≤ (i : Int) := by omega
          have dj : decide ((0 : Int) < (j : Int)) = true := decide_eq_true (by omega)
          have djn : decide (0 < j) = true := decide_eq_true (by omega)
          have g3 : decide ((i : Int) < 0) = false := decide_eq_false (by omega)
          have g4 : decide ((n : Int) ≤ (i : Int)) = false := decide_eq_false (by omega)
          have g4n : decide (n ≤ i) = false := decide_eq_false (by omega)
          clear hp hij
          generalize hrr : atR t j = r at *
          generalize hss : atR t i = s at *
          have HRR := Lib.hid hrr; clear hrr
          have HSS := Lib.hid hss; clear hss
          go_upto_region 6 with fail
          obtain ⟨V, hV⟩ : ∃ V, wr.alloc (.cells #[.string r.key, .string r.value, .int .i64 r.rev, .int .i64 r.life, .string r.note, .slice E m c] 47) = V := ⟨_, rfl⟩
          rw [hV] at hbw hrb hgx ⊢
          have qs : ∀ W, Below V.heap.size V W → Calls Try.prog 37 _ W _ := fun W hb => q0 W (by rw [hV]; exact hb)
          have HZ : Hid (∀ W, Below V.heap.size V W → ∃ E2 m2 c2, RcAt W b (off + i * 6) s (.slice E2 m2 c2)) := fun W hb => HZG.out W (by rw [hV]; exact hb)
          clear q0 hV x0 x1 x2 x3 x4 x5 HZG
          have HRB := Lib.hid hrb; clear hrb
          have HBV := Lib.hid (bch HB.out hbw); clear hbw
          have HGX := Lib.hid hgx; clear hgx
          cases hl : ltB s.key r.key with
          | true =>
            have HNX := Lib.hid (HLT2.out hl)
            have e1 : Go.Op.bytesLess r.key.toList s.key.toList = false := lt_asym hl
            have e2 : (r.key.toList == s.key.toList) = false := tb_ne (fun e => lt_ne hl e.symm)
            have e3 : (Go.Op.bytesLess r.key.toList s.key.toList || (r.key.toList == s.key.toList)) = false := by rw [e1, e2]; rfl
            clear hl e1 e2 HLN2 HLT2
            refine wp_region_noPanic ?_
            refine wp_region_held_drew (S := fun W => Below V.heap.size V W) (by kernel_rfl) ((Below.refl _ _).drew) (fun hHeld => ?_)
            refine wpAnyH_take (i := 0) (v := ?_) rfl (by kernel_rfl) (by kernel_rfl) (by kernel_rfl) (fun _ _ _ h => h) (Or.inl ⟨by rfl, ?_⟩) (by assumption) ?_
            rotate_left
            · (intro w hSw; (try dsimp only at hSw); (have hx_ := Blk.below HRB.out hSw); (have y0 := Blk.cell hx_ 0); (have y1 := Blk.cell hx_ 1); (have y2 := Blk.cell hx_ 2); (have y3 := Blk.cell hx_ 3); (have y4 := Blk.cell hx_ 4); (have y5 := Blk.cell hx_ 5); simp only [List.getElem?_toArray, List.getElem?_cons_zero, List.getElem?_cons_succ] at y0 y1 y2 y3 y4 y5; go_simp; (try with_reducible rfl))
            simp only [Act.put, List.getElem_toArray, List.getElem_cons_zero, List.setIfInBounds_toArray, List.set_cons_zero, List.set_cons_succ]
            refine wpAnyH_ready (rs := [1]) (by kernel_rfl) (by simp) ?_
            refine AllReadyH.cons rfl (fun K hK => ?_) AllReadyH.nil
            rw [if_pos (by rfl)]
            go_simp
            ((with_reducible refine (qs _ hHeld).mono ?_); rintro e w' ⟨rfl, bq⟩)
            refine hK.out _ _ (bch hHeld bq) (fun hHeld2 => ?_)
            clear hK K hHeld
            have hHeld := hHeld2; clear hHeld2
            refine wpAnyH_take (i := 2) (v := ?_) rfl (by kernel_rfl) (by kernel_rfl) (by kernel_rfl) (fun _ _ _ h => h) (Or.inl ⟨by rfl, ?_⟩) (by assumption) ?_
            rotate_left
            · (intro w hSw; (try dsimp only at hSw); go_simp; (try with_reducible rfl))
            simp only [Act.put, List.getElem_toArray, List.getElem_cons_zero, List.getElem_cons_succ, List.setIfInBounds_toArray, List.set_cons_zero, List.set_cons_succ]
            refine wpAnyH_take (i := 3) (v := ?_) rfl (by kernel_rfl) (by kernel_rfl) (by kernel_rfl) (fun _ _ _ h => h) (Or.inl ⟨by rfl, ?_⟩) (by assumption) ?_
            rotate_left
            · (intro w hSw; (try dsimp only at hSw); go_simp; (try with_reducible rfl))
            simp only [Act.put, List.getElem_toArray, List.getElem_cons_zero, List.getElem_cons_succ, List.setIfInBounds_toArray, List.set_cons_zero, List.set_cons_succ]
            refine wpAnyH_take (i := 4) (v := ?_) rfl (by kernel_rfl) (by kernel_rfl) (by kernel_rfl) (fun _ _ _ h => h) (Or.inl ⟨by rfl, ?_⟩) (by assumption) ?_
            rotate_left
            · (intro w hSw; (try dsimp only at hSw); go_simp; (try with_reducible rfl))
            simp only [Act.put, List.getElem_toArray, List.getElem_cons_zero, List.getElem_cons_succ, List.setIfInBounds_toArray, List.set_cons_zero, List.set_cons_succ]
            refine wpAnyH_take (i := 5) (v := ?_) rfl (by kernel_rfl) (by kernel_rfl) (by kernel_rfl) (fun _ _ _ h => h) (Or.inl ⟨by rfl, ?_⟩) (by assumption) ?_
            rotate_left
            · (intro w hSw; (try dsimp only at hSw); go_simp; (try with_reducible rfl))
            simp only [Act.put, List.getElem_toArray, List.getElem_cons_zero, List.getElem_cons_succ, List.setIfInBounds_toArray, List.set_cons_zero, List.set_cons_succ]
            refine wpAnyH_take (i := 6) (v := ?_) rfl (by kernel_rfl) (by kernel_rfl) (by kernel_rfl) (fun _ _ _ h => h) (Or.inl ⟨by rfl, ?_⟩) (by assumption) ?_
            rotate_left
            · (intro w hSw; (try dsimp only at hSw); go_simp; (try with_reducible rfl))
            simp only [Act.put, List.getElem_toArray, List.getElem_cons_zero, List.getElem_cons_succ, List.setIfInBounds_toArray, List.set_cons_zero, List.set_cons_succ]
            refine wpAnyH_take (i := 7) (v := ?_) rfl (by kernel_rfl) (by kernel_rfl) (by kernel_rfl) (fun _ _ _ h => h) (Or.inl ⟨by rfl, ?_⟩) (by assumption) ?_
            rotate_left
            · (intro w hSw; (try dsimp only at hSw); go_simp; (try with_reducible rfl))
            simp only [Act.put, List.getElem_toArray, List.getElem_cons_zero, List.getElem_cons_succ, List.setIfInBounds_toArray, List.set_cons_zero, List.set_cons_succ]
            refine wpAnyH_take (i := 8) (v := ?_) rfl (by kernel_rfl) (by kernel_rfl) (by kernel_rfl) (fun _ _ _ h => h) (Or.inl ⟨by rfl, ?_⟩) (by assumption) ?_
            rotate_left
            · (intro w hSw; (try dsimp only at hSw); (have hx_ := Blk.below HRB.out hSw); (have y0 := Blk.cell hx_ 0); (have y1 := Blk.cell hx_ 1); (have y2 := Blk.cell hx_ 2); (have y3 := Blk.cell hx_ 3); (have y4 := Blk.cell hx_ 4); (have y5 := Blk.cell hx_ 5); simp only [List.getElem?_toArray, List.getElem?_cons_zero, List.getElem?_cons_succ] at y0 y1 y2 y3 y4 y5; go_simp; (try with_reducible rfl))
            simp only [Act.put, List.getElem_toArray, List.getElem_cons_zero, List.getElem_cons_succ, List.setIfInBounds_toArray, List.set_cons_zero, List.set_cons_succ]
            refine wpAnyH_take (i := 9) (v := ?_) rfl (by kernel_rfl) (by kernel_rfl) (by kernel_rfl) (fun _ _ _ h => h) (Or.inl ⟨by rfl, ?_⟩) (by assumption) ?_
            rotate_left
            · (intro w hSw; (try dsimp only at hSw); go_simp; (try with_reducible rfl))
            simp only [Act.put, List.getElem_toArray, List.getElem_cons_zero, List.getElem_cons_succ, List.setIfInBounds_toArray, List.set_cons_zero, List.set_cons_succ]
            refine wpAnyH_take (i := 10) (v := ?_) rfl (by kernel_rfl) (by kernel_rfl) (by kernel_rfl) (fun _ _ _ h => h) (Or.inl ⟨by rfl, ?_⟩) (by assumption) ?_
            rotate_left
            · (intro w hSw; (try dsimp only at hSw); go_simp; (try with_reducible rfl))
            simp only [Act.put, List.getElem_toArray, List.getElem_cons_zero, List.getElem_cons_succ, List.setIfInBounds_toArray, List.set_cons_zero, List.set_cons_succ]
            refine wpAnyH_take (i := 11) (v := ?_) rfl (by kernel_rfl) (by kernel_rfl) (by kernel_rfl) (fun _ _ _ h => h) (Or.inl ⟨by rfl, ?_⟩) (by assumption) ?_
            rotate_left
            · (intro w hSw; (try dsimp only at hSw); go_simp; (try with_reducible rfl))
            simp only [Act.put, List.getElem_toArray, List.getElem_cons_zero, List.getElem_cons_succ, List.setIfInBounds_toArray, List.set_cons_zero, List.set_cons_succ]
            refine wpAnyH_take (i := 12) (v := ?_) rfl (by kernel_rfl) (by kernel_rfl) (by kernel_rfl) (fun _ _ _ h => h) (Or.inl ⟨by rfl, ?_⟩) (by assumption) ?_
            rotate_left
            · (intro w hSw; (try dsimp only at hSw); go_simp; (try with_reducible rfl))
            simp only [Act.put, List.getElem_toArray, List.getElem_cons_zero, List.getElem_cons_succ, List.setIfInBounds_toArray, List.set_cons_zero, List.set_cons_succ]
            refine wpAnyH_take (i := 13) (v := ?_) rfl (by kernel_rfl) (by kernel_rfl) (by kernel_rfl) (fun _ _ _ h => h) (Or.inl ⟨by rfl, ?_⟩) (by assumption) ?_
            rotate_left
            · (intro w hSw; (try dsimp only at hSw); go_simp; (try with_reducible rfl))
            simp only [Act.put, List.getElem_toArray, List.getElem_cons_zero, List.getElem_cons_succ, List.setIfInBounds_toArray, List.set_cons_zero, List.set_cons_succ]
            refine wpAnyH_take (i := 14) (v := ?_) rfl (by kernel_rfl) (by kernel_rfl) (by kernel_rfl) (fun _ _ _ h => h) (Or.inl ⟨by rfl, ?_⟩) (by assumption) ?_
            rotate_left
            · (intro w hSw; (try dsimp only at hSw); obtain ⟨_, _, _, z0, _, _, _, _, _⟩ := HZ.out _ hSw; go_simp; (try with_reducible rfl))
            simp only [Act.put, List.getElem_toArray, List.getElem_cons_zero, List.getElem_cons_succ, List.setIfInBounds_toArray, List.set_cons_zero, List.set_cons_succ]
            refine wpAnyH_take (i := 15) (v := ?_) rfl (by kernel_rfl) (by kernel_rfl) (by kernel_rfl) (fun _ _ _ h => h) (Or.inl ⟨by rfl, ?_⟩) (by assumption) ?_
            rotate_left
            · (intro w hSw; (try dsimp only at hSw); go_simp; (try with_reducible rfl))
            simp only [Act.put, List.getElem_toArray, List.getElem_cons_zero, List.getElem_cons_succ, List.setIfInBounds_toArray, List.set_cons_zero, List.set_cons_succ]
            refine wpAnyH_take (i := 16) (v := ?_) rfl (by kernel_rfl) (by kernel_rfl) (by kernel_rfl) (fun _ _ _ h => h) (Or.inl ⟨by rfl, ?_⟩) (by assumption) ?_
            rotate_left
            · (intro w hSw; (try dsimp only at hSw); go_simp; (try with_reducible rfl))
            simp only [Act.put, List.getElem_toArray, List.getElem_cons_zero, List.getElem_cons_succ, List.setIfInBounds_toArray, List.set_cons_zero, List.set_cons_succ]
            refine wpAnyH_take (i := 17) (v := ?_) rfl (by kernel_rfl) (by kernel_rfl) (by kernel_rfl) (fun _ _ _ h => h) (Or.inl ⟨by rfl, ?_⟩) (by assumption) ?_
            rotate_left
            · (intro w hSw; (try dsimp only at hSw); go_simp; (try with_reducible rfl))
            simp only [Act.put, List.getElem_toArray, List.getElem_cons_zero, List.getElem_cons_succ, List.setIfInBounds_toArray, List.set_cons_zero, List.set_cons_succ]
            refine wpAnyH_done (by kernel_rfl) ?_ _
            refine NoPanic.normal ?_
            have HBF := Lib.hid (bch HBV.out hHeld); clear hHeld
            go_wp2_with fail
            go_roundw
            case rel => exact ⟨j + 1, _, rfl, by omega, by go_num, fun q hq => by rcases (by omega : q < j ∨ q = j) with h | rfl; exact HRI.out q h; rw [HRR.out]; exact HRJ.out, HNX.out, HBF.out⟩
            case measure => simp [intOf]; omega
          | false =>
            have HE : Hid (R = false) := HNO.out (HLN2.out hl)
            have e3 : (Go.Op.bytesLess r.key.toList s.key.toList || (r.key.toList == s.key.toList)) = true := by
              cases hg : Go.Op.bytesLess r.key.toList s.key.toList
              · rw [tb_eq (lt_tri (by exact hg) hl)]; rfl
              · rfl
            clear hl HLN2 HLT2
            refine wp_region_noPanic ?_
            refine wp_region_held_drew (S := fun W => Below V.heap.size V W) (by kernel_rfl) ((Below.refl _ _).drew) (fun hHeld => ?_)
            refine wpAnyH_take (i := 0) (v := ?_) rfl (by kernel_rfl) (by kernel_rfl) (by kernel_rfl) (fun _ _ _ h => h) (Or.inl ⟨by rfl, ?_⟩) (by assumption) ?_
            rotate_left
            · (intro w hSw; (try dsimp only at hSw); (have hx_ := Blk.below HRB.out hSw); (have y0 := Blk.cell hx_ 0); (have y1 := Blk.cell hx_ 1); (have y2 := Blk.cell hx_ 2); (have y3 := Blk.cell hx_ 3); (have y4 := Blk.cell hx_ 4); (have y5 := Blk.cell hx_ 5); simp only [List.getElem?_toArray, List.getElem?_cons_zero, List.getElem?_cons_succ] at y0 y1 y2 y3 y4 y5; go_simp; (try with_reducible rfl))
            simp only [Act.put, List.getElem_toArray, List.getElem_cons_zero, List.setIfInBounds_toArray, List.set_cons_zero, List.set_cons_succ]
            refine wpAnyH_ready (rs := [1]) (by kernel_rfl) (by simp) ?_
            refine AllReadyH.cons rfl (fun K hK => ?_) AllReadyH.nil
            rw [if_pos (by rfl)]
            go_simp
            ((with_reducible refine (qs _ hHeld).mono ?_); rintro e w' ⟨rfl, bq⟩)
            refine hK.out _ _ (bch hHeld bq) (fun hHeld2 => ?_)
            clear hK K hHeld
            have hHeld := hHeld2; clear hHeld2
            refine wpAnyH_take (i := 2) (v := ?_) rfl (by kernel_rfl) (by kernel_rfl) (by kernel_rfl) (fun _ _ _ h => h) (Or.inl ⟨by rfl, ?_⟩) (by assumption) ?_
            rotate_left
            · (intro w hSw; (try dsimp only at hSw); go_simp; (try with_reducible rfl))
            simp only [Act.put, List.getElem_toArray, List.getElem_cons_zero, List.getElem_cons_succ, List.setIfInBounds_toArray, List.set_cons_zero, List.set_cons_succ]
            refine wpAnyH_take (i := 3) (v := ?_) rfl (by kernel_rfl) (by kernel_rfl) (by kernel_rfl) (fun _ _ _ h => h) (Or.inl ⟨by rfl, ?_⟩) (by assumption) ?_
            rotate_left
            · (intro w hSw; (try dsimp only at hSw); go_simp; (try with_reducible rfl))
            simp only [Act.put, List.getElem_toArray, List.getElem_cons_zero, List.getElem_cons_succ, List.setIfInBounds_toArray, List.set_cons_zero, List.set_cons_succ]
            refine wpAnyH_take (i := 4) (v := ?_) rfl (by kernel_rfl) (by kernel_rfl) (by kernel_rfl) (fun _ _ _ h => h) (Or.inl ⟨by rfl, ?_⟩) (by assumption) ?_
            rotate_left
            · (intro w hSw; (try dsimp only at hSw); go_simp; (try with_reducible rfl))
            simp only [Act.put, List.getElem_toArray, List.getElem_cons_zero, List.getElem_cons_succ, List.setIfInBounds_toArray, List.set_cons_zero, List.set_cons_succ]
            refine wpAnyH_take (i := 5) (v := ?_) rfl (by kernel_rfl) (by kernel_rfl) (by kernel_rfl) (fun _ _ _ h => h) (Or.inl ⟨by rfl, ?_⟩) (by assumption) ?_
            rotate_left
            · (intro w hSw; (try dsimp only at hSw); go_simp; (try with_reducible rfl))
            simp only [Act.put, List.getElem_toArray, List.getElem_cons_zero, List.getElem_cons_succ, List.setIfInBounds_toArray, List.set_cons_zero, List.set_cons_succ]
            refine wpAnyH_take (i := 6) (v := ?_) rfl (by kernel_rfl) (by kernel_rfl) (by kernel_rfl) (fun _ _ _ h => h) (Or.inl ⟨by rfl, ?_⟩) (by assumption) ?_
            rotate_left
            · (intro w hSw; (try dsimp only at hSw); go_simp; (try with_reducible rfl))
            simp only [Act.put, List.getElem_toArray, List.getElem_cons_zero, List.getElem_cons_succ, List.setIfInBounds_toArray, List.set_cons_zero, List.set_cons_succ]
            refine wpAnyH_take (i := 7) (v := ?_) rfl (by kernel_rfl) (by kernel_rfl) (by kernel_rfl) (fun _ _ _ h => h) (Or.inl ⟨by rfl, ?_⟩) (by assumption) ?_
            rotate_left
            · (intro w hSw; (try dsimp only at hSw); go_simp; (try with_reducible rfl))
            simp only [Act.put, List.getElem_toArray, List.getElem_cons_zero, List.getElem_cons_succ, List.setIfInBounds_toArray, List.set_cons_zero, List.set_cons_succ]
            refine wpAnyH_take (i := 8) (v := ?_) rfl (by kernel_rfl) (by kernel_rfl) (by kernel_rfl) (fun _ _ _ h => h) (Or.inl ⟨by rfl, ?_⟩) (by assumption) ?_
            rotate_left
            · (intro w hSw; (try dsimp only at hSw); (have hx_ := Blk.below HRB.out hSw); (have y0 := Blk.cell hx_ 0); (have y1 := Blk.cell hx_ 1); (have y2 := Blk.cell hx_ 2); (have y3 := Blk.cell hx_ 3); (have y4 := Blk.cell hx_ 4); (have y5 := Blk.cell hx_ 5); simp only [List.getElem?_toArray, List.getElem?_cons_zero, List.getElem?_cons_succ] at y0 y1 y2 y3 y4 y5; go_simp; (try with_reducible rfl))
            simp only [Act.put, List.getElem_toArray, List.getElem_cons_zero, List.getElem_cons_succ, List.setIfInBounds_toArray, List.set_cons_zero, List.set_cons_succ]
            refine wpAnyH_take (i := 9) (v := ?_) rfl (by kernel_rfl) (by kernel_rfl) (by kernel_rfl) (fun _ _ _ h => h) (Or.inl ⟨by rfl, ?_⟩) (by assumption) ?_
            rotate_left
            · (intro w hSw; (try dsimp only at hSw); go_simp; (try with_reducible rfl))
            simp only [Act.put, List.getElem_toArray, List.getElem_cons_zero, List.getElem_cons_succ, List.setIfInBounds_toArray, List.set_cons_zero, List.set_cons_succ]
            refine wpAnyH_take (i := 10) (v := ?_) rfl (by kernel_rfl) (by kernel_rfl) (by kernel_rfl) (fun _ _ _ h => h) (Or.inl ⟨by rfl, ?_⟩) (by assumption) ?_
            rotate_left
            · (intro w hSw; (try dsimp only at hSw); go_simp; (try with_reducible rfl))
            simp only [Act.put, List.getElem_toArray, List.getElem_cons_zero, List.getElem_cons_succ, List.setIfInBounds_toArray, List.set_cons_zero, List.set_cons_succ]
            refine wpAnyH_take (i := 11) (v := ?_) rfl (by kernel_rfl) (by kernel_rfl) (by kernel_rfl) (fun _ _ _ h => h) (Or.inl ⟨by rfl, ?_⟩) (by assumption) ?_
            rotate_left
            · (intro w hSw; (try dsimp only at hSw); go_simp; (try with_reducible rfl))
            simp only [Act.put, List.getElem_toArray, List.getElem_cons_zero, List.getElem_cons_succ, List.setIfInBounds_toArray, List.set_cons_zero, List.set_cons_succ]
            refine wpAnyH_take (i := 12) (v := ?_) rfl (by kernel_rfl) (by kernel_rfl) (by kernel_rfl) (fun _ _ _ h => h) (Or.inl ⟨by rfl, ?_⟩) (by assumption) ?_
            rotate_left
            · (intro w hSw; (try dsimp only at hSw); go_simp; (try with_reducible rfl))
            simp only [Act.put, List.getElem_toArray, List.getElem_cons_zero, List.getElem_cons_succ, List.setIfInBounds_toArray, List.set_cons_zero, List.set_cons_succ]
            refine wpAnyH_take (i := 13) (v := ?_) rfl (by kernel_rfl) (by kernel_rfl) (by kernel_rfl) (fun _ _ _ h => h) (Or.inl ⟨by rfl, ?_⟩) (by assumption) ?_
            rotate_left
            · (intro w hSw; (try dsimp only at hSw); go_simp; (try with_reducible rfl))
            simp only [Act.put, List.getElem_toArray, List.getElem_cons_zero, List.getElem_cons_succ, List.setIfInBounds_toArray, List.set_cons_zero, List.set_cons_succ]
            refine wpAnyH_take (i := 14) (v := ?_) rfl (by kernel_rfl) (by kernel_rfl) (by kernel_rfl) (fun _ _ _ h => h) (Or.inl ⟨by rfl, ?_⟩) (by assumption) ?_
            rotate_left
            · (intro w hSw; (try dsimp only at hSw); obtain ⟨_, _, _, z0, _, _, _, _, _⟩ := HZ.out _ hSw; go_simp; (try with_reducible rfl))
            simp only [Act.put, List.getElem_toArray, List.getElem_cons_zero, List.getElem_cons_succ, List.setIfInBounds_toArray, List.set_cons_zero, List.set_cons_succ]
            refine wpAnyH_take (i := 15) (v := ?_) rfl (by kernel_rfl) (by kernel_rfl) (by kernel_rfl) (fun _ _ _ h => h) (Or.inl ⟨by rfl, ?_⟩) (by assumption) ?_
            rotate_left
            · (intro w hSw; (try dsimp only at hSw); go_simp; (try with_reducible rfl))
            simp only [Act.put, List.getElem_toArray, List.getElem_cons_zero, List.getElem_cons_succ, List.setIfInBounds_toArray, List.set_cons_zero, List.set_cons_succ]
            refine wpAnyH_take (i := 16) (v := ?_) rfl (by kernel_rfl) (by kernel_rfl) (by kernel_rfl) (fun _ _ _ h => h) (Or.inl ⟨by rfl, ?_⟩) (by assumption) ?_
            rotate_left
            · (intro w hSw; (try dsimp only at hSw); go_simp; (try with_reducible rfl))
            simp only [Act.put, List.getElem_toArray, List.getElem_cons_zero, List.getElem_cons_succ, List.setIfInBounds_toArray, List.set_cons_zero, List.set_cons_succ]
            refine wpAnyH_take (i := 17) (v := ?_) rfl (by kernel_rfl) (by kernel_rfl) (by kernel_rfl) (fun _ _ _ h => h) (Or.inl ⟨by rfl, ?_⟩) (by assumption) ?_
            rotate_left
            · (intro w hSw; (try dsimp only at hSw); go_simp; (try with_reducible rfl))
            simp only [Act.put, List.getElem_toArray, List.getElem_cons_zero, List.getElem_cons_succ, List.setIfInBounds_toArray, List.set_cons_zero, List.set_cons_succ]
            refine wpAnyH_done (by kernel_rfl) ?_ _
            refine NoPanic.normal ?_
            have HBF := Lib.hid (bch HBV.out hHeld); clear hHeld
            go_wp2_with fail
            go_ret
            exact ⟨by rw [HE.out]; rfl, HBF.out⟩
    · have hje : j = n := by omega
      subst hje
      have htl : t.take j = t := by rw [List.take_of_length_le]; have := HN.out; omega
      rw [htl] at HRS
      have hall : ∀ r ∈ t, rightR 2 r = true := fun r hr => by
        obtain ⟨q, hq, rfl⟩ := List.getElem_of_mem hr
        have := HRI.out q (by have := HN.out; omega)
        rw [atR_get hq] at this
        exact this
      have HE : Hid (R = true) := HYES.out ⟨hall, HRS.out, by have := HN.out; omega⟩
      clear hlt htl hall
      go_wp2_with fail
      go_ret
      exact ⟨by rw [HE.out]; rfl, HB.out⟩
theorem rightQT_any : RightQT := fun t A n cap w _ h _ => right12_any t A n cap w h
theorem run_callFunc_bodyT {P : Program} {f : FuncId} {fn : Func} (hf : P.funcs[f]? = some fn) (hname : (fn.name == "runtime.NumGoroutine") = false) (hb : fn.body.isNone = false) (args : Array Value) (w : World) :
    (callFunc f args).run P w = .ok (.enter f args) w := by
  have h1 : fn.name ≠ "runtime.NumGoroutine" := by simpa using hname
  have h2 : fn.body ≠ none := by intro h; rw [h] at hb; cases hb
  simp [callFunc, hf, h1, h2]
theorem cfSame12 (args : Array Value) (w : World) : (callFunc 40 args).run Try.prog w = .ok (.enter 40 args) w := run_callFunc_bodyT Try.func40 (by kernel_rfl) (by kernel_rfl) args w
set_option maxRecDepth 100000 in
set_option maxHeartbeats 8000000 in
theorem equalFunc12_any (t u : List Rcd) (A B : Option Addr) (n m cap cap2 : Nat) (w : World) (h : IsTs w A n t) (h2 : IsTs w B m u) :
    Calls Try.prog 39 #[.slice A n cap, .slice B m cap2, .func (.func 40) #[] #[]] w fun e w' => e = .returned (.bool (sameT t u)) ∧ Below w.heap.size w w' := by
  have hn9 := h.2.1
  have hm9 := h2.2.1
  unfold maxLen at hn9 hm9
  have HN : Hid (n = t.length) := h.1
  have HM : Hid (m = u.length) := h2.1
  have HT := Lib.hid h; clear h
  have HU := Lib.hid h2; clear h2
  have HNO : Hid (t ≠ u → sameT t u = false) := fun h => by rw [Bool.eq_false_iff]; exact fun e => h (sameT_iff.1 e)
  have HYES : Hid (t = u → sameT t u = true) := sameT_iff.2
  generalize sameT t u = R at *
  by_cases hnm : n = m
  rotate_left
  · have HE : Hid (R = false) := HNO.out fun e => hnm (by rw [HN.out, HM.out, e])
    have e1 : ((n : Int) != (m : Int)) = true := by simp; omega
    clear hnm
    go_enter Try.func39, Try.ntmps39
    go_wp2_with fail
    go_ret
    exact ⟨by rw [HE.out]; rfl, Below.refl _ _⟩
  subst hnm
  have e1 : ((n : Int) != (n : Int)) = false := by simp
  go_enter Try.func39, Try.ntmps39
  go_wp2_with fail
  go_loopw [17] (fun i wy => ∃ (j : Nat) (wr : World), wr = wy ∧ j ≤ n ∧ i = .int .i64 j ∧ (∀ q, q < j → atR t q = atR u q) ∧ Below w.heap.size w wr) (fun i _ => n - (intOf i).toNat)
  case atStart => exact ⟨0, _, rfl, by omega, rfl, (fun q hq => by omega), Below.refl _ _⟩
  case round =>
    obtain ⟨j, wr, rfl, hj, rfl, hsm, hb⟩ := hrel
    have HB := Lib.hid hb; clear hb
    have HSM := Lib.hid hsm; clear hsm
    by_cases hlt : j < n
    · have hji : (j : Int) < (n : Int) := by omega
      have hj0 : (0 : Int) ≤ (j : Int) := by omega
      have hjl : j < t.length := by have := HN.out; omega
      have hju : j < u.length := by have := HM.out; omega
      obtain ⟨b, off, hA, _⟩ := HT.out.block (by omega)
      subst hA
      obtain ⟨b2, off2, hA2, _⟩ := HU.out.block (by omega)
      subst hA2
      obtain ⟨E, m1, c, hx, _, hfs⟩ := HT.out.at hjl HB.out
      obtain ⟨E2, m2, c2, hy, _, hfs2⟩ := HU.out.at hju HB.out
      have HX : Hid (∀ b, sameR (atR t j) (atR u j) = b → (b = true ↔ atR t j = atR u j)) := fun b hb => by rw [← hb]; exact sameR_iff
      obtain ⟨s, hs⟩ : ∃ s, sameR (atR t j) (atR u j) = s := ⟨_, rfl⟩
      have HS := Lib.hid (HX.out s hs)
      have HSS := Lib.hid hs; clear hs HX
      have HNE : Hid (s = false → t ≠ u) := fun e h => by subst e; have := HS.out.2 (by rw [h]); cases this
      have HST : Hid (s = true → atR t j = atR u j) := HS.out.1
      clear HS hjl hju
      have HFX := Lib.hid hfs; clear hfs
      have HFY := Lib.hid hfs2; clear hfs2
      generalize hxx : atR t j = x at *
      generalize hyy : atR u j = y at *
      have HXX := Lib.hid hxx; clear hxx
      have HYY := Lib.hid hyy; clear hyy
      have hb1 : Below wr.heap.size wr (wr.alloc (.cells #[.string x.key, .string x.value, .int .i64 x.rev, .int .i64 x.life, .string x.note, .slice E m1 c] 47)) := (Below.refl _ _).alloc (Nat.le_refl _) _
      have hbx := Blk.new wr (.cells #[.string x.key, .string x.value, .int .i64 x.rev, .int .i64 x.life, .string x.note, .slice E m1 c] 47)
      have hgx := World.size_alloc wr (.cells #[.string x.key, .string x.value, .int .i64 x.rev, .int .i64 x.life, .string x.note, .slice E m1 c] 47)
      have hy1 := hy.below hb1
      obtain ⟨x0, x1, x2, x3, x4, x5⟩ := hx
      clear hy
      go_upto_region 6 with fail
      clear x0 x1 x2 x3 x4 x5
      obtain ⟨V1, hV1⟩ : ∃ V, wr.alloc (.cells #[.string x.key, .string x.value, .int .i64 x.rev, .int .i64 x.life, .string x.note, .slice E m1 c] 47) = V := ⟨_, rfl⟩
      rw [hV1] at hb1 hbx hgx hy1 ⊢
      clear hV1
      have HB1 := Lib.hid hb1; clear hb1
      have HGX := Lib.hid hgx; clear hgx
      have HBX1 := Lib.hid hbx; clear hbx
      have hb2 : Below V1.heap.size V1 (V1.alloc (.cells #[.string y.key, .string y.value, .int .i64 y.rev, .int .i64 y.life, .string y.note, .slice E2 m2 c2] 47)) := (Below.refl _ _).alloc (Nat.le_refl _) _
      have hby := Blk.new V1 (.cells #[.string y.key, .string y.value, .int .i64 y.rev, .int .i64 y.life, .string y.note, .slice E2 m2 c2] 47)
      have hbx2 := Blk.below HBX1.out hb2
      have hgy := World.size_alloc V1 (.cells #[.string y.key, .string y.value, .int .i64 y.rev, .int .i64 y.life, .string y.note, .slice E2 m2 c2] 47)
      obtain ⟨y0, y1, y2, y3, y4, y5⟩ := hy1
      go_upto_region 7 with fail
      clear y0 y1 y2 y3 y4 y5
      obtain ⟨V2, hV2⟩ : ∃ V, V1.alloc (.cells #[.string y.key, .string y.value, .int .i64 y.rev, .int .i64 y.life, .string y.note, .slice E2 m2 c2] 47) = V := ⟨_, rfl⟩
      rw [hV2] at hb2 hby hbx2 hgy ⊢
      clear hV2 HBX1
      have HGY := Lib.hid hgy; clear hgy
      have HB2 := Lib.hid (bch HB1.out hb2); clear hb2
      have q := rSame_any x y E E2 m1 m2 c c2 V2 (HFX.out.below HB2.out) (HFY.out.below HB2.out)
      rw [HSS.out] at q
      unfold rcV at q
      have y0 := Blk.cell hbx2 0
      have y1 := Blk.cell hbx2 1
      have y2 := Blk.cell hbx2 2
      have y3 := Blk.cell hbx2 3
      have y4 := Blk.cell hbx2 4
      have y5 := Blk.cell hbx2 5
      have z0 := Blk.cell hby 0
      have z1 := Blk.cell hby 1
      have z2 := Blk.cell hby 2
      have z3 := Blk.cell hby 3
      have z4 := Blk.cell hby 4
      have z5 := Blk.cell hby 5
      simp only [List.getElem?_toArray, List.getElem?_cons_zero, List.getElem?_cons_succ] at y0 y1 y2 y3 y4 y5 z0 z1 z2 z3 z4 z5
      have HBY := Lib.hid hby; clear hby
      have HBX2 := Lib.hid hbx2; clear hbx2
      have cf := cfSame12
      cases s with
      | true =>
        go_wp2_with fail
        ((with_reducible refine q.mono ?_); rintro e W3 ⟨rfl, b3⟩)
        have HB3 := Lib.hid (bch HB.out (bch HB2.out b3)); clear b3 q
        clear y0 y1 y2 y3 y4 y5 z0 z1 z2 z3 z4 z5
        go_wp2_with fail
        go_roundw
        case rel => exact ⟨j + 1, _, rfl, by omega, by go_num, fun q hq => by rcases (by omega : q < j ∨ q = j) with h | rfl; exact HSM.out q h; rw [HXX.out, HYY.out]; exact HST.out (by first | trivial | rfl), HB3.out⟩
        case measure => simp [intOf]; omega
      | false =>
        have HE : Hid (R = false) := HNO.out (HNE.out rfl)
        go_wp2_with fail
        ((with_reducible refine q.mono ?_); rintro e W3 ⟨rfl, b3⟩)
        have HB3 := Lib.hid (bch HB.out (bch HB2.out b3)); clear b3 q
        clear y0 y1 y2 y3 y4 y5 z0 z1 z2 z3 z4 z5
        go_wp2_with fail
        go_ret
        exact ⟨by rw [HE.out]; rfl, HB3.out⟩
    · have hje : j = n := by omega
      subst hje
      have HE : Hid (R = true) := HYES.out (by
        refine List.ext_getElem (by rw [← HN.out, ← HM.out]) fun i hi hj2 => ?_
        have := HSM.out i (by have := HN.out; omega)
        rw [atR_get hi, atR_get hj2] at this
        exact this)
      clear hlt
      go_wp2_with fail
      go_ret
      exact ⟨by rw [HE.out]; rfl, HB.out⟩
theorem same12_any (t u : List Rcd) (A B : Option Addr) (n m cap cap2 : Nat) (w : World) (h : IsTs w A n t) (h2 : IsTs w B m u) :
    Calls Try.prog 22 #[.slice A n cap, .slice B m cap2] w fun e w' => e = .returned (.bool (sameT t u)) ∧ Below w.heap.size w w' := by
  have q := equalFunc12_any t u A B n m cap cap2 w h h2
  clear h h2
  go_enter Try.func22, Try.ntmps22
  go_wp2_with fail
  ((with_reducible refine q.mono ?_); rintro e W1 ⟨rfl, b1⟩)
  go_wp2_with fail
  go_ret
  exact ⟨rfl, b1⟩
theorem sameQT_any : SameQT := fun t u A B n m cap cap2 w _ _ h h2 _ _ => same12_any t u A B n m cap cap2 w h h2
end Go.Proofs.Ytpnkkiokkhmjpaa


/-
  The contracts of strings.Compare, of slices.BinarySearchFunc over it, and of the program's own begin (stage 12).
-/
namespace Go.Proofs.Ytpnkkiokkhmjpaa
open Go.RowKit Go.Lib
set_option linter.unusedVariables false
set_option linter.unusedSimpArgs false

/-- What strings.Compare tells. -/
def cmpB (a b : ByteArray) : Int := if ltB a b then -1 else if a = b then 0 else 1
theorem bl_cmp : ∀ l m : List UInt8, compareBytes l m = if Go.Op.bytesLess l m then -1 else if l = m then 0 else 1
  | [], [] => rfl
  | [], _ :: _ => rfl
  | _ :: _, [] => by simp [compareBytes, Go.Op.bytesLess]
  | x :: a, y :: b => by
    unfold compareBytes
    simp only [Go.Op.bytesLess, bl_cmp a b]
    by_cases h1 : x < y
    · simp [h1]
    · by_cases h2 : y < x
      · have h3 : ¬ x = y := fun e => by subst e; exact h1 h2
        simp [h1, h2, h3]
      · have h3 : x = y := by
          rw [UInt8.lt_iff_toNat_lt] at h1 h2
          exact UInt8.toNat_inj.1 (by omega)
        subst h3
        simp [h1]
theorem compare_eq (a b : ByteArray) : compareBytes a.data.toList b.data.toList = cmpB a b := by
  rw [bl_cmp, ← tl_data, ← tl_data]
  unfold cmpB ltB
  by_cases h : a = b
  · subst h; simp
  · have : ¬ a.toList = b.toList := fun e => h (bax e)
    simp [h, this]
theorem cmp_lt {a b : ByteArray} (h : ltB a b = true) : cmpB a b = -1 := by unfold cmpB; rw [if_pos h]
theorem cmp_ge {a b : ByteArray} (h : ltB a b = false) : 0 ≤ cmpB a b := by unfold cmpB; rw [if_neg (by rw [h]; decide)]; split <;> decide
theorem cmp_eq0 {a b : ByteArray} : cmpB a b = 0 ↔ a = b := by
  unfold cmpB
  constructor
  · intro h
    split at h
    · cases h
    · split at h
      · assumption
      · cases h
  · intro h; subst h; rw [lt_irr]; simp
set_option maxRecDepth 100000 in
set_option maxHeartbeats 8000000 in
theorem compareStr_any (a b : ByteArray) (w : World) : Calls Try.prog 45 #[.string a, .string b] w fun e w' => e = .returned (.int .i64 (cmpB a b)) ∧ w = w' := by
  have hcall : (callFunc 73 #[.string a, .string b]).run Try.prog w = .ok (.value (.int .i64 (cmpB a b))) w := by
    rw [run_callFunc_extern Try.func73 (by kernel_rfl) (by kernel_rfl) (by kernel_rfl) (e := Extern.BytealgCompare.compare) (by kernel_rfl), run_compareString, compare_eq]
    rfl
  have h1 : Calls Try.prog 60 #[.string a, .string b] w fun e w' => e = .returned (.int .i64 (cmpB a b)) ∧ w = w' := by
    generalize cmpB a b = c at *
    go_enter Try.func60, Try.ntmps60
    go_wp2_with (simp only [hcall])
    go_ret
    exact ⟨rfl, rfl⟩
  clear hcall
  generalize cmpB a b = c at *
  go_enter Try.func45, Try.ntmps45
  go_wp2_with fail
  ((with_reducible refine h1.mono ?_); rintro e W1 ⟨rfl, rfl⟩)
  go_wp2_with fail
  go_ret
  exact ⟨rfl, rfl⟩
set_option maxRecDepth 100000 in
set_option maxHeartbeats 8000000 in
theorem begin1_any (r : Rcd) (x : Value) (k : ByteArray) (w : World) : Calls Try.prog 44 #[rcV r x, .string k] w fun e w' => e = .returned (.int .i64 (cmpB r.key k)) ∧ Below w.heap.size w w' := by
  have hbw : Below w.heap.size w (w.alloc (.cells #[.string r.key, .string r.value, .int .i64 r.rev, .int .i64 r.life, .string r.note, x] 47)) := (Below.refl _ _).alloc (Nat.le_refl _) _
  have q := fun W => compareStr_any r.key k W
  generalize cmpB r.key k = c at *
  unfold rcV
  go_enter Try.func44, Try.ntmps44
  go_wp2_with fail
  ((with_reducible refine (q _).mono ?_); rintro e W1 ⟨rfl, rfl⟩)
  go_wp2_with fail
  go_ret
  exact ⟨rfl, hbw⟩
theorem cfBegin1 (args : Array Value) (w : World) : (callFunc 44 args).run Try.prog w = .ok (.enter 44 args) w := run_callFunc_bodyT Try.func44 (by kernel_rfl) (by kernel_rfl) args w
/-- A key's place: so many keys are below it; is it there? -/
def PlaceT (t : List Rcd) (k : ByteArray) (i : Nat) (th : Bool) : Prop :=
  i ≤ t.length ∧ (∀ j, j < i → ltB (atR t j).key k = true) ∧ (∀ j, i ≤ j → j < t.length → ltB (atR t j).key k = false) ∧ th = decide (i < t.length ∧ (atR t i).key = k)
theorem place_yes {t : List Rcd} {k : ByteArray} {i : Nat} (h : PlaceT t k i true) : i < t.length ∧ (atR t i).key = k ∧ idxT t k = some i := by
  obtain ⟨_, h1, _, h3⟩ := h
  have h4 := of_decide_eq_true h3.symm
  exact ⟨h4.1, h4.2, idx_found (fun j hj e => by have := h1 j hj; rw [e, lt_irr] at this; cases this) h4.1 h4.2⟩
theorem place_no {t : List Rcd} {k : ByteArray} {i : Nat} (hr : Rise t) (h : PlaceT t k i false) : idxT t k = none := by
  obtain ⟨_, h1, h2, h3⟩ := h
  have h4 := of_decide_eq_false h3.symm
  refine idx_not fun j hj e => ?_
  rcases Nat.lt_or_ge j i with h5 | h5
  · have := h1 j h5; rw [e, lt_irr] at this; cases this
  · rcases Nat.lt_or_eq_of_le h5 with h6 | rfl
    · have a1 := rise_lt hr h6 hj
      have a2 := h2 i (Nat.le_refl _) (by omega)
      rw [e] at a1
      rw [a1] at a2; cases a2
    · exact h4 ⟨hj, e⟩
/-- What lies where a key's record is to stand. -/
theorem place_ins {t : List Rcd} {r : Rcd} {i : Nat} (h1 : i ≤ t.length) (h2 : ∀ j, j < i → ltB (atR t j).key r.key = true) (h3 : ∀ j, i ≤ j → j < t.length → ltB (atR t j).key r.key = false) (hn : ∀ x ∈ t, x.key ≠ r.key) :
    insT t r = t.take i ++ r :: t.drop i := by
  induction t generalizing i with
  | nil => have : i = 0 := by simpa using h1
           subst this; rfl
  | cons x l ih =>
    cases i with
    | zero =>
      have h := h3 0 (Nat.le_refl _) (by simp)
      rw [show atR (x :: l) 0 = x from rfl] at h
      have : ltB r.key x.key = true := by
        cases e : ltB r.key x.key with
        | true => rfl
        | false => exact absurd (lt_tri h e) (hn x (List.mem_cons_self ..))
      unfold insT
      rw [if_pos this]; rfl
    | succ i =>
      have h := h2 0 (by omega)
      rw [show atR (x :: l) 0 = x from rfl] at h
      unfold insT
      rw [if_neg (by rw [lt_asym h]; decide)]
      rw [ih (i := i) (by simpa using h1) (fun j hj => h2 (j + 1) (by omega)) (fun j hj hl => h3 (j + 1) (by omega) (by simpa using hl)) (fun y hy => hn y (List.mem_cons_of_mem _ hy))]
      rfl
set_option maxRecDepth 100000 in
set_option maxHeartbeats 8000000 in
theorem search12_any (A : Option Addr) (n cap : Nat) (t : List Rcd) (k : ByteArray) (w : World) (h : IsTs w A n t) (hr : Rise t) (h20 : n ≤ 20) :
    Calls Try.prog 43 #[.slice A n cap, .string k, .func (.func 44) #[] #[]] w fun e w' => (∃ (i : Nat) (th : Bool), PlaceT t k i th ∧ e = .returned (.tuple #[.int .i64 i, .bool th])) ∧ Below w.heap.size w w' := by
  have HN : Hid (n = t.length) := h.1
  have HT := Lib.hid h; clear h
  have S : Hid (∀ a b, a ≤ b → b < n → ltB (atR t b).key k = true → ltB (atR t a).key k = true) := fun a b h1 h2 h3 => by
    rcases Nat.lt_or_eq_of_le h1 with h4 | rfl
    · exact lt_trans (rise_lt hr h4 (by have := HN.out; omega)) h3
    · exact h3
  have cf := cfBegin1
  clear hr
  go_enter Try.func43, Try.ntmps43
  go_wp2_with fail
  go_loopg [9, 10] n (fun g s7 s8 wr => ∃ lo hi : Nat, s7 = .int .i64 lo ∧ s8 = .int .i64 hi ∧ lo ≤ hi ∧ hi ≤ n ∧ hi - lo ≤ g ∧ Below w.heap.size w wr ∧ (∀ j, j < lo → ltB (atR t j).key k = true) ∧ (∀ j, hi ≤ j → j < n → ltB (atR t j).key k = false))
  case atStart => exact ⟨0, n, rfl, rfl, Nat.zero_le _, Nat.le_refl _, by omega, Below.refl _ _, fun j hj => absurd hj (Nat.not_lt_zero _), fun j h1 h2 => by omega⟩
  case round =>
    obtain ⟨lo, hi, rfl, rfl, hlh, hin, hg, hb, h1, h2⟩ := hrel
    have I : Hid ((∀ j, j < lo → ltB (atR t j).key k = true) ∧ (∀ j, hi ≤ j → j < n → ltB (atR t j).key k = false)) := ⟨h1, h2⟩
    clear h1 h2
    have HB := Lib.hid hb; clear hb
    by_cases hlt : lo < hi
    · obtain ⟨b, off, hA, _⟩ := HT.out.block (by omega)
      subst hA
      obtain ⟨E, m, c, hx, _, _⟩ := HT.out.at (i := (lo + hi) / 2) (by have := HN.out; omega) HB.out
      have q := fun W => begin1_any (atR t ((lo + hi) / 2)) (.slice E m c) k W
      unfold rcV at q
      have Y : Hid (∀ v, ltB (atR t ((lo + hi) / 2)).key k = v → ltB (atR t ((lo + hi) / 2)).key k = v) := fun v h => h
      obtain ⟨x0, x1, x2, x3, x4, x5⟩ := hx
      cases hl : ltB (atR t ((lo + hi) / 2)).key k with
      | true =>
        have YY := Lib.hid (Y.out _ hl); clear Y
        have hc := cmp_lt hl
        rw [hc] at q
        clear hl hc
        have HS1 : Hid (∀ j, j < (lo + hi) / 2 + 1 → ltB (atR t j).key k = true) := fun j hj => S.out j _ (by omega) (by omega) YY.out
        clear YY
        generalize atR t ((lo + hi) / 2) = r at *
        go_wp2_with fail
        ((with_reducible refine (q _).mono ?_); rintro e W1 ⟨rfl, b1⟩)
        have HB1 := Lib.hid (bch HB.out b1); clear b1 x0 x1 x2 x3 x4 x5 q
        go_wp2_with fail
        go_roundg (hi - ((lo + hi) / 2 + 1))
        case measure => omega
        case rel => exact ⟨(lo + hi) / 2 + 1, hi, by rw [show ((lo : Int) + (hi : Int)) / 2 + 1 = (((lo + hi) / 2 + 1 : Nat) : Int) by omega], rfl, by omega, hin, Nat.le_refl _, HB1.out, HS1.out, I.out.2⟩
      | false =>
        have YY := Lib.hid (Y.out _ hl); clear Y
        have hc := cmp_ge hl
        clear hl
        have HS1 : Hid (∀ j, (lo + hi) / 2 ≤ j → j < n → ltB (atR t j).key k = false) := fun j hj hjn => by
          cases e : ltB (atR t j).key k with
          | false => rfl
          | true => have := S.out _ j hj hjn e; rw [YY.out] at this; cases this
        clear YY
        generalize cmpB (atR t ((lo + hi) / 2)).key k = z at *
        generalize atR t ((lo + hi) / 2) = r at *
        have hz : ¬ z < 0 := by omega
        clear hc
        go_wp2_with fail
        ((with_reducible refine (q _).mono ?_); rintro e W1 ⟨rfl, b1⟩)
        have HB1 := Lib.hid (bch HB.out b1); clear b1 x0 x1 x2 x3 x4 x5 q
        go_wp2_with fail
        go_roundg ((lo + hi) / 2 - lo)
        case measure => omega
        case rel => exact ⟨lo, (lo + hi) / 2, rfl, by rw [show ((lo : Int) + (hi : Int)) / 2 = (((lo + hi) / 2 : Nat) : Int) by omega], by omega, by omega, Nat.le_refl _, HB1.out, I.out.1, HS1.out⟩
    · have : hi = lo := by omega
      subst this
      clear hlh hlt hg
      by_cases hn2 : hi < n
      · obtain ⟨b, off, hA, _⟩ := HT.out.block (by omega)
        subst hA
        obtain ⟨E, m, c, hx, _, _⟩ := HT.out.at (i := hi) (by have := HN.out; omega) HB.out
        have q := fun W => begin1_any (atR t (hi)) (.slice E m c) k W
        unfold rcV at q
        have hnl : hi < t.length := by have := HN.out; omega
        obtain ⟨x0, x1, x2, x3, x4, x5⟩ := hx
        by_cases he : (atR t hi).key = k
        · have HP : Hid (PlaceT t k hi true) := ⟨by omega, I.out.1, fun j h1 h2 => I.out.2 j h1 (by have := HN.out; omega), (decide_eq_true ⟨hnl, he⟩).symm⟩
          rw [cmp_eq0.2 he] at q
          clear he hnl
          generalize atR t hi = r at *
          go_wp2_with fail
          ((with_reducible refine (q _).mono ?_); rintro e W1 ⟨rfl, b1⟩)
          have HB1 := Lib.hid (bch HB.out b1); clear b1 x0 x1 x2 x3 x4 x5 q
          go_wp2_with fail
          go_ret2
          exact ⟨⟨hi, true, HP.out, rfl⟩, by first | exact HB1.out | exact HB1.out.drew | exact bdn HB1.out _⟩
        · have HP : Hid (PlaceT t k hi false) := ⟨by omega, I.out.1, fun j h1 h2 => I.out.2 j h1 (by have := HN.out; omega), (decide_eq_false fun h => he h.2).symm⟩
          have hz : (cmpB (atR t hi).key k == 0) = false := by rw [beq_eq_false_iff_ne]; exact fun e => he (cmp_eq0.1 e)
          generalize cmpB (atR t hi).key k = z at *
          clear he hnl
          generalize atR t hi = r at *
          go_wp2_with fail
          ((with_reducible refine (q _).mono ?_); rintro e W1 ⟨rfl, b1⟩)
          have HB1 := Lib.hid (bch HB.out b1); clear b1 x0 x1 x2 x3 x4 x5 q
          go_wp2_with fail
          go_ret2
          exact ⟨⟨hi, false, HP.out, rfl⟩, by first | exact HB1.out | exact HB1.out.drew | exact bdn HB1.out _⟩
      · have HP : Hid (PlaceT t k hi false) := ⟨by have := HN.out; omega, I.out.1, fun j h1 h2 => I.out.2 j h1 (by have := HN.out; omega), (decide_eq_false fun h => hn2 (by have := HN.out; have := h.1; omega)).symm⟩
        go_wp2_with fail
        go_ret2
        exact ⟨⟨hi, false, HP.out, rfl⟩, by first | exact HB.out | exact HB.out.drew | exact bdn HB.out _⟩
/-- What a method works on, as a value, as cells. -/
def wkV (A : Option Addr) (n cap : Nat) (o : OpR) (p : Nat) (th : Bool) : Value := .agg #[.slice A n cap, .int .i64 o.kind, .string o.key, .string o.value, .int .i64 o.rev, .string o.upto, .int .i64 o.life, .string o.note, .int .i64 p, .bool th]
def WkBlk (W : World) (g : Nat) (A : Option Addr) (n cap : Nat) (o : OpR) (p : Nat) (th : Bool) : Prop := Blk W g (.cells #[.slice A n cap, .int .i64 o.kind, .string o.key, .string o.value, .int .i64 o.rev, .string o.upto, .int .i64 o.life, .string o.note, .int .i64 p, .bool th] 62 (0, 0))
theorem WkBlk.below {w w' : World} {g n cap p : Nat} {A : Option Addr} {o : OpR} {th : Bool} (h : WkBlk w g A n cap o p th) (hb : Below w.heap.size w w') : WkBlk w' g A n cap o p th := Blk.below h hb
theorem WkBlk.new (W : World) (A : Option Addr) (n cap : Nat) (o : OpR) (p : Nat) (th : Bool) : WkBlk (W.alloc (.cells #[.slice A n cap, .int .i64 o.kind, .string o.key, .string o.value, .int .i64 o.rev, .string o.upto, .int .i64 o.life, .string o.note, .int .i64 p, .bool th] 62)) W.heap.size A n cap o p th := Blk.new W _
theorem WkBlk.cells {W : World} {g n cap p : Nat} {A : Option Addr} {o : OpR} {th : Bool} (h : WkBlk W g A n cap o p th) :
    W.cell? ⟨g, 0, none⟩ = some (.slice A n cap) ∧ W.cell? ⟨g, 1, none⟩ = some (.int .i64 o.kind) ∧ W.cell? ⟨g, 2, none⟩ = some (.string o.key) ∧ W.cell? ⟨g, 3, none⟩ = some (.string o.value) ∧ W.cell? ⟨g, 4, none⟩ = some (.int .i64 o.rev) ∧ W.cell? ⟨g, 5, none⟩ = some (.string o.upto) ∧ W.cell? ⟨g, 6, none⟩ = some (.int .i64 o.life) ∧ W.cell? ⟨g, 7, none⟩ = some (.string o.note) ∧ W.cell? ⟨g, 8, none⟩ = some (.int .i64 p) ∧ W.cell? ⟨g, 9, none⟩ = some (.bool th) :=
  ⟨Blk.cell h 0, Blk.cell h 1, Blk.cell h 2, Blk.cell h 3, Blk.cell h 4, Blk.cell h 5, Blk.cell h 6, Blk.cell h 7, Blk.cell h 8, Blk.cell h 9⟩
theorem wk_put {W : World} {g : Nat} {a0 a1 a2 a3 a4 a5 a6 a7 a8 a9 : Value} {T : TypeId} (h : Blk W g (.cells #[a0, a1, a2, a3, a4, a5, a6, a7, a8, a9] T (0, 0))) (x0 x1 x2 x3 x4 x5 x6 x7 x8 x9 : Value) :
    Blk (((((((((((W).setCell ⟨g, 0, none⟩ x0).setCell ⟨g, 1, none⟩ x1).setCell ⟨g, 2, none⟩ x2).setCell ⟨g, 3, none⟩ x3).setCell ⟨g, 4, none⟩ x4).setCell ⟨g, 5, none⟩ x5).setCell ⟨g, 6, none⟩ x6).setCell ⟨g, 7, none⟩ x7).setCell ⟨g, 8, none⟩ x8).setCell ⟨g, 9, none⟩ x9) g (.cells #[x0, x1, x2, x3, x4, x5, x6, x7, x8, x9] T (0, 0)) := (Blk.set (Blk.set (Blk.set (Blk.set (Blk.set (Blk.set (Blk.set (Blk.set (Blk.set (Blk.set h 0 x0 #[x0, a1, a2, a3, a4, a5, a6, a7, a8, a9] rfl) 1 x1 #[x0, x1, a2, a3, a4, a5, a6, a7, a8, a9] rfl) 2 x2 #[x0, x1, x2, a3, a4, a5, a6, a7, a8, a9] rfl) 3 x3 #[x0, x1, x2, x3, a4, a5, a6, a7, a8, a9] rfl) 4 x4 #[x0, x1, x2, x3, x4, a5, a6, a7, a8, a9] rfl) 5 x5 #[x0, x1, x2, x3, x4, x5, a6, a7, a8, a9] rfl) 6 x6 #[x0, x1, x2, x3, x4, x5, x6, a7, a8, a9] rfl) 7 x7 #[x0, x1, x2, x3, x4, x5, x6, x7, a8, a9] rfl) 8 x8 #[x0, x1, x2, x3, x4, x5, x6, x7, x8, a9] rfl) 9 x9 #[x0, x1, x2, x3, x4, x5, x6, x7, x8, x9] rfl)
/-- What begin leaves. -/
def BegPost (w : World) (A : Option Addr) (n cap : Nat) (t : List Rcd) (o : OpR) (e : Ending) (w' : World) : Prop :=
  (∃ (p : Nat) (th : Bool), PlaceT t o.key p th ∧ e = .returned (wkV A n cap o p th)) ∧ Below w.heap.size w w'
set_option maxRecDepth 100000 in
set_option maxHeartbeats 8000000 in
theorem begin_any (t : List Rcd) (o : OpR) (A : Option Addr) (n cap : Nat) (w : World) (h : IsTs w A n t) (hr : Rise t) (h20 : n ≤ 20) :
    Calls Try.prog 30 #[.slice A n cap, opV o] w (BegPost w A n cap t o) := by
  have hb1 : Below w.heap.size w (w.alloc (.cells #[.int .i64 o.kind, .string o.key, .string o.value, .int .i64 o.rev, .string o.upto, .int .i64 o.life, .string o.note] 26)) := (Below.refl _ _).alloc (Nat.le_refl _) _
  have hb2 : Below w.heap.size w ((w.alloc (.cells #[.int .i64 o.kind, .string o.key, .string o.value, .int .i64 o.rev, .string o.upto, .int .i64 o.life, .string o.note] 26)).alloc (.cells #[.slice none 0 0, .int .i64 0, .string ⟨#[]⟩, .string ⟨#[]⟩, .int .i64 0, .string ⟨#[]⟩, .int .i64 0, .string ⟨#[]⟩, .int .i64 0, .bool false] 62)) := hb1.alloc (by simp) _
  have hob : OpBlk ((w.alloc (.cells #[.int .i64 o.kind, .string o.key, .string o.value, .int .i64 o.rev, .string o.upto, .int .i64 o.life, .string o.note] 26)).alloc (.cells #[.slice none 0 0, .int .i64 0, .string ⟨#[]⟩, .string ⟨#[]⟩, .int .i64 0, .string ⟨#[]⟩, .int .i64 0, .string ⟨#[]⟩, .int .i64 0, .bool false] 62)) w.heap.size o := (OpBlk.new w o).below ((Below.refl _ _).alloc (Nat.le_refl _) _)
  have hzb : Blk ((w.alloc (.cells #[.int .i64 o.kind, .string o.key, .string o.value, .int .i64 o.rev, .string o.upto, .int .i64 o.life, .string o.note] 26)).alloc (.cells #[.slice none 0 0, .int .i64 0, .string ⟨#[]⟩, .string ⟨#[]⟩, .int .i64 0, .string ⟨#[]⟩, .int .i64 0, .string ⟨#[]⟩, .int .i64 0, .bool false] 62)) (w.heap.size + 1) (.cells #[.slice none 0 0, .int .i64 0, .string ⟨#[]⟩, .string ⟨#[]⟩, .int .i64 0, .string ⟨#[]⟩, .int .i64 0, .string ⟨#[]⟩, .int .i64 0, .bool false] 62 (0, 0)) := by have h := Blk.new (w.alloc (.cells #[.int .i64 o.kind, .string o.key, .string o.value, .int .i64 o.rev, .string o.upto, .int .i64 o.life, .string o.note] 26)) (.cells #[.slice none 0 0, .int .i64 0, .string ⟨#[]⟩, .string ⟨#[]⟩, .int .i64 0, .string ⟨#[]⟩, .int .i64 0, .string ⟨#[]⟩, .int .i64 0, .bool false] 62); rw [World.size_alloc] at h; exact h
  obtain ⟨W0, hW0⟩ : ∃ W, (w.alloc (.cells #[.int .i64 o.kind, .string o.key, .string o.value, .int .i64 o.rev, .string o.upto, .int .i64 o.life, .string o.note] 26)).alloc (.cells #[.slice none 0 0, .int .i64 0, .string ⟨#[]⟩, .string ⟨#[]⟩, .int .i64 0, .string ⟨#[]⟩, .int .i64 0, .string ⟨#[]⟩, .int .i64 0, .bool false] 62) = W := ⟨_, rfl⟩
  rw [hW0] at hb2 hob hzb
  have q := search12_any A n cap t o.key W0 (h.below hb2) hr h20
  have HOB := Lib.hid hob; clear hob
  have HZB := Lib.hid hzb; clear hzb hb1
  have HB := Lib.hid hb2; clear hb2 h hr h20
  obtain ⟨c0, c1, c2, c3, c4, c5, c6⟩ := HOB.out.cells
  have hgz : w.heap.size + 1 < W0.heap.size := Blk.lt HZB.out
  have HGZ := Lib.hid hgz; clear hgz
  unfold opV
  go_enter Try.func30, Try.ntmps30
  go_wp2_with fail
  ((with_reducible refine q.mono ?_); rintro e W1 ⟨⟨p, th, hp, rfl⟩, b1⟩)
  have hob1 := HOB.out.below b1
  have hzb1 := Blk.below HZB.out b1
  have HB1 := Lib.hid (bch HB.out b1)
  have HP := Lib.hid hp; clear hp
  clear q b1 c0 c1 c2 c3 c4 c5 c6 HOB HZB
  obtain ⟨c0, c1, c2, c3, c4, c5, c6⟩ := hob1.cells
  have z0 := Blk.cell hzb1 0
  have z1 := Blk.cell hzb1 1
  have z2 := Blk.cell hzb1 2
  have z3 := Blk.cell hzb1 3
  have z4 := Blk.cell hzb1 4
  have z5 := Blk.cell hzb1 5
  have z6 := Blk.cell hzb1 6
  have z7 := Blk.cell hzb1 7
  have z8 := Blk.cell hzb1 8
  have z9 := Blk.cell hzb1 9
  simp only [List.getElem?_toArray, List.getElem?_cons_zero, List.getElem?_cons_succ] at z0 z1 z2 z3 z4 z5 z6 z7 z8 z9
  have f0 := Blk.frozen hzb1 0
  have f1 := Blk.frozen hzb1 1
  have f2 := Blk.frozen hzb1 2
  have f3 := Blk.frozen hzb1 3
  have f4 := Blk.frozen hzb1 4
  have f5 := Blk.frozen hzb1 5
  have f6 := Blk.frozen hzb1 6
  have f7 := Blk.frozen hzb1 7
  have f8 := Blk.frozen hzb1 8
  have f9 := Blk.frozen hzb1 9
  have hfin := wk_put hzb1 (.slice A n cap) (.int .i64 o.kind) (.string o.key) (.string o.value) (.int .i64 o.rev) (.string o.upto) (.int .i64 o.life) (.string o.note) (.int .i64 p) (.bool th)
  have e0 := Blk.cell hfin 0
  have e1 := Blk.cell hfin 1
  have e2 := Blk.cell hfin 2
  have e3 := Blk.cell hfin 3
  have e4 := Blk.cell hfin 4
  have e5 := Blk.cell hfin 5
  have e6 := Blk.cell hfin 6
  have e7 := Blk.cell hfin 7
  have e8 := Blk.cell hfin 8
  have e9 := Blk.cell hfin 9
  simp only [List.getElem?_toArray, List.getElem?_cons_zero, List.getElem?_cons_succ] at e0 e1 e2 e3 e4 e5 e6 e7 e8 e9
  have HBF : Hid (Below w.heap.size w (((((((((((W1).setCell ⟨(w.heap.size + 1), 0, none⟩ (.slice A n cap)).setCell ⟨(w.heap.size + 1), 1, none⟩ (.int .i64 o.kind)).setCell ⟨(w.heap.size + 1), 2, none⟩ (.string o.key)).setCell ⟨(w.heap.size + 1), 3, none⟩ (.string o.value)).setCell ⟨(w.heap.size + 1), 4, none⟩ (.int .i64 o.rev)).setCell ⟨(w.heap.size + 1), 5, none⟩ (.string o.upto)).setCell ⟨(w.heap.size + 1), 6, none⟩ (.int .i64 o.life)).setCell ⟨(w.heap.size + 1), 7, none⟩ (.string o.note)).setCell ⟨(w.heap.size + 1), 8, none⟩ (.int .i64 p)).setCell ⟨(w.heap.size + 1), 9, none⟩ (.bool th))) := ((((((((((HB1.out.setCell (p := ⟨w.heap.size + 1, 0, none⟩) (Nat.le_succ _) (.slice A n cap)).setCell (p := ⟨w.heap.size + 1, 1, none⟩) (Nat.le_succ _) (.int .i64 o.kind)).setCell (p := ⟨w.heap.size + 1, 2, none⟩) (Nat.le_succ _) (.string o.key)).setCell (p := ⟨w.heap.size + 1, 3, none⟩) (Nat.le_succ _) (.string o.value)).setCell (p := ⟨w.heap.size + 1, 4, none⟩) (Nat.le_succ _) (.int .i64 o.rev)).setCell (p := ⟨w.heap.size + 1, 5, none⟩) (Nat.le_succ _) (.string o.upto)).setCell (p := ⟨w.heap.size + 1, 6, none⟩) (Nat.le_succ _) (.int .i64 o.life)).setCell (p := ⟨w.heap.size + 1, 7, none⟩) (Nat.le_succ _) (.string o.note)).setCell (p := ⟨w.heap.size + 1, 8, none⟩) (Nat.le_succ _) (.int .i64 p)).setCell (p := ⟨w.heap.size + 1, 9, none⟩) (Nat.le_succ _) (.bool th))
  clear hfin
  have HZ1 := Lib.hid hzb1; clear hzb1 hob1
  go_wp2_with fail
  refine bodyPost_ret (v := wkV A n cap o p th) (by simp [wkV, results, Try.results30, go_sem, e0, e1, e2, e3, e4, e5, e6, e7, e8, e9]) rfl ⟨⟨p, th, HP.out, rfl⟩, HBF.out⟩
end Go.Proofs.Ytpnkkiokkhmjpaa


/-
  The contracts of slices.Clone of records and of fields, and of the program's own copied (stage 12).
-/
namespace Go.Proofs.Ytpnkkiokkhmjpaa
open Go.RowKit
set_option linter.unusedVariables false
set_option linter.unusedSimpArgs false

/-- Records that lie anywhere, with what each carries. -/
def Ex0 (w : World) (l : List (Rcd × Value)) : Prop := ∀ p ∈ l, RcW p.1 ∧ ∃ E m c, p.2 = .slice E m c ∧ m ≤ c ∧ IsFs w E m p.1.extra
theorem Ex0.sl {w : World} {l : List (Rcd × Value)} (h : Ex0 w l) : SlP l := fun p hp => by
  obtain ⟨_, E, m, c, e, _⟩ := h p hp
  exact ⟨E, m, c, e⟩
theorem IsTs.pairs {w : World} {A : Option Addr} {n : Nat} {t : List Rcd} (h : IsTs w A n t) : ∃ l : List (Rcd × Value), l.map Prod.fst = t ∧ IsPs w A n l ∧ Ex0 w l := by
  obtain ⟨hn, hm, hw, hc⟩ := h
  rcases Nat.eq_zero_or_pos n with h0 | hp
  · have ht : t = [] := List.eq_nil_of_length_eq_zero (by omega)
    subst ht
    exact ⟨[], rfl, ⟨by simpa using h0, hm, fun h => by omega⟩, fun p hp => nomatch hp⟩
  · obtain ⟨b, off, hA, hb, hat⟩ := hc hp
    have hch : ∀ i : Nat, ∃ x : Value, i < t.length → ∃ E m c, x = .slice E m c ∧ RcAt w b (off + i * 6) (atR t i) x ∧ m ≤ c ∧ IsFs w E m (atR t i).extra := fun i => by
      by_cases hi : i < t.length
      · obtain ⟨E, m, c, h1, h2, h3⟩ := hat i hi
        exact ⟨_, fun _ => ⟨E, m, c, rfl, h1, h2, h3⟩⟩
      · exact ⟨undef, fun h => absurd h hi⟩
    obtain ⟨f, hf⟩ := Classical.axiomOfChoice hch
    have hlen : ((List.range t.length).map fun i => (atR t i, f i)).length = t.length := by simp
    have hat2 : ∀ i, i < t.length → atP ((List.range t.length).map fun i => (atR t i, f i)) i = (atR t i, f i) := fun i hi => by
      rw [atP_get (by rw [hlen]; exact hi)]; simp
    refine ⟨(List.range t.length).map fun i => (atR t i, f i), ?_, ⟨by rw [hlen, hn], hm, fun _ => ⟨b, off, hA, hb, fun i hi => ?_⟩⟩, fun p hp => ?_⟩
    · refine List.ext_getElem (by simp) fun i h1 h2 => ?_
      simp only [List.getElem_map, List.getElem_range]
      exact atR_get h2
    · rw [hlen] at hi
      rw [hat2 i hi]
      obtain ⟨E, m, c, _, h1, _⟩ := hf i hi
      exact h1
    · obtain ⟨i, hi, rfl⟩ := List.mem_map.1 hp
      have hi2 : i < t.length := by simpa using hi
      obtain ⟨E, m, c, e, _, h2, h3⟩ := hf i hi2
      exact ⟨hw _ (atR_mem hi2), E, m, c, e, h2, h3⟩
set_option maxRecDepth 100000 in
set_option maxHeartbeats 8000000 in
theorem cloneT_any (A : Option Addr) (n cap : Nat) (l : List (Rcd × Value)) (w : World) (h : IsPs w A n l) (hs : SlP l) (h20 : n ≤ 1000) :
    Calls Try.prog 76 #[.slice A n cap] w fun e w' => ∃ v, e = .returned v ∧ RowT w' w.heap.size v l ∧ Below w.heap.size w w' := by
  have q22 : ∀ (w : World) (a : Option Addr) (n c n' c' : Nat), (binOp .eql 23 (.slice a n c) (.slice none n' c')).run Try.prog w = .ok (.bool a.isNone) w := fun w a n c n' c' => Lib.run_eql_slice_nil w _ _ a n c n' c' Try.underlying23
  have HN := Lib.hid h.1
  have HPS := Lib.hid h; clear h
  have HSL := Lib.hid hs; clear hs
  go_enter Try.func76, Try.ntmps76
  cases A with
  | none =>
    have hn0 : n = 0 := by
      rcases Nat.eq_zero_or_pos n with h | h
      · exact h
      · obtain ⟨b, off, e, _⟩ := HPS.out.2.2 h; cases e
    have hl : l = [] := List.eq_nil_of_length_eq_zero (by rw [← HN.out, hn0])
    subst hl
    clear hn0
    go_wp2_with fail
    go_ret
    exact ⟨_, rfl, rowT_nil _ _, Below.refl _ _⟩
  | some a =>
    go_wp2_with (at_builtin; refine wpList_append_tab rfl _ _ rfl w.heap.size _ [] rfl (World.ownsRow_made w #[] 0 (Nat.le_refl _) (Nat.zero_le _) rfl) (some a) n cap l rfl (HPS.out.below ((Below.refl _ w).alloc (Nat.le_refl _) _)) HSL.out (by simp; omega) (by simp) ?_)
    intro v1 w1 hrow hgrow
    have hb : Below w.heap.size w w1 := ((Below.refl _ w).alloc (Nat.le_refl _) _).grown hgrow (by simp) (by intro k hk; simp [Value.ownBlock] at hk; omega)
    have HR : Hid (RowT w1 w.heap.size v1 l) := hrow
    clear hrow hgrow
    go_wp2_with fail
    go_ret
    exact ⟨_, rfl, HR.out, hb⟩
/-- What a clone of fields leaves. -/
def CloF (w : World) (fs : List Fld) (e : Ending) (w' : World) : Prop :=
  ∃ E m c, e = .returned (.slice E m c) ∧ m ≤ c ∧ IsFs w' E m fs ∧ FldT w' E m ∧ Below w.heap.size w w'
set_option maxRecDepth 100000 in
set_option maxHeartbeats 8000000 in
theorem cloneF_any (A : Option Addr) (n cap : Nat) (fs : List Fld) (w : World) (h : IsFs w A n fs) (h24 : n * 24 ≤ 140737488351232) :
    Calls Try.prog 77 #[.slice A n cap] w (CloF w fs) := by
  have q22 : ∀ (w : World) (a : Option Addr) (n c n' c' : Nat), (binOp .eql 45 (.slice a n c) (.slice none n' c')).run Try.prog w = .ok (.bool a.isNone) w := fun w a n c n' c' => Lib.run_eql_slice_nil w _ _ a n c n' c' Try.underlying45
  have HN := Lib.hid h.1
  have HFS := Lib.hid h; clear h
  have H24 := Lib.hid h24; clear h24
  go_enter Try.func77, Try.ntmps77
  cases A with
  | none =>
    have hn0 : n = 0 := by
      rcases Nat.eq_zero_or_pos n with h | h
      · exact h
      · obtain ⟨b, off, e, _⟩ := HFS.out.2.2.2 h; cases e
    have hl : fs = [] := List.eq_nil_of_length_eq_zero (by rw [← HN.out, hn0])
    subst hl
    clear hn0
    go_wp2_with fail
    go_ret
    exact ⟨none, 0, 0, rfl, Nat.le_refl _, isFs_nil _ _, fun h => by omega, Below.refl _ _⟩
  | some a =>
    go_wp2_with (at_builtin; refine wpList_append_fsB rfl _ _ rfl w.heap.size _ [] rfl (World.ownsRow_made w #[] 0 (Nat.le_refl _) (Nat.zero_le _) rfl) (some a) n cap fs rfl (HFS.out.below ((Below.refl _ w).alloc (Nat.le_refl _) _)) (by have := H24.out; simp; omega) (by simp) ?_)
    intro v1 w1 hrow hgrow
    obtain ⟨A2, cap2, hv2, hcap2, hfs2⟩ := isFs_own hrow HFS.out.2.2.1
    subst hv2
    have hft2 := own_fldT hrow
    have hb : Below w.heap.size w w1 := ((Below.refl _ w).alloc (Nat.le_refl _) _).grown hgrow (by simp) (by intro k hk; simp [Value.ownBlock] at hk; omega)
    have HR : Hid (CloF w fs (.returned (.slice A2 fs.length cap2)) w1) := ⟨A2, _, cap2, rfl, hcap2, hfs2, hft2, hb⟩
    clear hrow hgrow hft2 hfs2 hb
    go_wp2_with fail
    go_ret
    exact HR.out
set_option maxRecDepth 100000 in
set_option maxHeartbeats 8000000 in
theorem copied_any (t : List Rcd) (A : Option Addr) (n cap : Nat) (w : World) (h : IsTs w A n t) (h20 : n ≤ 1000) :
    Calls Try.prog 65 #[.slice A n cap] w (OwnT w t) := by
  obtain ⟨l, hlm, hps, hex⟩ := h.pairs
  have HN : Hid (n = l.length) := hps.1
  have q := cloneT_any A n cap l w hps hex.sl h20
  have HLM := Lib.hid hlm; clear hlm hps h
  have HE0 := Lib.hid hex; clear hex
  go_enter Try.func65, Try.ntmps65
  go_wp2_with fail
  ((with_reducible refine q.mono ?_); rintro e W1 ⟨v, rfl, hrow, b1⟩)
  clear q
  obtain ⟨A1, cap1, hv, hc1, _⟩ := hrow.parts
  rw [← HN.out] at hv
  subst hv
  have HR1 := Lib.hid hrow; clear hrow
  have HB1 := Lib.hid b1; clear b1
  go_wp2_with fail
  go_loopw [9] (fun i wy => ∃ (k : Nat) (wr : World) (lk : List (Rcd × Value)), wr = wy ∧ k ≤ n ∧ i = .int .i64 k ∧ RowT wr w.heap.size (.slice A1 n cap1) lk ∧ lk.map Prod.fst = l.map Prod.fst ∧ (∀ j, j < k → ExAt wr (atP lk j)) ∧ (∀ j, k ≤ j → atP lk j = atP l j) ∧ Below w.heap.size w wr) (fun i _ => n - (intOf i).toNat)
  case atStart => exact ⟨0, _, l, rfl, by omega, rfl, HR1.out, rfl, (fun j hj => by omega), (fun j hj => rfl), HB1.out⟩
  case round =>
    clear HR1 HB1
    obtain ⟨k, wr, lk, rfl, hk, rfl, hrow, hmap, hdone, hrest, hb⟩ := hrel
    have HROW := Lib.hid hrow; clear hrow
    have HMAP := Lib.hid hmap; clear hmap
    have HDONE := Lib.hid hdone; clear hdone
    have HREST := Lib.hid hrest; clear hrest
    have HB := Lib.hid hb; clear hb
    have HLK : Hid (lk.length = n) := by have := congrArg List.length HMAP.out; simp only [List.length_map] at this; show _ = _; have := HN.out; omega
    by_cases hlt : k < n
    · have hki : (k : Int) < (n : Int) := by omega
      have hk0 : (0 : Int) ≤ (k : Int) := by omega
      have HKL : Hid (k < lk.length) := by have := HLK.out; show k < _; omega
      have HKO : Hid (k < l.length) := by have := HN.out; show k < _; omega
      obtain ⟨g, hA, hbg⟩ := HROW.out.at0 HKL.out
      subst hA
      obtain ⟨hrw, E, m, c, he, hmc, hfs⟩ := HE0.out _ (atP_mem HKO.out)
      have hx := HROW.out.six HKL.out
      rw [HREST.out k (Nat.le_refl _), he] at hx
      obtain ⟨x0, x1, x2, x3, x4, x5⟩ := hx
      have HRW := Lib.hid hrw; clear hrw
      have HKK : Hid ((atP lk k).1 = (atP l k).1) := by show _ = _; rw [HREST.out k (Nat.le_refl _)]
      have q := cloneF_any E m c (atP l k).1.extra wr (hfs.below HB.out) (by have h1 := HRW.out.2.2.2; have h2 := hfs.1; omega)
      have HQE : Hid (∀ E2 m2 c2 (W : World), m2 ≤ c2 → IsFs W E2 m2 (atP l k).1.extra → FldT W E2 m2 → ExAt W ((atP l k).1, .slice E2 m2 c2)) := fun E2 m2 c2 W h1 h2 h3 => ⟨E2, m2, c2, rfl, h1, h2, h3⟩
      clear hfs he
      have hf5 : wr.frozen? ⟨g, k * 6 + 5, none⟩ = false := HROW.out.frozen
      have HRS : Hid (∀ (W : World) (u : Value), RowT W w.heap.size (.slice (some ⟨g, 0, none⟩) n cap1) lk → RowT (W.setCell ⟨g, k * 6 + 5, none⟩ u) w.heap.size (.slice (some ⟨g, 0, none⟩) n cap1) (lk.set k ((atP l k).1, u))) := fun W u h => (RowT.set h k 5 u ((atP l k).1, u) HKL.out (by omega) (by rw [← HKK.out]; rfl)).1
      have HBLK : Hid (∀ (W : World), RowT W w.heap.size (.slice (some ⟨g, 0, none⟩) n cap1) lk → ∃ cs fr, W.heap[g]? = some (.cells cs 47 fr)) := fun W h => h.block g (by simp [Value.ownBlock])
      have HM2 : Hid (∀ u, (lk.set k ((atP l k).1, u)).map Prod.fst = l.map Prod.fst) := fun u => by
        rw [map_setP, HMAP.out]
        refine List.ext_getElem (by simp) fun i h1 h2 => ?_
        rw [List.getElem_set]
        split
        · rename_i e; subst e; rw [List.getElem_map, atP_get HKO.out]
        · rfl
      have hlt6 : g < wr.heap.size := by obtain ⟨cs, fr, h2⟩ := HBLK.out wr HROW.out; exact lt_of_blk h2
      generalize (atP l k).1 = r at *
      go_wp2_with fail
      ((with_reducible refine q.mono ?_); rintro e W2 ⟨E2, m2, c2, rfl, hmc2, hfs2, hft2, b2⟩)
      clear q
      have y5 := (b2.cell (p := ⟨g, k * 6 + 5, none⟩) hlt6).trans x5
      have g5 := (b2.frozen (p := ⟨g, k * 6 + 5, none⟩) hlt6).trans hf5
      have hrow2 := HROW.out.below b2
      have HR3 := Lib.hid (HRS.out W2 (.slice E2 m2 c2) hrow2)
      obtain ⟨cs2, fr2, hblk2⟩ := HBLK.out W2 hrow2
      have hkeep := gb_set W2 g (k * 6 + 5) (.slice E2 m2 c2)
      have HX3 : Hid (ExAt (W2.setCell ⟨g, k * 6 + 5, none⟩ (.slice E2 m2 c2)) (r, .slice E2 m2 c2)) := (HQE.out E2 m2 c2 W2 hmc2 hfs2 hft2).kept hkeep (fun q hq => by cases hq; exact ⟨_, _, hblk2⟩)
      have HD3 : Hid (∀ j, j < k → ExAt (W2.setCell ⟨g, k * 6 + 5, none⟩ (.slice E2 m2 c2)) (atP lk j)) := fun j hj => ((HDONE.out j hj).below b2).kept hkeep (fun q hq => by cases hq; exact ⟨_, _, hblk2⟩)
      have HB3 : Hid (Below w.heap.size w (W2.setCell ⟨g, k * 6 + 5, none⟩ (.slice E2 m2 c2))) := (bch HB.out b2).setCell (p := ⟨g, k * 6 + 5, none⟩) hbg _
      clear x0 x1 x2 x3 x4 x5 hf5 hrow2 hblk2 hkeep hfs2 hft2 hmc2 b2 hlt6
      go_wp2_with fail
      go_roundw
      case rel =>
        refine ⟨k + 1, _, lk.set k (r, .slice E2 m2 c2), rfl, by omega, by go_num, HR3.out, HM2.out _, fun j hj => ?_, fun j hj => ?_, HB3.out⟩
        · rcases (by omega : j < k ∨ j = k) with h | rfl
          · have : atP (lk.set k (r, .slice E2 m2 c2)) j = atP lk j := by
              have h1 := HLK.out
              rw [atP_get (by rw [List.length_set]; omega), List.getElem_set_ne (by omega), atP_get (by omega)]
            rw [this]; exact HD3.out j h
          · rw [atP_set HKL.out]; exact HX3.out
        · have : atP (lk.set k (r, .slice E2 m2 c2)) j = atP lk j := by
            unfold atP
            rw [List.getD_eq_getElem?_getD, List.getD_eq_getElem?_getD, List.getElem?_set_ne (by omega)]
          rw [this]; exact HREST.out j (by omega)
      case measure => simp [intOf]; omega
    · have hke : k = n := by omega
      subst hke
      have HXF : Hid (ExT wr lk) := fun p hp => by
        obtain ⟨j, hj, rfl⟩ := List.getElem_of_mem hp
        have h1 := HDONE.out j (by have := HLK.out; omega)
        rw [atP_get hj] at h1
        refine ⟨?_, h1⟩
        have hj2 : j < l.length := by have := HLK.out; have := HN.out; omega
        have h2 := (HE0.out _ (atP_mem hj2)).1
        have h3 : (atP l j).1 = (atP lk j).1 := by
          rw [atP_map l hj2, atP_map lk hj, HMAP.out]
        rw [h3, atP_get hj] at h2
        exact h2
      have HMF : Hid (lk.map Prod.fst = t) := HMAP.out.trans HLM.out
      clear hlt
      go_wp2_with fail
      go_ret
      exact ⟨_, lk, rfl, HROW.out, HMF.out, HXF.out, HB.out⟩
end Go.Proofs.Ytpnkkiokkhmjpaa


/-
  The contracts of slices.Insert and slices.Delete of records in a row of the call's own (stage 12).
-/
namespace Go.Proofs.Ytpnkkiokkhmjpaa
open Go.RowKit
set_option linter.unusedVariables false
set_option linter.unusedSimpArgs false

/-- Cells of a block set one by one. -/
def setsA : Array Value → Nat → List Value → Array Value
  | cur, _, [] => cur
  | cur, o, v :: r => setsA (cur.setIfInBounds o v) (o + 1) r
theorem blk_sets {g : Nat} {T : TypeId} : ∀ (vs : List Value) (o : Nat) (cur : Array Value) (W : World), Blk W g (.cells cur T (0, 0)) → Blk (W.setCells g o vs) g (.cells (setsA cur o vs) T (0, 0))
  | [], _, _, _, h => h
  | v :: r, o, cur, W, h => blk_sets r (o + 1) _ _ (Blk.set h o v _ rfl)
theorem setsA_size : ∀ (vs : List Value) (o : Nat) (cur : Array Value), (setsA cur o vs).size = cur.size
  | [], _, _ => rfl
  | v :: r, o, cur => by rw [setsA, setsA_size r]; simp
theorem setsA_list : ∀ (vs : List Value) (o : Nat) (cur : Array Value), o + vs.length ≤ cur.size → (setsA cur o vs).toList = cur.toList.take o ++ (vs ++ cur.toList.drop (o + vs.length))
  | [], o, cur, _ => by simp [setsA]
  | v :: r, o, cur, h => by
    rw [List.length_cons] at h
    have ho : o < cur.toList.length := by simp; omega
    rw [setsA, setsA_list r (o + 1) _ (by simp; omega), Array.toList_setIfInBounds, List.set_eq_take_append_cons_drop, if_pos ho]
    have hl : (cur.toList.take o).length = o := by rw [List.length_take]; omega
    have e1 : (cur.toList.take o ++ v :: cur.toList.drop (o + 1)).take (o + 1) = cur.toList.take o ++ [v] := by
      rw [List.take_append, hl, List.take_of_length_le (by rw [hl]; omega), show o + 1 - o = 1 by omega]
      rfl
    have e2 : (cur.toList.take o ++ v :: cur.toList.drop (o + 1)).drop (o + 1 + r.length) = cur.toList.drop (o + (v :: r).length) := by
      rw [List.drop_append, hl, List.drop_of_length_le (by rw [hl]; omega), show o + 1 + r.length - o = r.length + 1 by omega, List.nil_append, List.drop_succ_cons, List.drop_drop, List.length_cons, show o + 1 + r.length = o + (r.length + 1) by omega]
    rw [e1, e2, List.append_assoc]
    rfl
theorem gb_sets (g : Nat) : ∀ (vs : List Value) (o : Nat) (w : World), w.grownBy (w.setCells g o vs) (some g)
  | [], _, w => ⟨rfl, rfl, rfl, Nat.le_refl _, fun _ _ _ => rfl⟩
  | v :: r, o, w => (gb_set w g o v).trans (gb_sets g r (o + 1) _)
theorem gb_drew (w : World) (row : Option Nat) : w.grownBy w.drew row := ⟨rfl, rfl, rfl, Nat.le_refl _, fun _ _ _ => rfl⟩
theorem sets_drew (b : Nat) : ∀ (vs : List Value) (o : Nat) (w : World), w.drew.setCells b o vs = (w.setCells b o vs).drew
  | [], _, _ => rfl
  | v :: r, o, w => sets_drew b r (o + 1) (w.setCell ⟨b, o, none⟩ v)
theorem cells6_len (p : Rcd × Value) : (cells6 p).length = 6 := rfl
theorem take_cells {l : List (Rcd × Value)} {i : Nat} (hi : i ≤ l.length) : (cellsT l).take (i * 6) = cellsT (l.take i) := by
  have hl : (l.take i).length = i := by rw [List.length_take]; omega
  have e : cellsT l = cellsT (l.take i) ++ cellsT (l.drop i) := by rw [← cellsT_append, List.take_append_drop]
  rw [e, List.take_left' (by rw [cellsT_len, hl])]
theorem drop_cells {l : List (Rcd × Value)} {i : Nat} (hi : i ≤ l.length) : (cellsT l).drop (i * 6) = cellsT (l.drop i) := by
  have hl : (l.take i).length = i := by rw [List.length_take]; omega
  have e : cellsT l = cellsT (l.take i) ++ cellsT (l.drop i) := by rw [← cellsT_append, List.take_append_drop]
  rw [e, List.drop_left' (by rw [cellsT_len, hl])]
/-- A block that holds so many records, as a row. -/
theorem rowT_blk {W : World} {base g cap n : Nat} {cur : Array Value} {l : List (Rcd × Value)} (hb : base ≤ g) (hk : Blk W g (.cells cur 47 (0, 0))) (hs : cur.size = cap * 6) (hc : cap ≤ maxLen) (hl : l.length = n) (hn : n ≤ cap) (ht : cur.toList.take (n * 6) = cellsT l) : RowT W base (.slice (some ⟨g, 0, none⟩) n cap) l :=
  ⟨by rw [cellsT_len], .inr ⟨g, cap, cur, by rw [hl], hb, hk, by rw [hl]; exact hn, hc, hs, by rw [hl]; exact ht⟩⟩
theorem RowT.blk {W : World} {base g cap n : Nat} {l : List (Rcd × Value)} (h : RowT W base (.slice (some ⟨g, 0, none⟩) n cap) l) : ∃ cur, base ≤ g ∧ Blk W g (.cells cur 47 (0, 0)) ∧ cur.size = cap * 6 ∧ cap ≤ maxLen ∧ n = l.length ∧ n ≤ cap ∧ cur.toList.take (n * 6) = cellsT l := by
  rcases h.2 with ⟨h1, _⟩ | ⟨g2, cap2, cur, h1, hb, hh, hnc, hcm, hcs, htk⟩
  · simp at h1
  · simp only [Value.slice.injEq, Option.some.injEq, Addr.mk.injEq, and_true] at h1
    obtain ⟨rfl, rfl, rfl⟩ := h1
    exact ⟨cur, hb, hh, hcs, hcm, rfl, hnc, htk⟩
theorem ins_len6 {l : List (Rcd × Value)} {q : Rcd × Value} {i : Nat} (hi : i ≤ l.length) : (l.take i ++ q :: l.drop i).length = l.length + 1 := by
  rw [List.length_append, List.length_cons, List.length_take, List.length_drop]; omega
theorem ins_cells {l : List (Rcd × Value)} {q : Rcd × Value} {i : Nat} : cellsT (l.take i ++ q :: l.drop i) = cellsT (l.take i) ++ (cells6 q ++ cellsT (l.drop i)) := by rw [cellsT_append, cellsT_cons]
/-- What the two writes of an insertion leave, in either order. -/
theorem rowT_shift {W : World} {base g cap i : Nat} {cur : Array Value} {l : List (Rcd × Value)} {q : Rcd × Value} (hb : base ≤ g) (hk : Blk W g (.cells cur 47 (0, 0))) (hs : cur.size = cap * 6) (hc : cap ≤ maxLen) (hn : l.length + 1 ≤ cap) (hi : i ≤ l.length) (ht : cur.toList.take (i * 6) = cellsT (l.take i)) :
    RowT ((W.setCells g ((i + 1) * 6) (cellsT (l.drop i))).setCells g (i * 6) (cells6 q)) base (.slice (some ⟨g, 0, none⟩) (l.length + 1) cap) (l.take i ++ q :: l.drop i) := by
  have hd : (cellsT (l.drop i)).length = (l.length - i) * 6 := by rw [cellsT_len, List.length_drop]
  have hcl : cur.toList.length = cap * 6 := by simp [hs]
  have hT : (cellsT (l.take i)).length = i * 6 := by rw [cellsT_len, List.length_take]; omega
  refine rowT_blk hb (blk_sets _ _ _ _ (blk_sets _ _ _ _ hk)) (by rw [setsA_size, setsA_size]; exact hs) hc (ins_len6 hi) hn ?_
  rw [setsA_list _ _ _ (by rw [setsA_size, cells6_len]; omega), setsA_list _ _ _ (by rw [hd]; omega), ins_cells]
  have e1 : (cur.toList.take ((i + 1) * 6) ++ (cellsT (l.drop i) ++ cur.toList.drop ((i + 1) * 6 + (cellsT (l.drop i)).length))).take (i * 6) = cellsT (l.take i) := by
    rw [List.take_append_of_le_length (by rw [List.length_take]; omega), List.take_take, Nat.min_eq_left (by omega)]; exact ht
  have e2 : (cur.toList.take ((i + 1) * 6) ++ (cellsT (l.drop i) ++ cur.toList.drop ((i + 1) * 6 + (cellsT (l.drop i)).length))).drop (i * 6 + (cells6 q).length) = cellsT (l.drop i) ++ cur.toList.drop ((i + 1) * 6 + (cellsT (l.drop i)).length) := by
    rw [List.drop_left' (by rw [List.length_take, cells6_len]; omega)]
  rw [e1, e2, ← List.append_assoc, ← List.append_assoc, List.append_assoc (cellsT (l.take i)), List.take_left' (by rw [List.length_append, List.length_append, hT, cells6_len, hd]; omega)]
theorem rowT_shift2 {W : World} {base g cap i : Nat} {cur : Array Value} {l : List (Rcd × Value)} {q : Rcd × Value} (hb : base ≤ g) (hk : Blk W g (.cells cur 47 (0, 0))) (hs : cur.size = cap * 6) (hc : cap ≤ maxLen) (hn : l.length + 1 ≤ cap) (hi : i ≤ l.length) (ht : cur.toList.take (i * 6) = cellsT (l.take i)) :
    RowT ((W.setCells g (i * 6) (cells6 q)).setCells g ((i + 1) * 6) (cellsT (l.drop i))) base (.slice (some ⟨g, 0, none⟩) (l.length + 1) cap) (l.take i ++ q :: l.drop i) := by
  have hd : (cellsT (l.drop i)).length = (l.length - i) * 6 := by rw [cellsT_len, List.length_drop]
  have hcl : cur.toList.length = cap * 6 := by simp [hs]
  have hT : (cellsT (l.take i)).length = i * 6 := by rw [cellsT_len, List.length_take]; omega
  refine rowT_blk hb (blk_sets _ _ _ _ (blk_sets _ _ _ _ hk)) (by rw [setsA_size, setsA_size]; exact hs) hc (ins_len6 hi) hn ?_
  rw [setsA_list _ _ _ (by rw [setsA_size, hd]; omega), setsA_list _ _ _ (by rw [cells6_len]; omega), ins_cells, ht]
  have e1 : (cellsT (l.take i) ++ (cells6 q ++ cur.toList.drop (i * 6 + (cells6 q).length))).take ((i + 1) * 6) = cellsT (l.take i) ++ cells6 q := by
    rw [← List.append_assoc, List.take_left' (by rw [List.length_append, hT, cells6_len]; omega)]
  rw [e1, ← List.append_assoc, List.take_left' (by rw [List.length_append, List.length_append, hT, cells6_len, hd]; omega), List.append_assoc]
/-- 'copy(d, x)' of records, both in blocks whose cells are known. -/
theorem run_copy6 (w : World) (ty : TypeId) (b o dLen dCap : Nat) (a : Addr) (sLen sCap k : Nat) (cs : List Value) (hk : Nat.min sLen dLen = k) (hn : cs.length = k * 6)
    (hsrc : ∀ j v, cs[j]? = some v → w.cell? (a.add j) = some v) (hc : ∀ j, j < cs.length → (w.cell? ⟨b, o + j, none⟩).isSome = true) (hf : ∀ j, j < cs.length → w.frozen? ⟨b, o + j, none⟩ = false) (h1 : ∀ v ∈ cs, v.oneCell' = true) :
    (Builtin.copy_ #[23, 23] ty #[.slice (some ⟨b, o, none⟩) dLen dCap, .slice (some a) sLen sCap]).run Try.prog w = .ok (.int .i64 k) (w.setCells b o cs) := by
  obtain ⟨i0, hi, _, hz1, _⟩ := info_parts infoR
  have hl := run_loadCells_list (P := Try.prog) w a cs hsrc
  have hst := run_storeCells_cells (P := Try.prog) b o cs 0 w (by simpa using hc) (by simpa using hf) h1
  rw [hn] at hl
  simp [Builtin.copy_, run_underlying Try.underlying23, Builtin.lenOf, Builtin.firstCells, sizeOf, typeInfo, hi, hz1, hk, hl, hst, goInt]
/-- A builtin's call whose run is known. -/
theorem wpList_copy6 {w : World} {ops : Array Oper} {rest : List Oper} {o : Oper} {a : Act} {Q : Exit → Act → World → Prop} (hgd : o.guard = none) (d x : Operand)
    (ho : o.op = .call { callee := .builtin .copy, args := #[d, x], argTypes := #[23, 23] }) (v u : Value) (hd : a.eval d = v) (hx : a.eval x = u) {v1 : Value} {w1 : World}
    (hr : (Builtin.copy_ #[23, 23] o.type #[v, u]).run Try.prog w = .ok v1 w1) (h : wpList Try.prog ops Q rest (a.put o.dst v1) w1) : wpList Try.prog ops Q (o :: rest) a w := by
  refine wpList_plain hgd fun K hK => ?_
  unfold Oper.wp execOp
  simp only [ho, resolve, invoke, builtin, Sem.run_bind, Sem.run_pure, Result.andThen_ok, List.map_toArray, List.map_cons, List.map_nil, hd, hx, hr]
  exact hK _ _ h
theorem step_copy6 {w : World} {ops : Array Oper} {o : Oper} {a : Act} {K : Act → World → Prop} {Q : Exit → Act → World → Prop} {E : Prop} (hgd : o.guard = none) (d x : Operand)
    (ho : o.op = .call { callee := .builtin .copy, args := #[d, x], argTypes := #[23, 23] }) (v u : Value) (hd : a.eval d = v) (hx : a.eval x = u) {v1 : Value} {w1 : World}
    (hr : (Builtin.copy_ #[23, 23] o.type #[v, u]).run Try.prog w = .ok v1 w1) (h : K (a.put o.dst v1) w1) :
    if Region.wanted o (yielded ops a.tmps) = true then Oper.wp Try.prog o a w K Q else E := by
  have hw : Region.wanted o (yielded ops a.tmps) = true := by simp [Region.wanted, hgd]
  rw [if_pos hw]
  unfold Oper.wp execOp
  simp only [ho, resolve, invoke, builtin, Sem.run_bind, Sem.run_pure, Result.andThen_ok, List.map_toArray, List.map_cons, List.map_nil, hd, hx, hr]
  exact h
theorem cells6_one {q : Rcd × Value} {E : Option Addr} {m c : Nat} (h : q.2 = .slice E m c) : ∀ v ∈ cells6 q, v.oneCell' = true := by
  intro v hv
  simp [cells6, h] at hv
  rcases hv with rfl | rfl | rfl | rfl | rfl | rfl <;> rfl
theorem six_cells {W : World} {b o : Nat} {q : Rcd × Value} (h : RcAt W b o q.1 q.2) : ∀ j u, (cells6 q)[j]? = some u → W.cell? ((⟨b, o, none⟩ : Addr).add j) = some u := by
  intro j u hj
  have hl : j < 6 := (List.getElem?_eq_some_iff.1 hj).1
  rw [addr_add]
  obtain ⟨c0, c1, c2, c3, c4, c5⟩ := h
  rcases (by omega : j = 0 ∨ j = 1 ∨ j = 2 ∨ j = 3 ∨ j = 4 ∨ j = 5) with rfl | rfl | rfl | rfl | rfl | rfl
  · rw [← hj]; exact c0
  · rw [← hj]; exact c1
  · rw [← hj]; exact c2
  · rw [← hj]; exact c3
  · rw [← hj]; exact c4
  · rw [← hj]; exact c5
theorem blk_some {W : World} {g : Nat} {cur : Array Value} {T : TypeId} (h : Blk W g (.cells cur T (0, 0))) {j : Nat} (hj : j < cur.size) : (W.cell? ⟨g, j, none⟩).isSome = true := by
  rw [Blk.cell h j, Array.getElem?_eq_getElem hj]; rfl
/-- Cells of records that stand in a block from a place on. -/
theorem blk_cells {W : World} {g o : Nat} {cur : Array Value} {T : TypeId} {cs : List Value} (h : Blk W g (.cells cur T (0, 0))) (hc : (cur.toList.drop o).take cs.length = cs) : ∀ j u, cs[j]? = some u → W.cell? ((⟨g, o, none⟩ : Addr).add j) = some u := by
  intro j u hj
  have hl : j < cs.length := (List.getElem?_eq_some_iff.1 hj).1
  rw [addr_add, Blk.cell h, ← Array.getElem?_toList, ← hj]
  have e : cs[j]? = ((cur.toList.drop o).take cs.length)[j]? := by rw [hc]
  rw [e, List.getElem?_take, if_pos hl, List.getElem?_drop]
end Go.Proofs.Ytpnkkiokkhmjpaa


/-
  The contract of slices.Insert of records in a row of the call's own (stage 12).
-/
namespace Go.Proofs.Ytpnkkiokkhmjpaa
open Go.RowKit
set_option linter.unusedVariables false
set_option linter.unusedSimpArgs false

/-- What an insertion leaves. -/
def InsPost (w : World) (base : Nat) (row : Option Nat) (l : List (Rcd × Value)) (q : Rcd × Value) (i : Nat) (e : Ending) (w' : World) : Prop :=
  ∃ v, e = .returned v ∧ RowT w' base v (l.take i ++ q :: l.drop i) ∧ w.grownBy w' row
theorem ps_one_at {w : World} {vb : Nat} {q : Rcd × Value} (h : Blk w vb (.cells #[.string q.1.key, .string q.1.value, .int .i64 q.1.rev, .int .i64 q.1.life, .string q.1.note, q.2] 47 (0, 0))) : IsPs w (some ⟨vb, 0, none⟩) 1 [q] :=
  ⟨rfl, by unfold maxLen; omega, fun _ => ⟨vb, 0, rfl, Blk.lt h, fun i hi => by
    have : i = 0 := by simpa using hi
    subst this
    exact ⟨Blk.cell h 0, Blk.cell h 1, Blk.cell h 2, Blk.cell h 3, Blk.cell h 4, Blk.cell h 5⟩⟩⟩
set_option maxRecDepth 100000 in
set_option maxHeartbeats 8000000 in
theorem insert12_any (l : List (Rcd × Value)) (q : Rcd × Value) (A : Option Addr) (n cap i base vb : Nat) (w : World) (hrow : RowT w base (.slice A n cap) l) (hn : n = l.length) (hi : i ≤ n) (h20 : n ≤ 20) (hbase : base ≤ w.heap.size)
    (hv : Blk w vb (.cells #[.string q.1.key, .string q.1.value, .int .i64 q.1.rev, .int .i64 q.1.life, .string q.1.note, q.2] 47 (0, 0))) (hq : ∃ E m c, q.2 = .slice E m c) (hvb : (Value.slice A n cap).ownBlock ≠ some vb) (hsl : SlP l) :
    Calls Try.prog 75 #[.slice A n cap, .int .i64 i, .slice (some ⟨vb, 0, none⟩) 1 1] w (InsPost w base (Value.slice A n cap).ownBlock l q i) := by
  have HQ1 : Hid (SlP [q]) := fun p hp => by rw [List.mem_singleton] at hp; rw [hp]; exact hq
  have HPS := Lib.hid (ps_one_at hv)
  have HSL := Lib.hid hsl; clear hsl
  have HN := Lib.hid hn; clear hn
  have HBASE := Lib.hid hbase; clear hbase
  have hcap : n ≤ cap := by
    rcases hrow.2 with ⟨h1, h2⟩ | ⟨g, cp, cur, h1, _, _, h3, _⟩
    · simp only [Value.slice.injEq] at h1; omega
    · simp only [Value.slice.injEq] at h1; have := HN.out; omega
  have hin : (i : Int) ≤ (n : Int) := by omega
  have hi0 : (0 : Int) ≤ (i : Int) := by omega
  rcases Nat.lt_or_eq_of_le hi with hlt | heq
  rotate_left
  · subst heq
    have HRES : Hid (l.take i ++ q :: l.drop i = l ++ [q]) := by show _ = _; rw [HN.out, List.take_length, List.drop_length]
    have HROW := Lib.hid hrow; clear hrow
    obtain ⟨X, hX⟩ : ∃ X, (if cap = i then A else Option.map (fun x => x.add (i * 6)) A) = X := ⟨_, rfl⟩
    clear hvb hq hv
    go_enter Try.func75, Try.ntmps75
    go_wp2_with (at_builtin; refine wpList_append_tab rfl _ _ rfl base _ l rfl HROW.out (some ⟨vb, 0, none⟩) 1 1 [q] rfl HPS.out HQ1.out (by have := HN.out; omega) HBASE.out ?_)
    all_goals
      intro v1 w1 hrow1 hgr1
      have HR1 := Lib.hid hrow1; clear hrow1
      have HG1 := Lib.hid hgr1; clear hgr1
      go_wp2_with fail
      go_ret
      exact ⟨_, rfl, by rw [HRES.out]; exact HR1.out, HG1.out⟩
  obtain ⟨g, hA, hbg⟩ := hrow.at0 (i := i) (by have := HN.out; omega)
  subst hA
  obtain ⟨cur, hb9, hblk, hcs, hcm, hn9, hn8, htk⟩ := hrow.blk
  clear hb9 hn9 hn8
  have hvg : vb ≠ g := fun e => hvb (by rw [e]; rfl)
  have HIL : Hid (i < l.length) := by have := HN.out; show i < _; omega
  have hpre : cur.toList.take (i * 6) = cellsT (l.take i) := by
    rw [← take_cells (Nat.le_of_lt HIL.out), ← htk, List.take_take, Nat.min_eq_left (by omega)]
  have hsuf : (cur.toList.drop (i * 6)).take (cellsT (l.drop i)).length = cellsT (l.drop i) := by
    have hd : (cellsT (l.drop i)).length = (n - i) * 6 := by rw [cellsT_len, List.length_drop, HN.out]
    rw [← drop_cells (Nat.le_of_lt HIL.out), ← htk, List.drop_take, List.length_take, List.length_drop, Array.length_toList, hcs]
    exact congrArg (fun k => (cur.toList.drop (i * 6)).take k) (by simp only [Nat.min_def]; split <;> omega)
  have hd : (cellsT (l.drop i)).length = (n - i) * 6 := by rw [cellsT_len, List.length_drop, HN.out]
  have hone : ∀ v ∈ cellsT (l.drop i), v.oneCell' = true := cellsT_one (fun p hp => HSL.out p (List.mem_of_mem_drop hp))
  obtain ⟨Eq, mq, cq, hq2⟩ := hq
  have hone6 := cells6_one hq2
  have hvat : RcAt w vb 0 q.1 q.2 := ⟨Blk.cell hv 0, Blk.cell hv 1, Blk.cell hv 2, Blk.cell hv 3, Blk.cell hv 4, Blk.cell hv 5⟩
  have hc1 : ¬ (cap = i) := by omega
  have hz1 : ¬ ((i : Int) = (n : Int)) := by omega
  have hz2 : ((i : Int) == (n : Int)) = false := by rw [beq_eq_false_iff_ne]; exact hz1
  have hwn : IntKind.i64.wrap ((n : Int) + 1) = (n : Int) + 1 := IntWalk.i64_in _ (by omega)
  have hwi : IntKind.i64.wrap ((i : Int) + 1) = (i : Int) + 1 := IntWalk.i64_in _ (by omega)
  by_cases hroom : n + 1 ≤ cap
  · have HFIN : Hid (∀ W : World, Blk W g (.cells cur 47 (0, 0)) → RowT ((W.setCells g ((i + 1) * 6) (cellsT (l.drop i))).setCells g (i * 6) (cells6 q)) base (.slice (some ⟨g, 0, none⟩) (n + 1) cap) (l.take i ++ q :: l.drop i)) := fun W hk => by
      have := rowT_shift (q := q) hbg hk hcs hcm (by have := HN.out; omega) (Nat.le_of_lt HIL.out) hpre
      rw [← HN.out] at this; exact this
    have hov : ∀ (lb cb : Nat), (callFunc 79 #[.slice (some ⟨vb, 0, none⟩) 1 1, .slice (some ⟨g, (i + 1) * 6, none⟩) lb cb]).run Try.prog w = .ok (.value (.bool false)) w := fun lb cb => by
      have hshv : w.shape? vb = some (47, 6) := by unfold World.shape?; rw [show w.heap[vb]? = _ from hv]; rfl
      have hshg : w.shape? g = some (47, cap * 6) := by unfold World.shape?; rw [show w.heap[g]? = _ from hblk]; exact congrArg (fun k => some (47, k)) hcs
      obtain ⟨i0, hi0, _, hs0, _⟩ := info_parts infoR
      rw [run_callFunc_extern Try.func79 (by kernel_rfl) (by kernel_rfl) (by kernel_rfl) (e := Extern.SlicesOverlaps.overlaps #[23, 23] #[4]) (by kernel_rfl),
        Lib.run_overlaps_apart w 23 4 47 Try.underlying23 6 (fun w => by simp [sizeOf, typeInfo, hi0, hs0]) ⟨vb, 0, none⟩ ⟨g, (i + 1) * 6, none⟩ 1 1 lb cb hvg 47 47 6 (cap * 6) hshv hshg (by omega) (Blk.frozen hv 0) (Blk.frozen hv 6)]
      rfl
    have hcp1 : ∀ (ty : TypeId) (o2 dl dc o3 sl sc : Nat), o2 = (i + 1) * 6 → o3 = i * 6 → Nat.min sl dl = n - i → (Builtin.copy_ #[23, 23] ty #[.slice (some ⟨g, o2, none⟩) dl dc, .slice (some ⟨g, o3, none⟩) sl sc]).run Try.prog w.drew = .ok (.int .i64 (n - i : Nat)) (w.drew.setCells g ((i + 1) * 6) (cellsT (l.drop i))) := fun ty o2 dl dc o3 sl sc h2 h3 hm => by
      subst h2 h3
      exact run_copy6 w.drew ty g _ dl dc ⟨g, _, none⟩ sl sc (n - i) _ hm hd (blk_cells (Blk.drew hblk) hsuf) (fun j hj => blk_some (Blk.drew hblk) (by rw [hcs]; omega)) (fun j hj => Blk.frozen (Blk.drew hblk) _) hone
    obtain ⟨W1, hW1⟩ : ∃ W, w.drew.setCells g ((i + 1) * 6) (cellsT (l.drop i)) = W := ⟨_, rfl⟩
    have hblk1 : Blk W1 g (.cells (setsA cur ((i + 1) * 6) (cellsT (l.drop i))) 47 (0, 0)) := by rw [← hW1]; exact blk_sets _ _ _ _ (Blk.drew hblk)
    have hv1 : RcAt W1 vb 0 q.1 q.2 := by
      have hk := gb_sets g (cellsT (l.drop i)) ((i + 1) * 6) w.drew
      rw [hW1] at hk
      have hvk : Blk W1 vb (.cells #[.string q.1.key, .string q.1.value, .int .i64 q.1.rev, .int .i64 q.1.life, .string q.1.note, q.2] 47 (0, 0)) := Blk.kept (Blk.drew hv) hk (fun e => hvg (by cases e; rfl))
      exact ⟨Blk.cell hvk 0, Blk.cell hvk 1, Blk.cell hvk 2, Blk.cell hvk 3, Blk.cell hvk 4, Blk.cell hvk 5⟩
    have hcp2 : ∀ (ty : TypeId) (o2 dl dc sl sc : Nat), o2 = i * 6 → Nat.min sl dl = 1 → (Builtin.copy_ #[23, 23] ty #[.slice (some ⟨g, o2, none⟩) dl dc, .slice (some ⟨vb, 0, none⟩) sl sc]).run Try.prog W1 = .ok (.int .i64 (1 : Nat)) (W1.setCells g (i * 6) (cells6 q)) := fun ty o2 dl dc sl sc h2 hm => by
      subst h2
      exact run_copy6 W1 ty g _ dl dc ⟨vb, 0, none⟩ sl sc 1 _ hm rfl (six_cells hv1) (fun j hj => blk_some hblk1 (by rw [setsA_size, hcs]; rw [cells6_len] at hj; omega)) (fun j hj => Blk.frozen hblk1 _) hone6
    have HF := Lib.hid (HFIN.out w.drew (Blk.drew hblk))
    rw [hW1] at HF hcp1
    have HG : Hid (w.grownBy (W1.setCells g (i * 6) (cells6 q)) (some g)) := by
      have h1 := gb_sets g (cellsT (l.drop i)) ((i + 1) * 6) w.drew
      rw [hW1] at h1
      exact ((gb_drew w _).trans h1).trans (gb_sets g _ _ _)
    have hb1 : (n : Int) + 1 ≤ (cap : Int) := by omega
    have hb2 : ¬ ((cap : Int) < (n : Int) + 1) := by omega
    have hb3 : (0 : Int) ≤ (n : Int) + 1 := by omega
    have hb4 : (0 : Int) ≤ (i : Int) + 1 := by omega
    have hb5 : (i : Int) + 1 ≤ (n : Int) + 1 := by omega
    have hb6 : (i : Int) ≤ (n : Int) + 1 := by omega
    have hc2 : ¬ (cap = i + 1) := by omega
    have HL : Hid (i < n ∧ n + 1 ≤ cap) := ⟨hlt, hroom⟩
    have HBL := Lib.hid hblk
    have HVV := Lib.hid hv
    have HW1 := Lib.hid hW1
    clear hrow hblk hcs hcm htk hpre hsuf hd hone hone6 hvat hq2 hblk1 hv1 HFIN hW1 hv hvb hbg
    go_enter Try.func75, Try.ntmps75
    go_wp2_with (simp only [hov])
    go_upto_region 15 with (simp only [hov])
    refine wp_region_noPanic ?_
    refine wp_region_held_drew (S := (fun _ => True)) (by kernel_rfl) (trivial) (fun hHeld => ?_)
    refine wpAnyH_take (i := 0) (v := ?_) rfl (by kernel_rfl) (by kernel_rfl) (by kernel_rfl) (fun _ _ _ h => h) (Or.inl ⟨by rfl, ?_⟩) (by assumption) ?_
    rotate_left
    · (intro w hSw; (try dsimp only at hSw); go_simp; (try with_reducible rfl))
    simp only [Act.put, List.getElem_toArray, List.getElem_cons_zero, List.setIfInBounds_toArray, List.set_cons_zero, List.set_cons_succ]
    refine wpAnyH_take (i := 1) (v := ?_) rfl (by kernel_rfl) (by kernel_rfl) (by kernel_rfl) (fun _ _ _ h => h) (Or.inl ⟨by rfl, ?_⟩) (by assumption) ?_
    rotate_left
    · (intro w hSw; (try dsimp only at hSw); go_simp; (try with_reducible rfl))
    simp only [Act.put, List.getElem_toArray, List.getElem_cons_zero, List.getElem_cons_succ, List.setIfInBounds_toArray, List.set_cons_zero, List.set_cons_succ]
    refine wpAnyH_take (i := 2) (v := ?_) rfl (by kernel_rfl) (by kernel_rfl) (by kernel_rfl) (fun _ _ _ h => h) (Or.inl ⟨by rfl, ?_⟩) (by assumption) ?_
    rotate_left
    · (intro w hSw; (try dsimp only at hSw); go_simp; (try with_reducible rfl))
    simp only [Act.put, List.getElem_toArray, List.getElem_cons_zero, List.getElem_cons_succ, List.setIfInBounds_toArray, List.set_cons_zero, List.set_cons_succ]
    refine wpAnyH_take (i := 3) (v := ?_) rfl (by kernel_rfl) (by kernel_rfl) (by kernel_rfl) (fun _ _ _ h => h) (Or.inl ⟨by rfl, ?_⟩) (by assumption) ?_
    rotate_left
    · (intro w hSw; (try dsimp only at hSw); go_simp; (try with_reducible rfl))
    simp only [Act.put, List.getElem_toArray, List.getElem_cons_zero, List.getElem_cons_succ, List.setIfInBounds_toArray, List.set_cons_zero, List.set_cons_succ]
    refine wpAnyH_take (i := 4) (v := ?_) rfl (by kernel_rfl) (by kernel_rfl) (by kernel_rfl) (fun _ _ _ h => h) (Or.inl ⟨by rfl, ?_⟩) (by assumption) ?_
    rotate_left
    · (intro w hSw; (try dsimp only at hSw); go_simp; (try with_reducible rfl))
    simp only [Act.put, List.getElem_toArray, List.getElem_cons_zero, List.getElem_cons_succ, List.setIfInBounds_toArray, List.set_cons_zero, List.set_cons_succ]
    refine wpAnyH_take (i := 5) (v := ?_) rfl (by kernel_rfl) (by kernel_rfl) (by kernel_rfl) (fun _ _ _ h => h) (Or.inl ⟨by rfl, ?_⟩) (by assumption) ?_
    rotate_left
    · (intro w hSw; (try dsimp only at hSw); go_simp; (try with_reducible rfl))
    simp only [Act.put, List.getElem_toArray, List.getElem_cons_zero, List.getElem_cons_succ, List.setIfInBounds_toArray, List.set_cons_zero, List.set_cons_succ]
    refine wpAnyH_take (i := 6) (v := ?_) rfl (by kernel_rfl) (by kernel_rfl) (by kernel_rfl) (fun _ _ _ h => h) (Or.inl ⟨by rfl, ?_⟩) (by assumption) ?_
    rotate_left
    · (intro w hSw; (try dsimp only at hSw); go_simp; (try with_reducible rfl))
    simp only [Act.put, List.getElem_toArray, List.getElem_cons_zero, List.getElem_cons_succ, List.setIfInBounds_toArray, List.set_cons_zero, List.set_cons_succ]
    refine wpAnyH_take (i := 7) (v := ?_) rfl (by kernel_rfl) (by kernel_rfl) (by kernel_rfl) (fun _ _ _ h => h) (Or.inl ⟨by rfl, ?_⟩) (by assumption) ?_
    rotate_left
    · (intro w hSw; (try dsimp only at hSw); go_simp; (try with_reducible rfl))
    simp only [Act.put, List.getElem_toArray, List.getElem_cons_zero, List.getElem_cons_succ, List.setIfInBounds_toArray, List.set_cons_zero, List.set_cons_succ]
    refine wpAnyH_ready (rs := [8]) (by kernel_rfl) (by simp) ?_
    refine AllReadyH.cons rfl (fun K hK => ?_) AllReadyH.nil
    refine step_copy6 rfl _ _ rfl _ _ rfl rfl (hcp1 _ _ _ _ _ _ _ (by omega) (by omega) (by have := HL.out; simp only [Nat.min_def]; split <;> omega)) ?_
    refine hK.out _ _ trivial (fun hHeld2 => ?_)
    clear hK K hHeld
    have hHeld := hHeld2; clear hHeld2
    refine wpAnyH_done (by kernel_rfl) ?_ _
    refine NoPanic.normal ?_
    have hx2 := hcp2 3 (i * 6) (n + 1 - i) (cap - i) 1 1 rfl (by have := HL.out; simp only [Nat.min_def]; split <;> omega)
    clear hcp1 hcp2
    go_wp2_with fail
    go_ret
    exact ⟨_, rfl, HF.out, HG.out⟩
  · have hcn : cap = n := by omega
    subst hcn
    clear hroom hcap
    obtain ⟨i0, hi0, hz0, hs0, hb0⟩ := info_parts infoR
    have hTl : (cellsT (l.take i)).length = i * 6 := by rw [cellsT_len, List.length_take]; have := HIL.out; omega
    have hold : (Builtin.firstCells i0.size i (.slice (some ⟨g, 0, none⟩) i cap)).run Try.prog w.drew = .ok (cellsT (l.take i)).toArray w.drew := by
      rw [hs0]
      refine run_firstCells_some w.drew 6 i ⟨g, 0, none⟩ i cap (cellsT (l.take i)) hTl ?_
      refine blk_cells (Blk.drew hblk) ?_
      rw [List.drop_zero, hTl]; exact hpre
    have hrz : ∀ (ty : TypeId) (k : Int), k = ((cap + 1 - i : Nat) : Int) → (Builtin.append_ #[23, 3] ty #[.slice (some ⟨g, 0, none⟩) i cap, .int .i64 k]).run Try.prog w =
        .ok (.slice (some ⟨w.heap.size, 0, none⟩) (cap + 1) (grownCap w (cap + 1) cap 47)) (w.drew.alloc (.cells ((cellsT (l.take i)).toArray ++ Builtin.zeroCells (Value.agg #[.string ⟨#[]⟩, .string ⟨#[]⟩, .int .i64 0, .int .i64 0, .string ⟨#[]⟩, .slice none 0 0]).cells (cap + 1 - i) ++ Builtin.zeroCells (Value.agg #[.string ⟨#[]⟩, .string ⟨#[]⟩, .int .i64 0, .int .i64 0, .string ⟨#[]⟩, .slice none 0 0]).cells (grownCap w (cap + 1) cap 47 - (cap + 1))) 47)) := fun ty k hk => by
      subst hk
      have h := Lib.run_append_grow_zeros w 23 3 ty 47 i0 (Value.agg #[.string ⟨#[]⟩, .string ⟨#[]⟩, .int .i64 0, .int .i64 0, .string ⟨#[]⟩, .slice none 0 0]) .i64 .i64 Try.underlying23 Try.underlying3 hi0 hz0 (some ⟨g, 0, none⟩) i cap _ hold (cap + 1 - i) (by omega) (by rw [hs0]; omega) (by omega) (by omega)
        (by rw [hb0]; omega)
        (by rw [show i + (cap + 1 - i) = cap + 1 by omega]; exact growslice_fits (by omega) (by rw [hb0]; omega))
      rw [show i + (cap + 1 - i) = cap + 1 by omega] at h
      exact h
    have hGn : cap + 1 ≤ grownCap w (cap + 1) cap 47 := grownCap_ge w _ _ _
    have hG63 : grownCap w (cap + 1) cap 47 ≤ maxLen := grownCap_le_maxLen w _ _ _ (by unfold maxLen; omega)
    obtain ⟨G, hG⟩ : ∃ G, grownCap w (cap + 1) cap 47 = G := ⟨_, rfl⟩
    rw [hG] at hrz hGn hG63
    obtain ⟨Z, hZ⟩ : ∃ Z, (cellsT (l.take i)).toArray ++ Builtin.zeroCells (Value.agg #[.string ⟨#[]⟩, .string ⟨#[]⟩, .int .i64 0, .int .i64 0, .string ⟨#[]⟩, .slice none 0 0]).cells (cap + 1 - i) ++ Builtin.zeroCells (Value.agg #[.string ⟨#[]⟩, .string ⟨#[]⟩, .int .i64 0, .int .i64 0, .string ⟨#[]⟩, .slice none 0 0]).cells (G - (cap + 1)) = Z := ⟨_, rfl⟩
    rw [hZ] at hrz
    have hZs : Z.size = G * 6 := by
      rw [← hZ]
      simp [size_zeroCells, Value.cells, hTl]
      omega
    have hZp : Z.toList.take (i * 6) = cellsT (l.take i) := by
      rw [← hZ]
      rw [Array.toList_append, Array.toList_append, List.append_assoc, List.toList_toArray, List.take_left' hTl]
    clear hold hZ hG hi0 hz0 hs0 hb0 i0
    obtain ⟨W0, hW0⟩ : ∃ W, w.drew.alloc (.cells Z 47) = W := ⟨_, rfl⟩
    have hzb : Blk W0 w.heap.size (.cells Z 47 (0, 0)) := by rw [← hW0]; exact Blk.new w.drew _
    have hb0 : Below w.heap.size w W0 := by rw [← hW0]; exact ((Below.refl _ w).drew).alloc (Nat.le_refl _) _
    have hv0 : RcAt W0 vb 0 q.1 q.2 := hvat.below hb0
    have hgb0 : Blk W0 g (.cells cur 47 (0, 0)) := Blk.below hblk hb0
    rw [hW0] at hrz
    have hcp1 : ∀ (ty : TypeId) (o2 dl dc sl sc : Nat), o2 = i * 6 → Nat.min sl dl = 1 → (Builtin.copy_ #[23, 23] ty #[.slice (some ⟨w.heap.size, o2, none⟩) dl dc, .slice (some ⟨vb, 0, none⟩) sl sc]).run Try.prog W0 = .ok (.int .i64 (1 : Nat)) (W0.setCells w.heap.size (i * 6) (cells6 q)) := fun ty o2 dl dc sl sc h2 hm => by
      subst h2
      exact run_copy6 W0 ty w.heap.size _ dl dc ⟨vb, 0, none⟩ sl sc 1 _ hm rfl (six_cells hv0) (fun j hj => blk_some hzb (by rw [hZs]; rw [cells6_len] at hj; omega)) (fun j hj => Blk.frozen hzb _) hone6
    have hgw : g ≠ w.heap.size := by have := Blk.lt hblk; omega
    obtain ⟨W1, hW1⟩ : ∃ W, W0.setCells w.heap.size (i * 6) (cells6 q) = W := ⟨_, rfl⟩
    have hk1 := gb_sets w.heap.size (cells6 q) (i * 6) W0
    have hzb1 : Blk W1 w.heap.size (.cells (setsA Z (i * 6) (cells6 q)) 47 (0, 0)) := by rw [← hW1]; exact blk_sets _ _ _ _ hzb
    rw [hW1] at hk1
    have hgb1 : Blk W1 g (.cells cur 47 (0, 0)) := Blk.kept hgb0 hk1 (fun e => hgw (by cases e; rfl))
    have hcp2 : ∀ (ty : TypeId) (o2 dl dc o3 sl sc : Nat), o2 = (i + 1) * 6 → o3 = i * 6 → Nat.min sl dl = cap - i → (Builtin.copy_ #[23, 23] ty #[.slice (some ⟨w.heap.size, o2, none⟩) dl dc, .slice (some ⟨g, o3, none⟩) sl sc]).run Try.prog W1.drew = .ok (.int .i64 (cap - i : Nat)) (W1.drew.setCells w.heap.size ((i + 1) * 6) (cellsT (l.drop i))) := fun ty o2 dl dc o3 sl sc h2 h3 hm => by
      subst h2 h3
      exact run_copy6 W1.drew ty w.heap.size _ dl dc ⟨g, _, none⟩ sl sc (cap - i) _ hm hd (blk_cells (Blk.drew hgb1) hsuf) (fun j hj => blk_some (Blk.drew hzb1) (by rw [setsA_size, hZs]; omega)) (fun j hj => Blk.frozen (Blk.drew hzb1) _) hone
    have HF : Hid (RowT (W1.drew.setCells w.heap.size ((i + 1) * 6) (cellsT (l.drop i))) base (.slice (some ⟨w.heap.size, 0, none⟩) (cap + 1) G) (l.take i ++ q :: l.drop i)) := by
      have h := rowT_shift2 (q := q) (W := W0.drew) HBASE.out (Blk.drew hzb) hZs hG63 (by have := HN.out; omega) (Nat.le_of_lt HIL.out) hZp
      have e : W0.drew.setCells w.heap.size (i * 6) (cells6 q) = W1.drew := by rw [← hW1]; exact sets_drew _ _ _ _
      rw [e, ← HN.out] at h
      exact h
    have HG : Hid (w.grownBy (W1.drew.setCells w.heap.size ((i + 1) * 6) (cellsT (l.drop i))) (some g)) := by
      have h1 := hb0.trans ((Below.refl W0.heap.size W0).mono hb0.size)
      have hz : ∀ k, k < w.heap.size → (W1.drew.setCells w.heap.size ((i + 1) * 6) (cellsT (l.drop i))).heap[k]? = w.heap[k]? := fun k hk => by
        have h2 := (gb_sets w.heap.size (cellsT (l.drop i)) ((i + 1) * 6) W1.drew).block k (by show k < W1.heap.size; have := hk1.size; have := hb0.size; omega) (by simp; omega)
        have h3 := hk1.block k (by have := hb0.size; omega) (by simp; omega)
        exact h2.trans (h3.trans (hb0.block k hk))
      have hs2 := gb_sets w.heap.size (cellsT (l.drop i)) ((i + 1) * 6) W1.drew
      exact ⟨hs2.os.trans (hk1.os.trans hb0.os), hs2.tape.trans (hk1.tape.trans hb0.tape), hs2.output.trans (hk1.output.trans hb0.output), Nat.le_trans hb0.size (Nat.le_trans hk1.size hs2.size), fun k hk _ => hz k hk⟩
    have hb1 : ¬ ((cap : Int) + 1 ≤ (cap : Int)) := by omega
    have hb2 : (cap : Int) < (cap : Int) + 1 := by omega
    have hws : IntKind.i64.wrap ((cap : Int) + 1 - (i : Int)) = ((cap + 1 - i : Nat) : Int) := by rw [IntWalk.i64_in _ (by omega)]; omega
    have hb4 : (0 : Int) ≤ (i : Int) + 1 := by omega
    have hb5 : (i : Int) + 1 ≤ (cap : Int) + 1 := by omega
    have hb6 : (i : Int) ≤ (cap : Int) + 1 := by omega
    have hb7 : i ≤ cap + 1 := by omega
    have hc2 : ¬ (G = i) := by omega
    have hc3 : ¬ (G = i + 1) := by omega
    have HL : Hid (i < cap ∧ cap + 1 ≤ G) := ⟨hlt, hGn⟩
    have hGG : G ≤ 9223372036854775807 := by unfold maxLen at hG63; omega
    have HV0 := Lib.hid hv0; clear hv0
    rw [hW1] at hcp1
    have HW1 := Lib.hid hW1
    clear hrow hblk hcs hcm htk hpre hsuf hd hone hone6 hvat hq2 hW1 hv hvb hbg hzb hb0 hgb0 hzb1 hgb1 hk1 hgw hW0 hZs hZp hTl hGn hG63
    go_enter Try.func75, Try.ntmps75
    have hx1 := hcp1 3 (i * 6) (cap + 1 - i) (G - i) 1 1 rfl (by have := HL.out; simp only [Nat.min_def]; split <;> omega)
    go_upto_region 9 with fail
    go_upto_region 10 with (at_builtin; refine Lib.wpList_append_run _ rfl _ _ _ _ rfl _ _ rfl rfl _ _ (hrz _ _ rfl) ?_)
    go_upto_region 11 with fail
    clear hx1
    refine wp_region_noPanic ?_
    refine wp_region_held_drew (S := (fun _ => True)) (by kernel_rfl) (trivial) (fun hHeld => ?_)
    refine wpAnyH_take (i := 0) (v := ?_) rfl (by kernel_rfl) (by kernel_rfl) (by kernel_rfl) (fun _ _ _ h => h) (Or.inl ⟨by rfl, ?_⟩) (by assumption) ?_
    rotate_left
    · (intro w hSw; (try dsimp only at hSw); go_simp; (try with_reducible rfl))
    simp only [Act.put, List.getElem_toArray, List.getElem_cons_zero, List.setIfInBounds_toArray, List.set_cons_zero, List.set_cons_succ]
    refine wpAnyH_take (i := 1) (v := ?_) rfl (by kernel_rfl) (by kernel_rfl) (by kernel_rfl) (fun _ _ _ h => h) (Or.inl ⟨by rfl, ?_⟩) (by assumption) ?_
    rotate_left
    · (intro w hSw; (try dsimp only at hSw); go_simp; (try with_reducible rfl))
    simp only [Act.put, List.getElem_toArray, List.getElem_cons_zero, List.getElem_cons_succ, List.setIfInBounds_toArray, List.set_cons_zero, List.set_cons_succ]
    refine wpAnyH_take (i := 2) (v := ?_) rfl (by kernel_rfl) (by kernel_rfl) (by kernel_rfl) (fun _ _ _ h => h) (Or.inl ⟨by rfl, ?_⟩) (by assumption) ?_
    rotate_left
    · (intro w hSw; (try dsimp only at hSw); go_simp; (try with_reducible rfl))
    simp only [Act.put, List.getElem_toArray, List.getElem_cons_zero, List.getElem_cons_succ, List.setIfInBounds_toArray, List.set_cons_zero, List.set_cons_succ]
    refine wpAnyH_take (i := 3) (v := ?_) rfl (by kernel_rfl) (by kernel_rfl) (by kernel_rfl) (fun _ _ _ h => h) (Or.inl ⟨by rfl, ?_⟩) (by assumption) ?_
    rotate_left
    · (intro w hSw; (try dsimp only at hSw); go_simp; (try with_reducible rfl))
    simp only [Act.put, List.getElem_toArray, List.getElem_cons_zero, List.getElem_cons_succ, List.setIfInBounds_toArray, List.set_cons_zero, List.set_cons_succ]
    refine wpAnyH_take (i := 4) (v := ?_) rfl (by kernel_rfl) (by kernel_rfl) (by kernel_rfl) (fun _ _ _ h => h) (Or.inl ⟨by rfl, ?_⟩) (by assumption) ?_
    rotate_left
    · (intro w hSw; (try dsimp only at hSw); go_simp; (try with_reducible rfl))
    simp only [Act.put, List.getElem_toArray, List.getElem_cons_zero, List.getElem_cons_succ, List.setIfInBounds_toArray, List.set_cons_zero, List.set_cons_succ]
    refine wpAnyH_take (i := 5) (v := ?_) rfl (by kernel_rfl) (by kernel_rfl) (by kernel_rfl) (fun _ _ _ h => h) (Or.inl ⟨by rfl, ?_⟩) (by assumption) ?_
    rotate_left
    · (intro w hSw; (try dsimp only at hSw); go_simp; (try with_reducible rfl))
    simp only [Act.put, List.getElem_toArray, List.getElem_cons_zero, List.getElem_cons_succ, List.setIfInBounds_toArray, List.set_cons_zero, List.set_cons_succ]
    refine wpAnyH_take (i := 6) (v := ?_) rfl (by kernel_rfl) (by kernel_rfl) (by kernel_rfl) (fun _ _ _ h => h) (Or.inl ⟨by rfl, ?_⟩) (by assumption) ?_
    rotate_left
    · (intro w hSw; (try dsimp only at hSw); go_simp; (try with_reducible rfl))
    simp only [Act.put, List.getElem_toArray, List.getElem_cons_zero, List.getElem_cons_succ, List.setIfInBounds_toArray, List.set_cons_zero, List.set_cons_succ]
    refine wpAnyH_take (i := 7) (v := ?_) rfl (by kernel_rfl) (by kernel_rfl) (by kernel_rfl) (fun _ _ _ h => h) (Or.inl ⟨by rfl, ?_⟩) (by assumption) ?_
    rotate_left
    · (intro w hSw; (try dsimp only at hSw); go_simp; (try with_reducible rfl))
    simp only [Act.put, List.getElem_toArray, List.getElem_cons_zero, List.getElem_cons_succ, List.setIfInBounds_toArray, List.set_cons_zero, List.set_cons_succ]
    refine wpAnyH_ready (rs := [8]) (by kernel_rfl) (by simp) ?_
    refine AllReadyH.cons rfl (fun K hK => ?_) AllReadyH.nil
    refine step_copy6 rfl _ _ rfl _ _ rfl rfl (hcp2 _ _ _ _ _ _ _ (by omega) (by omega) (by have := HL.out; simp only [Nat.min_def]; split <;> omega)) ?_
    refine hK.out _ _ trivial (fun hHeld2 => ?_)
    clear hK K hHeld
    have hHeld := hHeld2; clear hHeld2
    refine wpAnyH_done (by kernel_rfl) ?_ _
    refine NoPanic.normal ?_
    go_wp2_with fail
    go_ret
    exact ⟨_, rfl, HF.out, HG.out⟩
end Go.Proofs.Ytpnkkiokkhmjpaa


/-
  The contract of slices.Delete of one record of a row of the call's own (stage 12).
-/
namespace Go.Proofs.Ytpnkkiokkhmjpaa
open Go.RowKit
set_option linter.unusedVariables false
set_option linter.unusedSimpArgs false

theorem step_append6 {w : World} {ops : Array Oper} {o : Oper} {a : Act} {K : Act → World → Prop} {Q : Exit → Act → World → Prop} {E : Prop} (hgd : o.guard = none) (d x : Operand)
    (ho : o.op = .call { callee := .builtin .append, args := #[d, x], argTypes := #[23, 23] }) (v u : Value) (hd : a.eval d = v) (hx : a.eval x = u) {v1 : Value} {w1 : World}
    (hr : (Builtin.append_ #[23, 23] o.type #[v, u]).run Try.prog w = .ok v1 w1) (h : K (a.put o.dst v1) w1) :
    if Region.wanted o (yielded ops a.tmps) = true then Oper.wp Try.prog o a w K Q else E := by
  have hw : Region.wanted o (yielded ops a.tmps) = true := by simp [Region.wanted, hgd]
  rw [if_pos hw]
  unfold Oper.wp execOp
  simp only [ho, resolve, invoke, builtin, Sem.run_bind, Sem.run_pure, Result.andThen_ok, List.map_toArray, List.map_cons, List.map_nil, hd, hx, hr]
  exact h
theorem zero6 (w : World) : (zeroValue 47).run Try.prog w = .ok (.agg #[.string ⟨#[]⟩, .string ⟨#[]⟩, .int .i64 0, .int .i64 0, .string ⟨#[]⟩, .slice none 0 0]) w := by kernel_rfl
/-- 'clear(s)', s one record: its cells hold nothing. -/
theorem run_clear6 (w : World) (ty : TypeId) (b o c : Nat) (hc : ∀ j, j < 6 → (w.cell? ⟨b, o + j, none⟩).isSome = true) (hf : ∀ j, j < 6 → w.frozen? ⟨b, o + j, none⟩ = false) :
    (Builtin.clear_ #[23] ty #[.slice (some ⟨b, o, none⟩) 1 c]).run Try.prog w = .ok (.tuple #[]) (w.setCells b o [.string ⟨#[]⟩, .string ⟨#[]⟩, .int .i64 0, .int .i64 0, .string ⟨#[]⟩, .slice none 0 0]) := by
  have hst := run_storeCells_cells (P := Try.prog) b o [.string ⟨#[]⟩, .string ⟨#[]⟩, .int .i64 0, .int .i64 0, .string ⟨#[]⟩, .slice none 0 0] 0 w (by simpa using hc) (by simpa using hf) (by intro v hv; simp at hv; rcases hv with rfl | rfl | rfl | rfl | rfl | rfl <;> rfl)
  have hz : (Builtin.zeroCells (Value.agg #[.string ⟨#[]⟩, .string ⟨#[]⟩, .int .i64 0, .int .i64 0, .string ⟨#[]⟩, .slice none 0 0]).cells 1).toList = [.string ⟨#[]⟩, .string ⟨#[]⟩, .int .i64 0, .int .i64 0, .string ⟨#[]⟩, .slice none 0 0] := by simp [Builtin.zeroCells, Value.cells]; rfl
  simp [Builtin.clear_, run_underlying Try.underlying23, zero6, hz, hst]
/-- What a deletion leaves. -/
def DelPost (w : World) (base : Nat) (row : Option Nat) (l : List (Rcd × Value)) (i : Nat) (e : Ending) (w' : World) : Prop :=
  ∃ v, e = .returned v ∧ RowT w' base v (l.take i ++ l.drop (i + 1)) ∧ w.grownBy w' row
set_option maxRecDepth 100000 in
set_option maxHeartbeats 8000000 in
theorem delete12_any (l : List (Rcd × Value)) (A : Option Addr) (n cap i base : Nat) (w : World) (hrow : RowT w base (.slice A n cap) l) (hn : n = l.length) (hi : i < n) (h20 : n ≤ 20) (hsl : SlP l) :
    Calls Try.prog 64 #[.slice A n cap, .int .i64 i, .int .i64 ((i : Int) + 1)] w (DelPost w base (Value.slice A n cap).ownBlock l i) := by
  have HN := Lib.hid hn; clear hn
  obtain ⟨g, hA, hbg⟩ := hrow.at0 (i := i) (by have := HN.out; omega)
  subst hA
  obtain ⟨cur, hb9, hblk, hcs, hcm, hn9, hnc, htk⟩ := hrow.blk
  clear hb9 hn9
  have HIL : Hid (i < l.length) := by have := HN.out; show i < _; omega
  have hpre : cur.toList.take (i * 6) = cellsT (l.take i) := by
    rw [← take_cells (Nat.le_of_lt HIL.out), ← htk, List.take_take, Nat.min_eq_left (by omega)]
  have hd : (cellsT (l.drop (i + 1))).length = (n - (i + 1)) * 6 := by rw [cellsT_len, List.length_drop, HN.out]
  have hsuf : (cur.toList.drop ((i + 1) * 6)).take (cellsT (l.drop (i + 1))).length = cellsT (l.drop (i + 1)) := by
    rw [← drop_cells (l := l) (i := i + 1) HIL.out, ← htk, List.drop_take, List.length_take, List.length_drop, Array.length_toList, hcs]
    exact congrArg (fun k => (cur.toList.drop ((i + 1) * 6)).take k) (by simp only [Nat.min_def]; split <;> omega)
  have hone : ∀ v ∈ cellsT (l.drop (i + 1)), v.oneCell' = true := cellsT_one (fun p hp => hsl p (List.mem_of_mem_drop hp))
  have hTl : (cellsT (l.take i)).length = i * 6 := by rw [cellsT_len, List.length_take]; have := HIL.out; omega
  obtain ⟨X, hX⟩ : ∃ X : Addr, (if cap = i + 1 then some (⟨g, 0, none⟩ : Addr) else some ⟨g, (i + 1) * 6, none⟩) = some X := by
    by_cases h : cap = i + 1
    · exact ⟨⟨g, 0, none⟩, by rw [if_pos h]⟩
    · exact ⟨⟨g, (i + 1) * 6, none⟩, by rw [if_neg h]⟩
  have hsrc : ∀ j u, (cellsT (l.drop (i + 1)))[j]? = some u → w.drew.cell? (X.add j) = some u := fun j u hj => by
    have hlen : j < (n - (i + 1)) * 6 := by rw [← hd]; exact (List.getElem?_eq_some_iff.1 hj).1
    have hXX : X = ⟨g, (i + 1) * 6, none⟩ := by rw [if_neg (by omega)] at hX; cases hX; rfl
    rw [hXX]
    exact blk_cells (Blk.drew hblk) hsuf j u hj
  obtain ⟨W1, hW1⟩ : ∃ W, w.drew.setCells g (i * 6) (cellsT (l.drop (i + 1))) = W := ⟨_, rfl⟩
  have hap : ∀ (ty : TypeId), (Builtin.append_ #[23, 23] ty #[.slice (some ⟨g, 0, none⟩) i cap, .slice (some X) (n - (i + 1)) (cap - (i + 1))]).run Try.prog w.drew = .ok (.slice (some ⟨g, 0, none⟩) (n - 1) cap) W1 := fun ty => by
    obtain ⟨i0, hi0, hz0, hs0, hb0⟩ := info_parts infoR
    have hs := Src.ofSlice (P := Try.prog) (size := i0.size) w.drew Try.underlying23 X (n - (i + 1)) (cap - (i + 1)) (cellsT (l.drop (i + 1))) (by rw [hd, hs0]) hsrc hone
    have h := run_append_room_src (P := Try.prog) w.drew 23 23 ty 47 i0 Try.underlying23 hi0 g 0 i cap _ _ _ hs (by omega)
      (fun j hj => blk_some (Blk.drew hblk) (by rw [hcs, hs0]; omega)) (fun j hj => Blk.frozen (Blk.drew hblk) _)
    rw [show i + (n - (i + 1)) = n - 1 by omega, hs0, Nat.zero_add, hW1] at h
    exact h
  have hblk1 : Blk W1 g (.cells (setsA cur (i * 6) (cellsT (l.drop (i + 1)))) 47 (0, 0)) := by rw [← hW1]; exact blk_sets _ _ _ _ (Blk.drew hblk)
  have hcl : ∀ (ty : TypeId) (o2 c : Nat), o2 = (n - 1) * 6 → (Builtin.clear_ #[23] ty #[.slice (some ⟨g, o2, none⟩) 1 c]).run Try.prog W1 = .ok (.tuple #[]) (W1.setCells g ((n - 1) * 6) [.string ⟨#[]⟩, .string ⟨#[]⟩, .int .i64 0, .int .i64 0, .string ⟨#[]⟩, .slice none 0 0]) := fun ty o2 c h2 => by
    subst h2
    exact run_clear6 W1 ty g _ c (fun j hj => blk_some hblk1 (by rw [setsA_size, hcs]; omega)) (fun j hj => Blk.frozen hblk1 _)
  have HF : Hid (RowT (W1.setCells g ((n - 1) * 6) [.string ⟨#[]⟩, .string ⟨#[]⟩, .int .i64 0, .int .i64 0, .string ⟨#[]⟩, .slice none 0 0]) base (.slice (some ⟨g, 0, none⟩) (n - 1) cap) (l.take i ++ l.drop (i + 1))) := by
    have hcl2 : cur.toList.length = cap * 6 := by simp [hcs]
    refine rowT_blk hbg (blk_sets _ _ _ _ hblk1) (by rw [setsA_size, setsA_size]; exact hcs) hcm (by rw [List.length_append, List.length_take, List.length_drop]; have := HIL.out; have := HN.out; omega) (by omega) ?_
    rw [setsA_list _ _ _ (by rw [setsA_size]; simp; omega), setsA_list _ _ _ (by rw [hd]; omega), List.take_append_of_le_length (by rw [List.length_take, List.length_append, List.length_append, List.length_drop, List.length_take, hd]; omega), List.take_take, Nat.min_self, hpre, ← List.append_assoc, List.take_left' (by rw [List.length_append, hTl, hd]; omega), cellsT_append]
  have HG : Hid (w.grownBy (W1.setCells g ((n - 1) * 6) [.string ⟨#[]⟩, .string ⟨#[]⟩, .int .i64 0, .int .i64 0, .string ⟨#[]⟩, .slice none 0 0]) (some g)) := by
    have h1 := gb_sets g (cellsT (l.drop (i + 1))) (i * 6) w.drew
    rw [hW1] at h1
    exact ((gb_drew w _).trans h1).trans (gb_sets g _ _ _)
  have hi0 : (0 : Int) ≤ (i : Int) := by omega
  have hi1 : (i : Int) ≤ (i : Int) + 1 := by omega
  have hi2 : (i : Int) + 1 ≤ (n : Int) := by omega
  have hi3 : (0 : Int) ≤ (i : Int) + 1 := by omega
  have hi4 : (n : Int) ≤ (cap : Int) := by omega
  have hi5 : (i : Int) ≤ (cap : Int) := by omega
  have hi6 : i ≤ cap := by omega
  have hi7 : i + 1 ≤ n := by omega
  have he1 : ((i : Int) == (i : Int) + 1) = false := by rw [beq_eq_false_iff_ne]; omega
  have hi8 : n - 1 ≤ n := by omega
  have hi9 : ((n - 1 : Nat) : Int) ≤ (n : Int) := by omega
  have hc1 : ¬ (cap = n - 1) := by omega
  have hsub : n - (n - 1) = 1 := by omega
  have hcy := fun ty => hcl ty ((n - 1) * 6) (cap - (n - 1)) rfl
  have HW1 := Lib.hid hW1
  clear hrow hblk hcs hcm htk hpre hsuf hd hone hW1 hbg hTl hsrc hblk1 hcl hsl
  go_enter Try.func64, Try.ntmps64
  go_upto_region 5 with fail
  refine wp_region_noPanic ?_
  refine wp_region_held_drew (S := (fun _ => True)) (by kernel_rfl) (trivial) (fun hHeld => ?_)
  refine wpAnyH_take (i := 0) (v := ?_) rfl (by kernel_rfl) (by kernel_rfl) (by kernel_rfl) (fun _ _ _ h => h) (Or.inl ⟨by rfl, ?_⟩) (by assumption) ?_
  rotate_left
  · (intro w hSw; (try dsimp only at hSw); go_simp; (try with_reducible rfl))
  simp only [Act.put, List.getElem_toArray, List.getElem_cons_zero, List.setIfInBounds_toArray, List.set_cons_zero, List.set_cons_succ]
  refine wpAnyH_take (i := 1) (v := ?_) rfl (by kernel_rfl) (by kernel_rfl) (by kernel_rfl) (fun _ _ _ h => h) (Or.inl ⟨by rfl, ?_⟩) (by assumption) ?_
  rotate_left
  · (intro w hSw; (try dsimp only at hSw); go_simp; (try with_reducible rfl))
  simp only [Act.put, List.getElem_toArray, List.getElem_cons_zero, List.getElem_cons_succ, List.setIfInBounds_toArray, List.set_cons_zero, List.set_cons_succ]
  refine wpAnyH_take (i := 2) (v := ?_) rfl (by kernel_rfl) (by kernel_rfl) (by kernel_rfl) (fun _ _ _ h => h) (Or.inl ⟨by rfl, ?_⟩) (by assumption) ?_
  rotate_left
  · (intro w hSw; (try dsimp only at hSw); go_simp; (try with_reducible rfl))
  simp only [Act.put, List.getElem_toArray, List.getElem_cons_zero, List.getElem_cons_succ, List.setIfInBounds_toArray, List.set_cons_zero, List.set_cons_succ]
  refine wpAnyH_take (i := 3) (v := ?_) rfl (by kernel_rfl) (by kernel_rfl) (by kernel_rfl) (fun _ _ _ h => h) (Or.inl ⟨by rfl, ?_⟩) (by assumption) ?_
  rotate_left
  · (intro w hSw; (try dsimp only at hSw); go_simp; (try with_reducible rfl))
  simp only [Act.put, List.getElem_toArray, List.getElem_cons_zero, List.getElem_cons_succ, List.setIfInBounds_toArray, List.set_cons_zero, List.set_cons_succ]
  refine wpAnyH_take (i := 4) (v := ?_) rfl (by kernel_rfl) (by kernel_rfl) (by kernel_rfl) (fun _ _ _ h => h) (Or.inl ⟨by rfl, ?_⟩) (by assumption) ?_
  rotate_left
  · (intro w hSw; (try dsimp only at hSw); go_simp; (try with_reducible rfl))
  simp only [Act.put, List.getElem_toArray, List.getElem_cons_zero, List.getElem_cons_succ, List.setIfInBounds_toArray, List.set_cons_zero, List.set_cons_succ]
  refine wpAnyH_take (i := 5) (v := ?_) rfl (by kernel_rfl) (by kernel_rfl) (by kernel_rfl) (fun _ _ _ h => h) (Or.inl ⟨by rfl, ?_⟩) (by assumption) ?_
  rotate_left
  · (intro w hSw; (try dsimp only at hSw); go_simp; (try with_reducible rfl))
  simp only [Act.put, List.getElem_toArray, List.getElem_cons_zero, List.getElem_cons_succ, List.setIfInBounds_toArray, List.set_cons_zero, List.set_cons_succ]
  refine wpAnyH_ready (rs := [6]) (by kernel_rfl) (by simp) ?_
  refine AllReadyH.cons rfl (fun K hK => ?_) AllReadyH.nil
  refine step_append6 rfl _ _ rfl _ _ rfl rfl (hap _) ?_
  refine hK.out _ _ trivial (fun hHeld2 => ?_)
  clear hK K hHeld
  have hHeld := hHeld2; clear hHeld2
  refine wpAnyH_take (i := 7) (v := ?_) rfl (by kernel_rfl) (by kernel_rfl) (by kernel_rfl) (fun _ _ _ h => h) (Or.inl ⟨by rfl, ?_⟩) (by assumption) ?_
  rotate_left
  · (intro w hSw; (try dsimp only at hSw); go_simp; (try with_reducible rfl))
  simp only [Act.put, List.getElem_toArray, List.getElem_cons_zero, List.getElem_cons_succ, List.setIfInBounds_toArray, List.set_cons_zero, List.set_cons_succ]
  refine wpAnyH_done (by kernel_rfl) ?_ _
  refine NoPanic.normal ?_
  go_wp2_with fail
  go_ret
  exact ⟨_, rfl, HF.out, HG.out⟩
end Go.Proofs.Ytpnkkiokkhmjpaa

