import Derived.Test.YtpnkkiokkhmjpaaTabs
import Derived.Test.YtpnkkiokkhmjpaaRecRefRight
import Derived.Test.YtpnkkiokkhmjpaaRecRefSame
/-
  The contracts of the document's own Check, Writes, at, Right, Same of tables (stage 12).
-/
namespace Go.Proofs.Ytpnkkiokkhmjpaa
open Go.RowKit
set_option linter.unusedVariables false
set_option linter.unusedSimpArgs false

set_option maxRecDepth 100000 in
set_option maxHeartbeats 4000000 in
theorem refwrites_any (o : OpR) (w : World) : Calls Try.prog 24 #[opV o] w fun e w' => e = .returned (.bool (writesO o)) ∧ Below w.heap.size w w' := by
  unfold opV
  have hbx := OpBlk.new w o
  have hb0 : Below w.heap.size w (w.alloc (.cells #[.int .i64 o.kind, .string o.key, .string o.value, .int .i64 o.rev, .string o.upto, .int .i64 o.life, .string o.note] 26)) := (Below.refl _ _).alloc (Nat.le_refl _) _
  obtain ⟨W0, hW0⟩ : ∃ W, w.alloc (.cells #[.int .i64 o.kind, .string o.key, .string o.value, .int .i64 o.rev, .string o.upto, .int .i64 o.life, .string o.note] 26) = W := ⟨_, rfl⟩
  rw [hW0] at hbx hb0
  obtain ⟨c0, c1, c2, c3, c4, c5, c6⟩ := hbx.cells
  have HB := Lib.hid hb0; clear hb0 hbx
  by_cases h1 : 2 ≤ o.kind
  · by_cases h2 : o.kind ≤ 5
    · have E : Hid (writesO o = true) := by show _ = _; unfold writesO; simp [h1, h2]
      go_enter Try.func24, Try.ntmps24
      go_wp2_with fail
      go_ret
      exact ⟨ret_bool E.out.symm, HB.out⟩
    · have E : Hid (writesO o = false) := by show _ = _; unfold writesO; simp [h2]
      go_enter Try.func24, Try.ntmps24
      go_wp2_with fail
      go_ret
      exact ⟨ret_bool E.out.symm, HB.out⟩
  · have E : Hid (writesO o = false) := by show _ = _; unfold writesO; simp [h1]
    go_enter Try.func24, Try.ntmps24
    go_wp2_with fail
    go_ret
    exact ⟨ret_bool E.out.symm, HB.out⟩

set_option maxRecDepth 100000 in
set_option maxHeartbeats 4000000 in
theorem refcheck_any (v : Int) (o : OpR) (w : World) : Calls Try.prog 14 #[.int .i64 v, opV o] w fun e w' => e = .returned (.int .i64 (checkO v o)) ∧ Below w.heap.size w w' := by
  have hbad : BadO v o → checkO v o = 1 := fun h => by unfold checkO; rw [if_pos h]
  have hgood : ¬ BadO v o → checkO v o = if v = 1 ∧ o.kind = 5 then 22 else 0 := fun h => by unfold checkO; rw [if_neg h]
  unfold BadO maxN at hbad hgood
  have HBAD := Lib.hid hbad; clear hbad
  have HGOOD := Lib.hid hgood; clear hgood
  unfold opV
  have hbx := OpBlk.new w o
  have hb0 : Below w.heap.size w (w.alloc (.cells #[.int .i64 o.kind, .string o.key, .string o.value, .int .i64 o.rev, .string o.upto, .int .i64 o.life, .string o.note] 26)) := (Below.refl _ _).alloc (Nat.le_refl _) _
  obtain ⟨W0, hW0⟩ : ∃ W, w.alloc (.cells #[.int .i64 o.kind, .string o.key, .string o.value, .int .i64 o.rev, .string o.upto, .int .i64 o.life, .string o.note] 26) = W := ⟨_, rfl⟩
  rw [hW0] at hbx hb0
  obtain ⟨c0, c1, c2, c3, c4, c5, c6⟩ := hbx.cells
  have HB := Lib.hid hb0; clear hb0 hbx
  by_cases hv : v = 1 ∨ v = 2
  rotate_left
  · have E : Hid (checkO v o = 1) := HBAD.out (.inl hv)
    have v1 : (v != 1) = true := by simp; omega
    have v2 : (v != 2) = true := by simp; omega
    clear hv
    go_enter Try.func14, Try.ntmps14
    go_wp2_with fail
    go_ret
    exact ⟨by rw [E.out]; rfl, HB.out⟩
  have HVV := Lib.hid hv
  have hv12 : (v != 1) = true ∧ (v != 2) = false ∨ (v != 1) = false := by
    rcases hv with rfl | rfl
    · exact .inr rfl
    · exact .inl ⟨rfl, rfl⟩
  have HV := Lib.hid hv12
  clear hv hv12
  by_cases k0 : o.kind < 1
  · have E : Hid (checkO v o = 1) := HBAD.out (.inr (.inl k0))
    rcases HV.out with ⟨e1, e2⟩ | e1 <;> (go_enter Try.func14, Try.ntmps14; go_wp2_with fail; go_ret; exact ⟨by rw [E.out]; rfl, HB.out⟩)
  by_cases k1 : 6 < o.kind
  · have E : Hid (checkO v o = 1) := HBAD.out (.inr (.inr (.inl k1)))
    rcases HV.out with ⟨e1, e2⟩ | e1 <;> (go_enter Try.func14, Try.ntmps14; go_wp2_with fail; go_ret; exact ⟨by rw [E.out]; rfl, HB.out⟩)
  by_cases k2 : 16 < o.key.size
  · have E : Hid (checkO v o = 1) := HBAD.out (.inr (.inr (.inr (.inl k2))))
    have i2 : (16 : Int) < (o.key.size : Int) := by omega
    rcases HV.out with ⟨e1, e2⟩ | e1 <;> (go_enter Try.func14, Try.ntmps14; go_wp2_with fail; go_ret; exact ⟨by rw [E.out]; rfl, HB.out⟩)
  have i2 : (o.key.size : Int) ≤ 16 := by omega
  by_cases k3 : o.key.size = 0 ∧ o.kind ≠ 6
  · have E : Hid (checkO v o = 1) := HBAD.out (.inr (.inr (.inr (.inr (.inl k3)))))
    have ke : o.key.toList = [] := (toList_size _).2 k3.1
    have kk : (o.kind != 6) = true := by simpa using k3.2
    clear k3
    rcases HV.out with ⟨e1, e2⟩ | e1 <;> (go_enter Try.func14, Try.ntmps14; go_wp2_with fail; go_ret; exact ⟨by rw [E.out]; rfl, HB.out⟩)
  have hke : (o.key.toList = [] ∧ (o.kind != 6) = false) ∨ (o.key.toList.isEmpty = false ∧ o.key.toList ≠ []) := by
    by_cases k : o.key.size = 0
    · exact .inl ⟨(toList_size _).2 k, by simp; exact Classical.byContradiction fun h => k3 ⟨k, h⟩⟩
    · exact .inr ⟨by rw [Bool.eq_false_iff]; intro h2; exact k ((toList_size _).1 (by simpa using h2)), fun h2 => k ((toList_size _).1 h2)⟩
  have HKE := Lib.hid hke; clear hke
  have HK3 := Lib.hid k3; clear k3
  go_enter Try.func14, Try.ntmps14
  go_upto_region 1 with fail
  go_cut [36] (fun s wx => s = .bool false ∧ wx = W0)
  case first =>
    rcases HV.out with ⟨e1, e2⟩ | e1 <;> rcases HKE.out with ⟨f1, f2⟩ | ⟨f1, f2⟩ <;> (go_wp2_with fail; go_meet; exact ⟨by first | rfl | exact congrArg Value.bool (decide_eq_false (by omega)), rfl⟩)
  obtain ⟨rfl, rfl⟩ := hcut
  by_cases k4 : 200 < o.value.size
  · have E : Hid (checkO v o = 1) := HBAD.out (.inr (.inr (.inr (.inr (.inr (.inl k4))))))
    have i4 : (200 : Int) < (o.value.size : Int) := by omega
    go_wp2_with fail
    go_ret
    exact ⟨by rw [E.out]; rfl, HB.out⟩
  have i4 : (o.value.size : Int) ≤ 200 := by omega
  by_cases k5 : 16 < o.upto.size
  · have E : Hid (checkO v o = 1) := HBAD.out (.inr (.inr (.inr (.inr (.inr (.inr (.inl k5)))))))
    have i5 : (16 : Int) < (o.upto.size : Int) := by omega
    go_wp2_with fail
    go_ret
    exact ⟨by rw [E.out]; rfl, HB.out⟩
  have i5 : (o.upto.size : Int) ≤ 16 := by omega
  by_cases k6 : 40 < o.note.size
  · have E : Hid (checkO v o = 1) := HBAD.out (.inr (.inr (.inr (.inr (.inr (.inr (.inr (.inl k6))))))))
    have i6 : (40 : Int) < (o.note.size : Int) := by omega
    go_wp2_with fail
    go_ret
    exact ⟨by rw [E.out]; rfl, HB.out⟩
  have i6 : (o.note.size : Int) ≤ 40 := by omega
  by_cases k7 : o.rev < 0
  · have E : Hid (checkO v o = 1) := HBAD.out (.inr (.inr (.inr (.inr (.inr (.inr (.inr (.inr (.inl k7)))))))))
    go_wp2_with fail
    go_ret
    exact ⟨by rw [E.out]; rfl, HB.out⟩
  by_cases k8 : 9007199254740992 < o.rev
  · have E : Hid (checkO v o = 1) := HBAD.out (.inr (.inr (.inr (.inr (.inr (.inr (.inr (.inr (.inr (.inl k8))))))))))
    go_wp2_with fail
    go_ret
    exact ⟨by rw [E.out]; rfl, HB.out⟩
  by_cases k9 : o.life < 0
  · have E : Hid (checkO v o = 1) := HBAD.out (.inr (.inr (.inr (.inr (.inr (.inr (.inr (.inr (.inr (.inr (.inl k9)))))))))))
    go_wp2_with fail
    go_ret
    exact ⟨by rw [E.out]; rfl, HB.out⟩
  by_cases k10 : 9007199254740992 < o.life
  · have E : Hid (checkO v o = 1) := HBAD.out (.inr (.inr (.inr (.inr (.inr (.inr (.inr (.inr (.inr (.inr (.inr (k10))))))))))))
    go_wp2_with fail
    go_ret
    exact ⟨by rw [E.out]; rfl, HB.out⟩
  have hg := HGOOD.out (by rintro (h | h | h | h | h | h | h | h | h | h | h | h) <;> first | exact h HVV.out | exact HK3.out h | omega)
  have HG := Lib.hid hg; clear hg
  by_cases k5 : o.kind = 5
  · have kk : (o.kind == 5) = true := by simpa using k5
    have hv := HVV.out
    by_cases v1 : v = 1
    · have E : Hid (checkO v o = 22) := by show _ = _; rw [HG.out]; simp [k5, v1]
      have vv : (v == 1) = true := by simpa using v1
      clear k5 v1 hv
      go_wp2_with fail
      go_ret
      exact ⟨by rw [E.out]; rfl, HB.out⟩
    · have E : Hid (checkO v o = 0) := by show _ = _; rw [HG.out]; simp [v1]
      have vv : (v == 1) = false := by simpa using v1
      clear k5 v1 hv
      go_wp2_with fail
      go_ret
      exact ⟨by rw [E.out]; rfl, HB.out⟩
  · have kk : (o.kind == 5) = false := by simpa using k5
    have hv := HVV.out
    by_cases v1 : v = 1
    · have E : Hid (checkO v o = 0) := by show _ = _; rw [HG.out]; simp [k5, v1]
      have vv : (v == 1) = true := by simpa using v1
      clear k5 v1 hv
      go_wp2_with fail
      go_ret
      exact ⟨by rw [E.out]; rfl, HB.out⟩
    · have E : Hid (checkO v o = 0) := by show _ = _; rw [HG.out]; simp [v1]
      have vv : (v == 1) = false := by simpa using v1
      clear k5 v1 hv
      go_wp2_with fail
      go_ret
      exact ⟨by rw [E.out]; rfl, HB.out⟩
end Go.Proofs.Ytpnkkiokkhmjpaa
