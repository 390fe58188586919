import Derived.Test.YtljjbpgbddaekaaMailRef
/-
  The contracts of the document's own Same, Ints and For of mail (stage 11).
-/
namespace Go.Proofs.Ytljjbpgbddaekaa
open Go.RowKit
set_option linter.unusedVariables false

/-- Are two lists the same, letter by letter? -/
def sameL (a b : List Lt) : Bool := decide (a.length = b.length) && decide (∀ k, k < a.length → eqL (atL a k) (atL b k) = true)
theorem sameL_self (a : List Lt) : sameL a a = true := by unfold sameL; simp [eqL_self]
def sameI (a b : List Int) : Bool := decide (a.length = b.length) && decide (∀ k, k < a.length → a.getD k 0 = b.getD k 0)
theorem sameI_self (a : List Int) : sameI a a = true := by unfold sameI; simp

set_option maxRecDepth 100000 in
set_option maxHeartbeats 4000000 in
theorem refsameL_any (A B : Option Addr) (n m cap cap2 : Nat) (al bl : List Lt) (w : World) (ha : IsLs w A n al) (hb : IsLs w B m bl) :
    Calls Try.prog 13 #[.slice A n cap, .slice B m cap2] w fun e w' => e = .returned (.bool (sameL al bl)) ∧ Below w.heap.size w w' := by
  obtain ⟨R, hR⟩ : ∃ R, sameL al bl = R := ⟨_, rfl⟩
  rw [hR]
  unfold sameL at hR
  have HR := Lib.hid hR; clear hR
  have HA := Lib.hid ha; clear ha
  have HB := Lib.hid hb; clear hb
  have HLA : Hid (n = al.length) := HA.out.1
  have HLB : Hid (m = bl.length) := HB.out.1
  have hnm := HA.out.2.1
  unfold maxLen at hnm
  by_cases h3 : n = m
  · have e3 : ((n : Int) != (m : Int)) = false := by simp; omega
    have H3 := Lib.hid h3; clear h3
    go_enter Try.func13, Try.ntmps13
    go_wp2_with fail
    go_loopw [5] (fun i wr => ∃ k : Nat, k ≤ n ∧ i = .int .i64 k ∧ Hid (Below w.heap.size w wr) ∧ Hid (∀ j, j < k → eqL (atL al j) (atL bl j) = true)) (fun i _ => n - (intOf i).toNat)
    case atStart => exact ⟨0, by omega, rfl, Below.refl _ _, fun j hj => by omega⟩
    case round =>
      obtain ⟨k, hk, rfl, hbw, heq⟩ := hrel
      by_cases hlt : k < n
      · have hltm : k < m := by have := H3.out; omega
        obtain ⟨b1, o1, hA, hb1, hc1⟩ := HA.out.2.2.2 (by omega)
        obtain ⟨b2, o2, hB, hb2, hc2⟩ := HB.out.2.2.2 (by omega)
        subst hA hB
        have HKA : Hid (k < al.length) := by have := HLA.out; show k < al.length; omega
        have HKB : Hid (k < bl.length) := by have := HLB.out; show k < bl.length; omega
        obtain ⟨x0, x1, x2⟩ := hc1 k HKA.out
        obtain ⟨y0, y1, y2⟩ := hc2 k HKB.out
        have X0 := (hbw.out.cell (p := ⟨b1, o1 + k * 3, none⟩) hb1).trans x0
        have X1 := (hbw.out.cell (p := ⟨b1, o1 + k * 3 + 1, none⟩) hb1).trans x1
        have X2 := (hbw.out.cell (p := ⟨b1, o1 + k * 3 + 2, none⟩) hb1).trans x2
        have Y0 := (hbw.out.cell (p := ⟨b2, o2 + k * 3, none⟩) hb2).trans y0
        have Y1 := (hbw.out.cell (p := ⟨b2, o2 + k * 3 + 1, none⟩) hb2).trans y1
        have Y2 := (hbw.out.cell (p := ⟨b2, o2 + k * 3 + 2, none⟩) hb2).trans y2
        clear x0 x1 x2 y0 y1 y2
        clear hc1 hc2
        have HNE : Hid (¬ (eqL (atL al k) (atL bl k) = true) → R = false) := fun h => by
          rw [← HR.out]
          exact Bool.and_eq_false_iff.2 (.inr (decide_eq_false (fun h2 => h (h2 k HKA.out))))
        have HNX : Hid (eqL (atL al k) (atL bl k) = true → ∀ j, j < k + 1 → eqL (atL al j) (atL bl j) = true) := fun h j hj => by
          rcases Nat.lt_or_ge j k with h2 | h2
          · exact heq.out j h2
          · rw [show j = k by omega]; exact h
        generalize atL al k = p at *
        generalize atL bl k = q at *
        have eql := eqLt p q
        have grd := guardLt
        by_cases hpq : eqL p q = true
        · have e4 : eqL p q = true := hpq
          have HN2 := Lib.hid (HNX.out hpq)
          clear hpq HNX HNE
          go_wp2_with fail
          go_quiet (fail)
          go_wp2_with fail
          go_roundw
          case rel => exact ⟨k + 1, by omega, by go_num, bdn hbw.out _, HN2.out⟩
          case measure => simp [intOf]; omega
        · have e4 : eqL p q = false := by simpa using hpq
          have HE := Lib.hid (HNE.out hpq)
          clear hpq HNX HNE
          go_wp2_with fail
          go_quiet (fail)
          go_wp2_with fail
          go_ret
          exact ⟨ret_bool HE.out.symm, bdn hbw.out _⟩
      · have hke : n = k := by omega
        have HE : Hid (R = true) := by
          show _ = _
          rw [← HR.out, decide_eq_true (by have := HLA.out; have := HLB.out; have := H3.out; omega), decide_eq_true (fun j hj => heq.out j (by have := HLA.out; omega))]; rfl
        clear hke
        go_wp2_with fail
        go_ret
        exact ⟨ret_bool HE.out.symm, hbw.out⟩
  · have HE : Hid (R = false) := by
      show _ = _
      rw [← HR.out, decide_eq_false (by have := HLA.out; have := HLB.out; omega), Bool.false_and]
    have e3 : ((n : Int) != (m : Int)) = true := by simp; omega
    clear h3
    go_enter Try.func13, Try.ntmps13
    go_wp2_with fail
    go_ret
    exact ⟨ret_bool HE.out.symm, Below.refl _ _⟩

set_option maxRecDepth 100000 in
set_option maxHeartbeats 4000000 in
theorem refints_any (A B : Option Addr) (n m cap cap2 : Nat) (al bl : List Int) (w : World) (ha : IsNs w A n al) (hb : IsNs w B m bl) :
    Calls Try.prog 21 #[.slice A n cap, .slice B m cap2] w fun e w' => e = .returned (.bool (sameI al bl)) ∧ Below w.heap.size w w' := by
  obtain ⟨R, hR⟩ : ∃ R, sameI al bl = R := ⟨_, rfl⟩
  rw [hR]
  unfold sameI at hR
  have HR := Lib.hid hR; clear hR
  have HA := Lib.hid ha; clear ha
  have HB := Lib.hid hb; clear hb
  have HLA : Hid (n = al.length) := HA.out.1
  have HLB : Hid (m = bl.length) := HB.out.1
  have hnm := HA.out.2.1
  unfold maxLen at hnm
  by_cases h3 : n = m
  · have e3 : ((n : Int) != (m : Int)) = false := by simp; omega
    have H3 := Lib.hid h3; clear h3
    go_enter Try.func21, Try.ntmps21
    go_wp2_with fail
    go_loopw [5] (fun i wr => ∃ k : Nat, k ≤ n ∧ i = .int .i64 k ∧ Hid (Below w.heap.size w wr) ∧ Hid (∀ j, j < k → al.getD j 0 = bl.getD j 0)) (fun i _ => n - (intOf i).toNat)
    case atStart => exact ⟨0, by omega, rfl, Below.refl _ _, fun j hj => by omega⟩
    case round =>
      obtain ⟨k, hk, rfl, hbw, heq⟩ := hrel
      by_cases hlt : k < n
      · have hltm : k < m := by have := H3.out; omega
        obtain ⟨b1, o1, hA, hb1, hc1⟩ := HA.out.2.2.2 (by omega)
        obtain ⟨b2, o2, hB, hb2, hc2⟩ := HB.out.2.2.2 (by omega)
        subst hA hB
        have HKA : Hid (k < al.length) := by have := HLA.out; show k < al.length; omega
        have HKB : Hid (k < bl.length) := by have := HLB.out; show k < bl.length; omega
        have X0 := (hbw.out.cell (p := ⟨b1, o1 + k, none⟩) hb1).trans (hc1 k HKA.out)
        have Y0 := (hbw.out.cell (p := ⟨b2, o2 + k, none⟩) hb2).trans (hc2 k HKB.out)
        clear hc1 hc2
        have HNE : Hid (¬ (al.getD k 0 = bl.getD k 0) → R = false) := fun h => by
          rw [← HR.out]
          exact Bool.and_eq_false_iff.2 (.inr (decide_eq_false (fun h2 => h (h2 k HKA.out))))
        have HNX : Hid (al.getD k 0 = bl.getD k 0 → ∀ j, j < k + 1 → al.getD j 0 = bl.getD j 0) := fun h j hj => by
          rcases Nat.lt_or_ge j k with h2 | h2
          · exact heq.out j h2
          · rw [show j = k by omega]; exact h
        generalize al.getD k 0 = p at *
        generalize bl.getD k 0 = q at *
        by_cases hpq : p = q
        · have e4 : (p != q) = false := by simpa using hpq
          have HN2 := Lib.hid (HNX.out hpq)
          clear hpq HNX HNE
          go_wp2_with fail
          go_quiet (fail)
          go_wp2_with fail
          go_roundw
          case rel => exact ⟨k + 1, by omega, by go_num, bdn hbw.out _, HN2.out⟩
          case measure => simp [intOf]; omega
        · have e4 : (p != q) = true := by simpa using hpq
          have HE := Lib.hid (HNE.out hpq)
          clear hpq HNX HNE
          go_wp2_with fail
          go_quiet (fail)
          go_wp2_with fail
          go_ret
          exact ⟨ret_bool HE.out.symm, bdn hbw.out _⟩
      · have hke : n = k := by omega
        have HE : Hid (R = true) := by
          show _ = _
          rw [← HR.out, decide_eq_true (by have := HLA.out; have := HLB.out; have := H3.out; omega), decide_eq_true (fun j hj => heq.out j (by have := HLA.out; omega))]; rfl
        clear hke
        go_wp2_with fail
        go_ret
        exact ⟨ret_bool HE.out.symm, hbw.out⟩
  · have HE : Hid (R = false) := by
      show _ = _
      rw [← HR.out, decide_eq_false (by have := HLA.out; have := HLB.out; omega), Bool.false_and]
    have e3 : ((n : Int) != (m : Int)) = true := by simp; omega
    clear h3
    go_enter Try.func21, Try.ntmps21
    go_wp2_with fail
    go_ret
    exact ⟨ret_bool HE.out.symm, Below.refl _ _⟩

set_option maxRecDepth 100000 in
set_option maxHeartbeats 4000000 in
theorem reffor_any (l : List Lt) (t : Int) (A : Option Addr) (n cap : Nat) (w : World) (h : IsLs w A n l) (h32 : n * 32 ≤ 140737488351232) :
    Calls Try.prog 23 #[.slice A n cap, .int .i64 t] w (NsPost w (forL l t)) := by
  have HF : Hid (forK l t l.length = forL l t) := rfl
  have HN : Hid (n = l.length) := h.1
  have HC := Lib.hid h; clear h
  go_enter Try.func23, Try.ntmps23
  go_wp2_with fail
  go_loopw [5, 6] (fun v i wy => ∃ (k : Nat) (wr : World), wr = wy ∧ k ≤ n ∧ i = .int .i64 k ∧ RowI wr w.heap.size v (forK l t k) ∧ Below w.heap.size w wr) (fun _ i _ => n - (intOf i).toNat)
  case atStart => exact ⟨0, _, rfl, by omega, rfl, rowI_nil _ _, Below.refl _ _⟩
  case round =>
    obtain ⟨k, wr, rfl, hk, rfl, hrow, hb⟩ := hrel
    have hwf : IntsWf (forK l t k) := fun z hz => by have := for_bound l t k z hz; exact wf_within (by omega) (by omega)
    obtain ⟨Av, cv, hv, hcv, hnv⟩ := hrow.isNs hwf
    subst hv
    have hfl := for_len l t k
    have HB := Lib.hid hb; clear hb
    have hsz : w.heap.size ≤ wr.heap.size := HB.out.size
    by_cases hlt : k < n
    · obtain ⟨b, off, hA, hbb, hc⟩ := HC.out.2.2.2 (by omega)
      subst hA
      have HK : Hid (k < l.length) := by have := HN.out; show k < l.length; omega
      have x1 := (HB.out.cell (p := ⟨b, off + k * 3 + 1, none⟩) hbb).trans (hc k HK.out).2.1
      clear hc
      have HS : Hid (forK l t (k + 1) = forK l t k ++ (if (atL l k).to = t then [(k : Int)] else [])) := rfl
      generalize (atL l k).to = z at *
      by_cases hz : z = t
      · have HS2 : Hid (forK l t (k + 1) = forK l t k ++ [(k : Int)]) := by show _ = _; rw [HS.out, if_pos hz]
        have ez : (z == t) = true := by simpa using hz
        have hone := isNs_one wr (k : Int) (wf_within (by omega) (by omega)) 3
        have hb3a : Below wr.heap.size wr (wr.alloc (.cells #[.int .i64 (k : Int)] 3)) := (Below.refl _ _).alloc (Nat.le_refl _) _
        have hrowa := hrow.below hb3a
        have HBa := Lib.hid (bch HB.out hb3a)
        have hsa : w.heap.size ≤ (wr.alloc (.cells #[.int .i64 (k : Int)] 3)).heap.size := by simp; omega
        have HFL := Lib.hid hfl
        clear hz HS hrow hb3a hnv hfl
        go_wp2_with (at_builtin; refine wpList_append_ints rfl _ _ rfl w.heap.size _ (forK l t k) rfl hrowa (some ⟨wr.heap.size, 0, none⟩) 1 1 [(k : Int)] rfl hone (by have := HFL.out; omega) hsa ?_)
        intro v4 W4 hrow4 hgrow4
        have hlt4 := hrowa.lt
        have hb4 : Below w.heap.size w W4 := HBa.out.grown hgrow4 HBa.out.size (fun g hg => (hlt4 g hg).1)
        rw [← HS2.out] at hrow4
        have HR4 := Lib.hid hrow4
        have HB4 := Lib.hid hb4
        clear hrow4 hgrow4 hlt4 hrowa hone hb4
        go_wp2_with fail
        go_roundw
        case rel => exact ⟨k + 1, _, rfl, by omega, by go_num, HR4.out, HB4.out⟩
        case measure => simp [intOf]; omega
      · have HS2 : Hid (forK l t (k + 1) = forK l t k) := by show _ = _; rw [HS.out, if_neg hz, List.append_nil]
        have ez : (z == t) = false := by simpa using hz
        have HR := Lib.hid hrow
        clear hz HS hrow hnv
        go_wp2_with fail
        go_roundw
        case rel => exact ⟨k + 1, _, rfl, by omega, by go_num, by rw [HS2.out]; exact HR.out, HB.out⟩
        case measure => simp [intOf]; omega
    · have hke : k = n := by omega
      have HF2 : Hid (forK l t k = forL l t) := by show _ = _; rw [hke, HN.out]; exact HF.out
      have HNV := Lib.hid hnv
      have HNW := Lib.hid hrow.new
      clear hrow hnv hke
      rw [HF2.out] at hcv HNV HNW ⊢
      go_wp2_with fail
      go_ret
      exact ⟨Av, _, cv, rfl, hcv, HNV.out, HNW.out, HB.out⟩
end Go.Proofs.Ytljjbpgbddaekaa
