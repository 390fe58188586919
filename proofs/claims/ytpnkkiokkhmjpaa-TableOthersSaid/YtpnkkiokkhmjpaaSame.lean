import Derived.Test.YtpnkkiokkhmjpaaFs
import Derived.Laws.StructEq
/-
  The contract of the document's Same: are the fields the same?
-/
namespace Go.Proofs.Ytpnkkiokkhmjpaa
open Go.RowKit

theorem ba_ext {a b : ByteArray} (h : a.toList = b.toList) : a = b := by
  have e : ∀ s : ByteArray, s.toList = s.data.toList := fun s => by rw [bs_of s, bs_toList]; simp [bs]
  rw [e, e] at h
  cases a; cases b
  simp only [ByteArray.mk.injEq]
  exact Array.ext' h
/-- Are two lists of fields the same? -/
def sameB (a b : List Fld) : Bool := a.length == b.length && (List.range a.length).all fun i => tg a i == tg b i && (dt a i).toList == (dt b i).toList
theorem sameB_iff {a b : List Fld} : sameB a b = true ↔ a = b := by
  unfold sameB
  constructor
  · intro h
    simp only [Bool.and_eq_true, beq_iff_eq, List.all_eq_true, List.mem_range] at h
    obtain ⟨h1, h2⟩ := h
    refine List.ext_getElem h1 fun i hi hj => ?_
    obtain ⟨e1, e2⟩ := h2 i hi
    rw [fld_at hi, fld_at hj, e1, ba_ext e2]
  · rintro rfl; simp
theorem sameB_self (a : List Fld) : sameB a a = true := sameB_iff.2 rfl
theorem sameB_no_len {a b : List Fld} (h : a.length ≠ b.length) : sameB a b = false := by
  cases hr : sameB a b with
  | false => rfl
  | true => rw [sameB_iff.1 hr] at h; exact absurd rfl h
theorem sameB_no_at {a b : List Fld} {i : Nat} (h : tg a i ≠ tg b i ∨ (dt a i).toList ≠ (dt b i).toList) : sameB a b = false := by
  cases hr : sameB a b with
  | false => rfl
  | true => rw [sameB_iff.1 hr] at h; simp at h
theorem sameB_yes {a b : List Fld} (h1 : a.length = b.length) (h2 : ∀ i, i < a.length → tg a i = tg b i ∧ (dt a i).toList = (dt b i).toList) : sameB a b = true := by
  unfold sameB; simp only [Bool.and_eq_true, beq_iff_eq, List.all_eq_true, List.mem_range]; exact ⟨h1, h2⟩

theorem eqFld (a c : Int) (b d : ByteArray) (w : World) : (Op.equalIn 10000 57 (.agg #[.int .i64 a, .string b]) (.agg #[.int .i64 c, .string d])).run Try.prog w = .ok (a == c && b.toList == d.toList) w := by
  have u3 := Try.underlying3
  have a3 := Try.isAgg3
  have z3 := Try.sizeOf3
  have u9 := Try.underlying9
  have a9 := Try.isAgg9
  have z9 := Try.sizeOf9
  have hS : Try.prog.underlying 57 = some (.struct (Try.prog.fieldsOf 57)) := by kernel_rfl
  have hp : Try.prog.stoodInHeld 57 = false := by kernel_rfl
  rw [show (10000 : Nat) = 9999 + 1 from rfl, run_equalIn_agg w 9999 57 _ _ hS hp]
  simp only [Program.fieldsOf, Try.underlying57]
  go_simp
  by_cases h1 : a = c <;> by_cases h2 : b.toList = d.toList <;> simp [h1, h2]
theorem guardFld : Try.prog.eqGuardType Try.prog.depth 57 = false := by kernel_rfl

set_option maxRecDepth 100000 in
set_option maxHeartbeats 4000000 in
theorem same_any (A B : Option Addr) (n m cap cap2 : Nat) (fs gs : List Fld) (w : World) (h : IsFs w A n fs) (h2 : IsFs w B m gs) :
    Calls Try.prog 41 #[.slice A n cap, .slice B m cap2] w fun e w' => e = .returned (.bool (sameB fs gs)) ∧ Below w.heap.size w w' := by
  obtain ⟨hn, hm, _, hc⟩ := h
  obtain ⟨hn2, hm2, _, hc2⟩ := h2
  unfold maxLen at hm hm2
  have HN := Lib.hid hn; clear hn
  have HC := Lib.hid hc; clear hc
  have HN2 := Lib.hid hn2; clear hn2
  have HC2 := Lib.hid hc2; clear hc2
  by_cases hnm : n = m
  · subst hnm
    go_enter Try.func41, Try.ntmps41
    go_wp2_with fail
    go_loopw [5] (fun i wr => ∃ k : Nat, k ≤ n ∧ i = .int .i64 k ∧ Hid (∀ j, j < k → tg fs j = tg gs j ∧ (dt fs j).toList = (dt gs j).toList) ∧ Below w.heap.size w wr) (fun i _ => n - (intOf i).toNat)
    case atStart => exact ⟨0, by omega, rfl, fun j hj => by omega, Below.refl _ _⟩
    case round =>
      obtain ⟨k, hk, rfl, hno, hbw⟩ := hrel
      by_cases hlt : k < n
      · obtain ⟨b, off, hA, hb, hat⟩ := HC.out (by omega)
        subst hA
        obtain ⟨b2, off2, hA2, hb2, hat2⟩ := HC2.out (by omega)
        subst hA2
        have HK : Hid (k < fs.length) := by have := HN.out; show k < fs.length; omega
        obtain ⟨c1, c2⟩ : wr.cell? ⟨b, off + k * 2, none⟩ = some (.int .i64 (tg fs k)) ∧ wr.cell? ⟨b, off + k * 2 + 1, none⟩ = some (.string (dt fs k)) := by
          have h := hat k HK.out
          exact ⟨(hbw.cell (p := ⟨b, off + k * 2, none⟩) hb).trans h.1, (hbw.cell (p := ⟨b, off + k * 2 + 1, none⟩) hb).trans h.2⟩
        obtain ⟨c3, c4⟩ : wr.cell? ⟨b2, off2 + k * 2, none⟩ = some (.int .i64 (tg gs k)) ∧ wr.cell? ⟨b2, off2 + k * 2 + 1, none⟩ = some (.string (dt gs k)) := by
          have h := hat2 k (by have := HN2.out; omega)
          exact ⟨(hbw.cell (p := ⟨b2, off2 + k * 2, none⟩) hb2).trans h.1, (hbw.cell (p := ⟨b2, off2 + k * 2 + 1, none⟩) hb2).trans h.2⟩
        clear hat hat2
        have hb0 : (0 : Int) ≤ (k : Int) := by omega
        have hb1 : (k : Int) < (n : Int) := by omega
        have hgu := guardFld
        have heq := eqFld (tg fs k) (tg gs k) (dt fs k) (dt gs k)
        by_cases he : tg fs k = tg gs k ∧ (dt fs k).toList = (dt gs k).toList
        · have hE : (tg fs k == tg gs k && (dt fs k).toList == (dt gs k).toList) = true := by simp [he.1, he.2]
          rw [hE] at heq
          have HE := Lib.hid he; clear he hE
          go_wp2_with fail
          go_quiet (fail)
          go_wp2
          go_roundw
          case rel => exact ⟨k + 1, by omega, by go_num, fun j hj => by rcases Nat.lt_or_ge j k with h | h; exact hno.out j h; rw [show j = k by omega]; exact HE.out, bdn hbw _⟩
          case measure => simp [intOf]; omega
        · have hE : (tg fs k == tg gs k && (dt fs k).toList == (dt gs k).toList) = false := by simpa using he
          have HR : Hid (sameB fs gs = false) := sameB_no_at (i := k) (by by_cases h : tg fs k = tg gs k; exact .inr (fun h3 => he ⟨h, h3⟩); exact .inl h)
          rw [hE] at heq
          clear he hE
          go_wp2_with fail
          go_quiet (fail)
          go_wp2
          go_ret
          exact ⟨ret_bool HR.out.symm, bdn hbw _⟩
      · have hkn : n = k := by omega
        subst hkn
        have HR : Hid (sameB fs gs = true) := sameB_yes (by have := HN.out; have := HN2.out; omega) (by have := HN.out; rw [← this]; exact hno.out)
        go_wp2_with fail
        go_ret
        exact ⟨ret_bool HR.out.symm, hbw⟩
  · have HR : Hid (sameB fs gs = false) := sameB_no_len (by have := HN.out; have := HN2.out; omega)
    have hd : ((n : Int) == (m : Int)) = false := by simp; omega
    go_enter Try.func41, Try.ntmps41
    go_wp2_with fail
    go_ret
    exact ⟨ret_bool HR.out.symm, Below.refl _ _⟩
end Go.Proofs.Ytpnkkiokkhmjpaa
