import Derived.Test.YtgckoihangccbaaFs
import Derived.Laws.StructEq
/-
  The contract of the document's Same: are the fields the same?
-/
namespace Go.Proofs.Ytgckoihangccbaa
open Go.RowKit

theorem ba_ext {a b : ByteArray} (h : a.toList = b.toList) : a = b := by
  have e : ∀ s : ByteArray, s.toList = s.data.toList := fun s => by rw [bs_of s, bs_toList]; simp [bs]
  rw [e, e] at h
  cases a; cases b
  simp only [ByteArray.mk.injEq]
  exact Array.ext' h
/-- Are two lists of fields the same? -/
def sameB (a b : List Fld) : Bool := a.length == b.length && (List.range a.length).all fun i => tg a i == tg b i && (dt a i).toList == (dt b i).toList
theorem sameB_iff {a b : List Fld} : sameB a b = true ↔ a = b := by
  unfold sameB
  constructor
  · intro h
    simp only [Bool.and_eq_true, beq_iff_eq, List.all_eq_true, List.mem_range] at h
    obtain ⟨h1, h2⟩ := h
    refine List.ext_getElem h1 fun i hi hj => ?_
    obtain ⟨e1, e2⟩ := h2 i hi
    rw [fld_at hi, fld_at hj, e1, ba_ext e2]
  · rintro rfl; simp
theorem sameB_self (a : List Fld) : sameB a a = true := sameB_iff.2 rfl
theorem sameB_no_len {a b : List Fld} (h : a.length ≠ b.length) : sameB a b = false := by
  cases hr : sameB a b with
  | false => rfl
  | true => rw [sameB_iff.1 hr] at h; exact absurd rfl h
theorem sameB_no_at {a b : List Fld} {i : Nat} (h : tg a i ≠ tg b i ∨ (dt a i).toList ≠ (dt b i).toList) : sameB a b = false := by
  cases hr : sameB a b with
  | false => rfl
  | true => rw [sameB_iff.1 hr] at h; simp at h
theorem sameB_yes {a b : List Fld} (h1 : a.length = b.length) (h2 : ∀ i, i < a.length → tg a i = tg b i ∧ (dt a i).toList = (dt b i).toList) : sameB a b = true := by
  unfold sameB; simp only [Bool.and_eq_true, beq_iff_eq, List.all_eq_true, List.mem_range]; exact ⟨h1, h2⟩

end Go.Proofs.Ytgckoihangccbaa
