import Derived.Test.YtgckoihangccbaaRecRight
import Derived.Test.YtgckoihangccbaaSame
/-
  The contracts of record.Same and of the document's own: are two records the same?
-/
namespace Go.Proofs.Ytgckoihangccbaa
open Go.RowKit

theorem ba_iff {a b : ByteArray} : a.toList = b.toList ↔ a = b := ⟨ba_ext, fun h => by rw [h]⟩
/-- Are two records the same? -/
def sameR (a b : Rcd) : Bool := (a.key.toList == b.key.toList) && (a.value.toList == b.value.toList) && (a.rev == b.rev) && (a.life == b.life) && (a.note.toList == b.note.toList) && sameB a.extra b.extra
theorem sameR_iff {a b : Rcd} : sameR a b = true ↔ a = b := by
  obtain ⟨a1, a2, a3, a4, a5, a6⟩ := a
  obtain ⟨b1, b2, b3, b4, b5, b6⟩ := b
  unfold sameR
  simp only [Bool.and_eq_true, beq_iff_eq, ba_iff, sameB_iff, Rcd.mk.injEq]
  constructor
  · rintro ⟨⟨⟨⟨⟨h1, h2⟩, h3⟩, h4⟩, h5⟩, h6⟩; exact ⟨h1, h2, h3, h4, h5, h6⟩
  · rintro ⟨h1, h2, h3, h4, h5, h6⟩; exact ⟨⟨⟨⟨⟨h1, h2⟩, h3⟩, h4⟩, h5⟩, h6⟩
theorem sameR_self (a : Rcd) : sameR a a = true := sameR_iff.2 rfl
theorem sameR_no {a b : Rcd} (h : a ≠ b) : sameR a b = false := by rw [Bool.eq_false_iff]; exact fun h2 => h (sameR_iff.1 h2)
theorem sameR_comm (a b : Rcd) : sameR a b = sameR b a := by
  rw [Bool.eq_iff_iff, sameR_iff, sameR_iff]; exact ⟨Eq.symm, Eq.symm⟩

end Go.Proofs.Ytgckoihangccbaa
