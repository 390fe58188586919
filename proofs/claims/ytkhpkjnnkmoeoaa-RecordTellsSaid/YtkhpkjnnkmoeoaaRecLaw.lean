/-
  What the walks of stage 3's laws share.
-/
import Derived.Test.YtkhpkjnnkmoeoaaRecMade
import Derived.Test.YtkhpkjnnkmoeoaaRecAwake
import Derived.Test.YtkhpkjnnkmoeoaaRecRefSame
import Derived.RegionTactic
import Derived.BigRegion
import Derived.IntWalk
namespace Go.Proofs.Ytkhpkjnnkmoeoaa
open Go.RowKit

theorem rcBlk_mk (w : World) (r : Rcd) (x : Value) : RcBlk (w.alloc (.cells #[.string r.key, .string r.value, .int .i64 r.rev, .int .i64 r.life, .string r.note, x] 24)) w.heap.size r x := World.alloc_heap_new w _
theorem RecNice.enc2 {v : Int} {r : Rcd} (h : RecNice v r) : (encL (fieldsR r)).length ≤ 4600 := by
  obtain ⟨hp, _, h3⟩ := h
  obtain ⟨hR, hl⟩ := right_fields hp
  have hlf := life_bd hp
  have hrv := hp.2.2.2.1
  have n1 := numD_size hrv.1 hrv.2
  have n2 := numD_size hlf.1 hlf.2.1
  have := enc_few (fieldsR r) (fun f hf => by
    constructor
    · obtain ⟨i, hi, rfl⟩ := List.mem_iff_getElem.1 hf
      have := (okAt_iff.1 ((rightB_iff.1 hR).2 i hi)).2.1
      rwa [tg_at hi] at this
    · rw [fieldsR_parts] at hf
      simp only [parts, List.mem_append, mem_opt] at hf
      rcases hf with ⟨h, _⟩ | ⟨h, _⟩ | ⟨h, _⟩ | ⟨h, _⟩ | ⟨h, _⟩ | h
      · have e := (ob_some h).1; rw [← e]; have := hp.2.1; omega
      · have e := (ob_some h).1; rw [← e]; have := hp.2.2.1; omega
      · have e := (ob_some h).1; rw [← e]; omega
      · have e := (ob_some h).1; rw [← e]; omega
      · have e := (ob_some h).1; rw [← e]; omega
      · exact h3 f h)
  omega
/-- A row of texts. -/
def RowS (w : World) (x k : Nat) : Prop := ∀ j, j < k → ∃ T : ByteArray, w.cell? ⟨x, j, none⟩ = some (.string T) ∧ T.size ≤ 140737488365000
theorem RowS.below {w w' : World} {x k : Nat} (h : RowS w x k) (hb : Below w.heap.size w w') : RowS w' x k := by
  intro j hj
  obtain ⟨T, hc, hs⟩ := h j hj
  exact ⟨T, (hb.cell (p := ⟨x, j, none⟩) (lt_of_cell (a := ⟨x, j, none⟩) hc)).trans hc, hs⟩
/-- What Decode answers at a text: an error and nothing else; or a record that may be, whose bytes the text is. -/
theorem forthR (v : Int) (X : ByteArray) (hX : X.size ≤ 140737488365000) :
    (∃ e : Nat, e ≠ 0 ∧ ∀ w, Calls Try.prog 18 #[.int .i64 v, .string X] w (RecLit ⟨#[]⟩ ⟨#[]⟩ 0 0 ⟨#[]⟩ [] e w)) ∨
    (∃ r : Rcd, rightR v r = true ∧ recE v r = (X.data.toList, 0) ∧ RcWf r ∧ ∀ w, Calls Try.prog 18 #[.int .i64 v, .string X] w (RecLit r.key r.value r.rev r.life r.note r.extra 0 w)) := by
  have hd := rDecode_any v X (by omega)
  by_cases he : (recD v X.data.toList).2 = 0
  · right
    have e1 : recD v X.data.toList = ((recD v X.data.toList).1, 0) := by rw [← he]
    obtain ⟨a, b, _⟩ := rec_forth e1
    have hp := rightR_iff.1 a
    have hl := life_bd hp
    refine ⟨(recD v X.data.toList).1, a, b, ⟨by have := hp.2.1; omega, by have := hp.2.2.1; omega, by omega⟩, fun w => (hd w).mono ?_⟩
    rintro e w' ⟨A, n, cap, rfl, h3, h4, _, h5⟩
    exact ⟨A, n, cap, by rw [he]; rfl, h4, h5⟩
  · left
    refine ⟨(recD v X.data.toList).2, he, fun w => (hd w).mono ?_⟩
    rintro e w' ⟨A, n, cap, rfl, h3, h4, _, h5⟩
    rw [recD_no he] at h4 ⊢
    exact ⟨A, n, cap, rfl, h4, h5⟩
end Go.Proofs.Ytkhpkjnnkmoeoaa
