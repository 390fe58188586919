import Derived.Test.YtkcmjhpbjgjebaaRecMade
import Derived.Test.YtkcmjhpbjgjebaaRecAwake
import Derived.Test.YtkcmjhpbjgjebaaRecRefSame
import Derived.RegionTactic
import Derived.BigRegion
import Derived.IntWalk
/-
  What the walks of stage 3's laws share.
-/
namespace Go.Proofs.Ytkcmjhpbjgjebaa
open Go.RowKit

theorem rcBlk_mk (w : World) (r : Rcd) (x : Value) : RcBlk (w.alloc (.cells #[.string r.key, .string r.value, .int .i64 r.rev, .int .i64 r.life, .string r.note, x] 24)) w.heap.size r x := World.alloc_heap_new w _
theorem RecNice.enc2 {v : Int} {r : Rcd} (h : RecNice v r) : (encL (fieldsR r)).length ≤ 4600 := by
  obtain ⟨hp, _, h3⟩ := h
  obtain ⟨hR, hl⟩ := right_fields hp
  have hlf := life_bd hp
  have hrv := hp.2.2.2.1
  have n1 := numD_size hrv.1 hrv.2
  have n2 := numD_size hlf.1 hlf.2.1
  have := enc_few (fieldsR r) (fun f hf => by
    constructor
    · obtain ⟨i, hi, rfl⟩ := List.mem_iff_getElem.1 hf
      have := (okAt_iff.1 ((rightB_iff.1 hR).2 i hi)).2.1
      rwa [tg_at hi] at this
    · rw [fieldsR_parts] at hf
      simp only [parts, List.mem_append, mem_opt] at hf
      rcases hf with ⟨h, _⟩ | ⟨h, _⟩ | ⟨h, _⟩ | ⟨h, _⟩ | ⟨h, _⟩ | h
      · have e := (ob_some h).1; rw [← e]; have := hp.2.1; omega
      · have e := (ob_some h).1; rw [← e]; have := hp.2.2.1; omega
      · have e := (ob_some h).1; rw [← e]; omega
      · have e := (ob_some h).1; rw [← e]; omega
      · have e := (ob_some h).1; rw [← e]; omega
      · exact h3 f h)
  omega
/-- A row of texts. -/
def RowS (w : World) (x k : Nat) : Prop := ∀ j, j < k → ∃ T : ByteArray, w.cell? ⟨x, j, none⟩ = some (.string T) ∧ T.size ≤ 140737488365000
theorem RowS.below {w w' : World} {x k : Nat} (h : RowS w x k) (hb : Below w.heap.size w w') : RowS w' x k := by
  intro j hj
  obtain ⟨T, hc, hs⟩ := h j hj
  exact ⟨T, (hb.cell (p := ⟨x, j, none⟩) (lt_of_cell (a := ⟨x, j, none⟩) hc)).trans hc, hs⟩
end Go.Proofs.Ytkcmjhpbjgjebaa
