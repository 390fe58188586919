import Derived.Test.YtgckoihangccbaaTabs
import Derived.Maps.AppendAt
import Derived.OwnWalk
import Derived.WalkMore
/-
  Rows of texts of a call's own: a reply's keys (stage 12).
-/
namespace Go.Proofs.Ytgckoihangccbaa
open Go.RowKit
set_option linter.unusedVariables false

def cellsK (l : List ByteArray) : List Value := l.map Value.string
theorem cellsK_append (a b : List ByteArray) : cellsK (a ++ b) = cellsK a ++ cellsK b := by simp [cellsK]
theorem cellsK_len (l : List ByteArray) : (cellsK l).length = l.length := by simp [cellsK]
theorem cellsK_one (l : List ByteArray) : ∀ u ∈ cellsK l, u.oneCell' = true := by
  intro u hu
  unfold cellsK at hu
  obtain ⟨s, _, rfl⟩ := List.mem_map.1 hu
  rfl
theorem cellsK_at (l : List ByteArray) (i : Nat) (h : i < l.length) : (cellsK l)[i]? = some (.string (l.getD i ByteArray.empty)) := by
  unfold cellsK
  rw [List.getElem?_map, List.getElem?_eq_getElem h, List.getD_eq_getElem?_getD, List.getElem?_eq_getElem h]; rfl
def RowK (w : World) (base : Nat) (v : Value) (l : List ByteArray) : Prop := w.ownsRow base 9 1 v l.length (cellsK l)
theorem rowK_nil (w : World) (base : Nat) : RowK w base (.slice none 0 0) [] := World.ownsRow_nil _ _ _ _
theorem RowK.below {w w' : World} {base : Nat} {v : Value} {l : List ByteArray} (h : RowK w base v l) (hb : Below w.heap.size w w') : RowK w' base v l := ownsI_below h hb
theorem RowK.new {w : World} {base n cap : Nat} {A : Option Addr} {l : List ByteArray} (h : RowK w base (.slice A n cap) l) : NewN base A n := fun _ b off hA => by
  subst hA
  exact (h.lt b rfl).1
theorem RowK.isSs {w : World} {base : Nat} {v : Value} {l : List ByteArray} (h : RowK w base v l) (hwf : ∀ s ∈ l, s.size ≤ maxLen) :
    ∃ A cap, v = .slice A l.length cap ∧ l.length ≤ cap ∧ IsSs w A l.length l := by
  rcases h.2 with ⟨rfl, hv⟩ | ⟨g, cap, cur, hv, hg, hh, hnc, hcm, hcs, htk⟩
  · have : l.length = 0 := by omega
    exact ⟨none, 0, by simp_all, by omega, rfl, by unfold maxLen; omega, hwf, fun h => by omega⟩
  · subst hv
    refine ⟨_, cap, rfl, hnc, rfl, Nat.le_trans hnc hcm, hwf, fun _ => ⟨g, 0, rfl, lt_of_blk hh, fun i hi => ?_⟩⟩
    have c1 := h.cellAt i (by omega)
    rw [cellsK_at l i hi] at c1
    rw [Nat.zero_add]
    exact c1
theorem infoStr : (Try.prog.info? 9).map (fun i => (i.zero, i.size, i.bytes)) = some (some (.string ⟨#[]⟩), 1, 16) := by kernel_rfl
theorem strs_cells {w : World} {b off : Nat} {l : List ByteArray} (h : ∀ i, i < l.length → w.cell? ⟨b, off + i, none⟩ = some (.string (l.getD i ByteArray.empty))) : ∀ j u, (cellsK l)[j]? = some u → w.cell? ((⟨b, off, none⟩ : Addr).add j) = some u := by
  intro j u hj
  have hl : j < l.length := by rw [← cellsK_len]; exact (List.getElem?_eq_some_iff.1 hj).1
  have e : ((⟨b, off, none⟩ : Addr).add j) = ⟨b, off + j, none⟩ := by
    by_cases h0 : j = 0
    · subst h0; simp [Addr.add]
    · simp [Addr.add, h0]
  rw [e, h j hl, ← cellsK_at l j hl, hj]
theorem own_formK {w : World} {base : Nat} {v : Value} {l : List ByteArray} (h : RowK w base v l) : ∃ A cap, v = .slice A l.length cap := by
  rcases h.2 with ⟨h1, h2⟩ | ⟨g, cap, cur, h1, _⟩
  · exact ⟨none, 0, by rw [h1, h2]⟩
  · exact ⟨_, cap, h1⟩
/-- 'append(l, s)' in a region that draws, l the call's own. -/
theorem step_append_ss {w : World} {ops : Array Oper} {o : Oper} {a : Act} {K : Act → World → Prop} {Q : Exit → Act → World → Prop} {E : Prop} (hgd : o.guard = none) (s x : Operand)
    (ho : o.op = .call { callee := .builtin .append, args := #[s, x], argTypes := #[29, 29] })
    (base : Nat) (v : Value) (l : List ByteArray) (hs : a.eval s = v) (hown : RowK w base v l)
    (b c : Nat) (k : ByteArray) (hx : a.eval x = .slice (some ⟨b, 0, none⟩) 1 c) (hf : w.cell? ⟨b, 0, none⟩ = some (.string k))
    (h63 : l.length ≤ 1000) (hbase : base ≤ w.heap.size)
    (h : ∀ A2 cap2 w', RowK w' base (.slice A2 (l.length + 1) cap2) (l ++ [k]) → w.grownBy w' v.ownBlock → K (a.put o.dst (.slice A2 (l.length + 1) cap2)) w') :
    if Region.wanted o (yielded ops a.tmps) = true then Oper.wp Try.prog o a w K Q else E := by
  obtain ⟨i0, hi, hz0, hz1, hz2⟩ := info_parts infoStr
  have hw : Region.wanted o (yielded ops a.tmps) = true := by simp [Region.wanted, hgd]
  rw [if_pos hw]
  have hat : ∀ i, i < [k].length → w.cell? ⟨b, 0 + i, none⟩ = some (.string ([k].getD i ByteArray.empty)) := fun i hi => by
    have : i = 0 := by simpa using hi
    subst this; exact hf
  obtain ⟨v', w', hr, h2, h3, h4, h5⟩ := run_append_own_at (P := Try.prog) w base 29 o.type 9 i0 (.string ⟨#[]⟩) 1 16 Try.underlying29 hi hz0 hz1 hz2 rfl (by decide) v l.length _ hown ⟨b, 0, none⟩ 1 c (cellsK [k]) (by simp [cellsK]) (strs_cells hat) (cellsK_one [k]) (by unfold maxLen; omega) (by omega) hbase
  have h2' : RowK w' base v' (l ++ [k]) := by
    unfold RowK
    rw [cellsK_append, List.length_append]; exact h2
  obtain ⟨A2, cap2, hv2⟩ := own_formK h2'
  rw [List.length_append, List.length_singleton] at hv2
  subst hv2
  unfold Oper.wp execOp
  simp only [ho, resolve, invoke, builtin, Sem.run_bind, Sem.run_pure, Result.andThen_ok, List.map_toArray, List.map_cons, List.map_nil, hs, hx, hr]
  exact h _ _ w' h2' h3
end Go.Proofs.Ytgckoihangccbaa
