/-
  What the laws' walks share: parts of slices of fields, and what they encode to.
-/
import Derived.Test.YtgadbfkldfhoaaaAwake2
import Derived.Test.YtgadbfkldfhoaaaThere
namespace Go.Proofs.Ytgadbfkldfhoaaa
open Go.RowKit

theorem tg_take (fs : List Fld) {i k : Nat} (h : i < k) : tg (fs.take k) i = tg fs i := by
  unfold tg; rw [List.getD_eq_getElem?_getD, List.getD_eq_getElem?_getD, List.getElem?_take_of_lt h]
theorem dt_take (fs : List Fld) {i k : Nat} (h : i < k) : dt (fs.take k) i = dt fs i := by
  unfold dt; rw [List.getD_eq_getElem?_getD, List.getD_eq_getElem?_getD, List.getElem?_take_of_lt h]
theorem tg_drop (fs : List Fld) (i k : Nat) : tg (fs.drop k) i = tg fs (k + i) := by
  unfold tg; rw [List.getD_eq_getElem?_getD, List.getD_eq_getElem?_getD, List.getElem?_drop]
theorem dt_drop (fs : List Fld) (i k : Nat) : dt (fs.drop k) i = dt fs (k + i) := by
  unfold dt; rw [List.getD_eq_getElem?_getD, List.getD_eq_getElem?_getD, List.getElem?_drop]
theorem IsFs.take {w : World} {A : Option Addr} {n : Nat} {fs : List Fld} (h : IsFs w A n fs) {k : Nat} (hk : k ≤ n) : IsFs w A k (fs.take k) := by
  obtain ⟨h1, h2, h3, h4⟩ := h
  refine ⟨by rw [List.length_take]; omega, by omega, fun f hf => h3 f (List.mem_of_mem_take hf), fun hp => ?_⟩
  obtain ⟨b, off, rfl, hb, hat⟩ := h4 (by omega)
  refine ⟨b, off, rfl, hb, fun i hi => ?_⟩
  rw [List.length_take] at hi
  rw [tg_take _ (by omega), dt_take _ (by omega)]
  exact hat i (by omega)
theorem slice_fs_from {w : World} {A : Option Addr} {n cap : Nat} {fs : List Fld} (h : IsFs w A n fs) {k : Nat} (hk : k ≤ n) (hc : n ≤ cap) :
    ∃ A', (∀ W, (Instr.slice 22 (.slice A n cap) (some (.int .i64 (k : Int))) none none).run Try.prog W = .ok (.slice A' (n - k) (cap - k)) W) ∧ IsFs w A' (n - k) (fs.drop k) := by
  obtain ⟨h1, h2, h3, h4⟩ := h
  refine ⟨if cap = k then A else A.map (·.add (k * 2)), fun W => ?_, by rw [List.length_drop]; omega, by omega, fun f hf => h3 f (List.mem_of_mem_drop hf), fun hp => ?_⟩
  · rw [run_slice_l W 22 A n cap Try.underlying22 .i64 (k : Int) (by omega) (by omega), show Try.prog.elem 22 = 43 from by kernel_rfl, Try.sizeOf43]
    rfl
  · rw [if_neg (by omega)]
    obtain ⟨b, off, rfl, hb, hat⟩ := h4 (by omega)
    rcases Nat.eq_zero_or_pos k with rfl | hk0
    · refine ⟨b, off, rfl, hb, fun i hi => ?_⟩
      rw [List.length_drop] at hi
      rw [tg_drop, dt_drop, Nat.zero_add]
      exact hat i (by omega)
    · refine ⟨b, off + k * 2, by simp [Addr.add]; omega, hb, fun i hi => ?_⟩
      rw [List.length_drop] at hi
      rw [tg_drop, dt_drop]
      have := hat (k + i) (by omega)
      rw [show off + (k + i) * 2 = off + k * 2 + i * 2 by omega] at this
      exact this
theorem isFs_none {w : World} {fs : List Fld} {A : Option Addr} (h : fs = []) : IsFs w A 0 fs := by subst h; exact isFs_nil w A
theorem right_take {fs : List Fld} (h : rightB fs = true) (k : Nat) : rightB (fs.take k) = true := by
  obtain ⟨h1, h2⟩ := right_chain.1 h
  have hs : fs = fs.take k ++ fs.drop k := (List.take_append_drop k fs).symm
  rw [hs] at h2
  exact right_chain.2 ⟨by rw [List.length_take]; omega, (chain_app.1 h2).1⟩
theorem right_drop {fs : List Fld} (h : rightB fs = true) (k : Nat) : rightB (fs.drop k) = true := by
  obtain ⟨h1, h2⟩ := right_chain.1 h
  have hs : fs = fs.take k ++ fs.drop k := (List.take_append_drop k fs).symm
  rw [hs] at h2
  obtain ⟨c1, c2⟩ := chain_app.1 h2
  exact right_chain.2 ⟨by rw [List.length_drop]; omega, chain_mono c2 (chain_last c1).1⟩
theorem encR_right {fs : List Fld} (h : rightB fs = true) (hl : (encL fs).length ≤ 10000) : encR fs = (encL fs, 0) := by unfold encR; rw [h, if_pos rfl, if_pos hl]
theorem encL_split (fs : List Fld) (k : Nat) : encL fs = encL (fs.take k) ++ encL (fs.drop k) := by rw [← encL_append, List.take_append_drop]
/-- A row of texts. -/
def RowS (w : World) (x k : Nat) : Prop := ∀ j, j < k → ∃ T : ByteArray, w.cell? ⟨x, j, none⟩ = some (.string T) ∧ T.size ≤ 140737488365000
theorem RowS.below {w w' : World} {x k : Nat} (h : RowS w x k) (hb : Below w.heap.size w w') : RowS w' x k := by
  intro j hj
  obtain ⟨T, hc, hs⟩ := h j hj
  exact ⟨T, (hb.cell (p := ⟨x, j, none⟩) (lt_of_cell (a := ⟨x, j, none⟩) hc)).trans hc, hs⟩

/-- A row of two slices of fields: the j-th reads as fields. -/
def TwoFs (w : World) (x : Nat) : Prop := ∀ j, j < 2 → ∃ A n cap fs, w.cell? ⟨x, j, none⟩ = some (.slice A n cap) ∧ n ≤ cap ∧ IsFs w A n fs
theorem TwoFs.below {w w' : World} {x : Nat} (h : TwoFs w x) (hb : Below w.heap.size w w') : TwoFs w' x := by
  intro j hj
  obtain ⟨A, n, cap, fs, hc, hn, hf⟩ := h j hj
  exact ⟨A, n, cap, fs, (hb.cell (p := ⟨x, j, none⟩) (lt_of_cell (a := ⟨x, j, none⟩) hc)).trans hc, hn, hf.below hb⟩
end Go.Proofs.Ytgadbfkldfhoaaa
