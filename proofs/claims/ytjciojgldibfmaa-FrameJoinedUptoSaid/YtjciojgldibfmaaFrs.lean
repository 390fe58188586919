import Derived.Test.YtjciojgldibfmaaFs
import Derived.Test.YtjciojgldibfmaaGMath
import Derived.Maps.AppendAt
import Derived.OwnWalk
import Derived.WalkMore
import Derived.Laws.StructEq
/-
  Frames in memory: a slice of frames read as a list of these; rows of frames of a call's own; the document's Same.
-/
namespace Go.Proofs.Ytjciojgldibfmaa
open Go.RowKit

def kd (fs : List Frm) (i : Nat) : Int := (fs.getD i zeroF).kind
def fl (fs : List Frm) (i : Nat) : Int := (fs.getD i zeroF).flags
def da (fs : List Frm) (i : Nat) : ByteArray := (fs.getD i zeroF).data
/-- A frame as a value. -/
def frV (f : Frm) : Value := .agg #[.int .i64 f.kind, .int .i64 f.flags, .string f.data]
def FrWf (f : Frm) : Prop := (Lit.int .i64 f.kind).wf = true ∧ (Lit.int .i64 f.flags).wf = true ∧ f.data.size ≤ 9223372036854775807
/-- From address ⟨b, off⟩ on lie the frames 'fs'. -/
def FrAt (w : World) (b off : Nat) (fs : List Frm) : Prop :=
  ∀ i, i < fs.length → w.cell? ⟨b, off + i * 3, none⟩ = some (.int .i64 (kd fs i)) ∧ w.cell? ⟨b, off + i * 3 + 1, none⟩ = some (.int .i64 (fl fs i)) ∧ w.cell? ⟨b, off + i * 3 + 2, none⟩ = some (.string (da fs i))
/-- A slice that reads as 'fs'. -/
def IsFr (w : World) (A : Option Addr) (n : Nat) (fs : List Frm) : Prop :=
  n = fs.length ∧ n ≤ maxLen ∧ (∀ f ∈ fs, FrWf f) ∧ (0 < n → ∃ b off, A = some ⟨b, off, none⟩ ∧ b < w.heap.size ∧ FrAt w b off fs)
theorem IsFr.below {w w' : World} {A : Option Addr} {n : Nat} {fs : List Frm} (h : IsFr w A n fs) (hb : Below w.heap.size w w') : IsFr w' A n fs := by
  obtain ⟨h1, h2, h3, h4⟩ := h
  refine ⟨h1, h2, h3, fun hn => ?_⟩
  obtain ⟨b, off, rfl, hlt, hc⟩ := h4 hn
  refine ⟨b, off, rfl, Nat.lt_of_lt_of_le hlt hb.size, fun i hi => ?_⟩
  obtain ⟨c1, c2, c3⟩ := hc i hi
  exact ⟨(hb.cell (p := ⟨b, off + i * 3, none⟩) hlt).trans c1, (hb.cell (p := ⟨b, off + i * 3 + 1, none⟩) hlt).trans c2, (hb.cell (p := ⟨b, off + i * 3 + 2, none⟩) hlt).trans c3⟩
theorem isFr_nil (w : World) (A : Option Addr) : IsFr w A 0 [] := ⟨rfl, by unfold maxLen; omega, fun f h => by simp at h, fun h => by omega⟩
theorem frm_at {fs : List Frm} {i : Nat} (h : i < fs.length) : fs[i] = ⟨kd fs i, fl fs i, da fs i⟩ := by
  unfold kd fl da; rw [List.getD_eq_getElem?_getD, List.getElem?_eq_getElem h]; rfl
theorem getD_at {fs : List Frm} {i : Nat} (h : i < fs.length) : fs.getD i zeroF = fs[i] := by rw [List.getD_eq_getElem?_getD, List.getElem?_eq_getElem h]; rfl
/-- A part of a slice of frames, from its beginning. -/
theorem IsFr.take {w : World} {A : Option Addr} {n : Nat} {fs : List Frm} (h : IsFr w A n fs) {k : Nat} (hk : k ≤ n) : IsFr w A k (fs.take k) := by
  obtain ⟨h1, h2, h3, h4⟩ := h
  refine ⟨by rw [List.length_take]; omega, by omega, fun f hf => h3 f (List.mem_of_mem_take hf), fun hn => ?_⟩
  obtain ⟨b, off, rfl, hlt, hc⟩ := h4 (by omega)
  refine ⟨b, off, rfl, hlt, fun i hi => ?_⟩
  rw [List.length_take] at hi
  have e : (fs.take k).getD i zeroF = fs.getD i zeroF := by rw [List.getD_eq_getElem?_getD, List.getD_eq_getElem?_getD, List.getElem?_take_of_lt (by omega)]
  have := hc i (by omega)
  unfold kd fl da at *
  rw [e]
  exact this
/-- A part of a slice of frames, to its end. -/
theorem IsFr.drop {w : World} {b off n : Nat} {fs : List Frm} (h : IsFr w (some ⟨b, off, none⟩) n fs) {k : Nat} (hk : k ≤ n) : IsFr w (some ⟨b, off + k * 3, none⟩) (n - k) (fs.drop k) := by
  obtain ⟨h1, h2, h3, h4⟩ := h
  refine ⟨by rw [List.length_drop]; omega, by omega, fun f hf => h3 f (List.mem_of_mem_drop hf), fun hn => ?_⟩
  obtain ⟨b', off', hA, hlt, hc⟩ := h4 (by omega)
  injection hA with hA
  injection hA with e1 e2 _
  subst e1
  subst e2
  refine ⟨b, off + k * 3, rfl, hlt, fun i hi => ?_⟩
  rw [List.length_drop] at hi
  have e : (fs.drop k).getD i zeroF = fs.getD (k + i) zeroF := by rw [List.getD_eq_getElem?_getD, List.getD_eq_getElem?_getD, List.getElem?_drop]
  have := hc (k + i) (by omega)
  unfold kd fl da at *
  rw [e, show off + k * 3 + i * 3 = off + (k + i) * 3 by omega]
  exact this

/-- Frames' cells in memory. -/
def cellsR (fs : List Frm) : List Value := fs.flatMap fun f => [Value.int .i64 f.kind, .int .i64 f.flags, .string f.data]
theorem cellsR_append (a b : List Frm) : cellsR (a ++ b) = cellsR a ++ cellsR b := by simp [cellsR]
theorem cellsR_len (fs : List Frm) : (cellsR fs).length = fs.length * 3 := by
  induction fs with
  | nil => rfl
  | cons f fs ih => rw [show cellsR (f :: fs) = [Value.int .i64 f.kind, .int .i64 f.flags, .string f.data] ++ cellsR fs from rfl, List.length_append, ih]; simp; omega
theorem cellsR_at (fs : List Frm) : ∀ i, i < fs.length → (cellsR fs)[i * 3]? = some (.int .i64 (kd fs i)) ∧ (cellsR fs)[i * 3 + 1]? = some (.int .i64 (fl fs i)) ∧ (cellsR fs)[i * 3 + 2]? = some (.string (da fs i)) := by
  induction fs with
  | nil => intro i hi; simp at hi
  | cons f fs ih =>
    intro i hi
    rw [show cellsR (f :: fs) = Value.int .i64 f.kind :: .int .i64 f.flags :: .string f.data :: cellsR fs from rfl]
    cases i with
    | zero => exact ⟨rfl, rfl, rfl⟩
    | succ i =>
      have := ih i (by simpa using hi)
      rw [show (i + 1) * 3 = i * 3 + 1 + 1 + 1 by omega]
      exact ⟨by simpa [kd] using this.1, by simpa [fl] using this.2.1, by simpa [da] using this.2.2⟩
/-- An owned row of frames reads as these. -/
theorem isFr_own {w : World} {base n : Nat} {v : Value} {fs : List Frm} (h : w.ownsRow base 23 3 v n (cellsR fs)) (hwf : ∀ f ∈ fs, FrWf f) :
    ∃ A cap, v = .slice A n cap ∧ n ≤ cap ∧ cap ≤ 9223372036854775807 ∧ IsFr w A n fs := by
  have hn : n = fs.length := by have := h.1; rw [cellsR_len] at this; omega
  rcases h.2 with ⟨rfl, rfl⟩ | ⟨g, cap, cur, rfl, hg, hh, hnc, hcm, hcs, htk⟩
  · exact ⟨none, 0, rfl, Nat.le_refl _, by omega, hn, by unfold maxLen; omega, hwf, fun h => by omega⟩
  · refine ⟨_, cap, rfl, hnc, by unfold maxLen at hcm; omega, hn, Nat.le_trans hnc hcm, hwf, fun _ => ⟨g, 0, rfl, lt_of_blk hh, fun i hi => ?_⟩⟩
    obtain ⟨e1, e2, e3⟩ := cellsR_at fs i hi
    have c1 := h.cellAt (i * 3) (by omega)
    have c2 := h.cellAt (i * 3 + 1) (by omega)
    have c3 := h.cellAt (i * 3 + 2) (by omega)
    rw [e1] at c1
    rw [e2] at c2
    rw [e3] at c3
    rw [Nat.zero_add]
    exact ⟨c1, c2, c3⟩
theorem infoFrm : (Try.prog.info? 23).map (fun i => (i.zero, i.size, i.bytes)) = some (some (.agg #[.int .i64 0, .int .i64 0, .string ⟨#[]⟩]), 3, 32) := by kernel_rfl
theorem cell_three_new (w : World) (x y z : Value) (t : TypeId) : ∀ j u, [x, y, z][j]? = some u → (w.alloc (.cells #[x, y, z] t)).cell? ((⟨w.heap.size, 0, none⟩ : Addr).add j) = some u := by
  intro j u h
  have hx := World.alloc_heap_new w (.cells #[x, y, z] t)
  rcases j with _ | _ | _ | j
  · simp at h; subst h; exact cell_blk hx 0
  · simp at h; subst h; exact cell_blk hx 1
  · simp at h; subst h; exact cell_blk hx 2
  · simp at h
theorem frWf_ok {v : Int} {f : Frm} (h : okF v f = true) : FrWf f := by
  have ho := okF_iff.1 h
  have key : ∀ z : Int, 0 ≤ z → z ≤ 255 → (Lit.int .i64 z).wf = true := fun z h0 h1 => by
    rw [show (Lit.int .i64 z).wf = (decide (-9223372036854775808 ≤ z) && decide (z ≤ 9223372036854775807)) from rfl]
    simp; omega
  exact ⟨key _ (by omega) (by omega), key _ (by omega) (by omega), by omega⟩

/-- Are two lists of frames the same? -/
def sameR (a b : List Frm) : Bool := a.length == b.length && (List.range a.length).all fun i => kd a i == kd b i && fl a i == fl b i && (da a i).toList == (da b i).toList
theorem bytes_ext {a b : ByteArray} (h : a.toList = b.toList) : a = b := by
  have e : ∀ s : ByteArray, s.toList = s.data.toList := fun s => by rw [bs_of s, bs_toList]; simp [bs]
  rw [e, e] at h
  cases a; cases b
  simp only [ByteArray.mk.injEq]
  exact Array.ext' h
theorem sameR_iff {a b : List Frm} : sameR a b = true ↔ a = b := by
  unfold sameR
  constructor
  · intro h
    simp only [Bool.and_eq_true, beq_iff_eq, List.all_eq_true, List.mem_range] at h
    obtain ⟨h1, h2⟩ := h
    refine List.ext_getElem h1 fun i hi hj => ?_
    obtain ⟨⟨e1, e2⟩, e3⟩ := h2 i hi
    rw [frm_at hi, frm_at hj, e1, e2, bytes_ext e3]
  · rintro rfl; simp
theorem sameR_self (a : List Frm) : sameR a a = true := sameR_iff.2 rfl
theorem sameR_no_len {a b : List Frm} (h : a.length ≠ b.length) : sameR a b = false := by
  cases hr : sameR a b with
  | false => rfl
  | true => rw [sameR_iff.1 hr] at h; exact absurd rfl h
theorem sameR_no_at {a b : List Frm} {i : Nat} (h : (kd a i == kd b i && fl a i == fl b i && (da a i).toList == (da b i).toList) = false) : sameR a b = false := by
  cases hr : sameR a b with
  | false => rfl
  | true => rw [sameR_iff.1 hr] at h; simp at h
theorem sameR_yes {a b : List Frm} (h1 : a.length = b.length) (h2 : ∀ i, i < a.length → (kd a i == kd b i && fl a i == fl b i && (da a i).toList == (da b i).toList) = true) : sameR a b = true := by
  unfold sameR
  rw [Bool.and_eq_true, List.all_eq_true]
  exact ⟨by simpa using h1, fun i hi => h2 i (List.mem_range.1 hi)⟩
theorem eqFrm (f g : Frm) (w : World) : (Op.equalIn 10000 23 (.agg #[.int .i64 f.kind, .int .i64 f.flags, .string f.data]) (.agg #[.int .i64 g.kind, .int .i64 g.flags, .string g.data])).run Try.prog w = .ok (f.kind == g.kind && f.flags == g.flags && f.data.toList == g.data.toList) w := by
  have u3 := Try.underlying3
  have a3 := Try.isAgg3
  have z3 := Try.sizeOf3
  have u9 := Try.underlying9
  have a9 := Try.isAgg9
  have z9 := Try.sizeOf9
  have hS : Try.prog.underlying 23 = some (.struct (Try.prog.fieldsOf 23)) := by kernel_rfl
  have hp : Try.prog.stoodInHeld 23 = false := by kernel_rfl
  rw [show (10000 : Nat) = 9999 + 1 from rfl, run_equalIn_agg w 9999 23 _ _ hS hp]
  simp only [Program.fieldsOf, Try.underlying23]
  go_simp
  by_cases h1 : f.kind = g.kind <;> by_cases h2 : f.flags = g.flags <;> by_cases h3 : f.data.toList = g.data.toList <;> simp [h1, h2, h3]
theorem guardFrm : Try.prog.eqGuardType Try.prog.depth 23 = false := by kernel_rfl

set_option maxRecDepth 100000 in
set_option maxHeartbeats 4000000 in
theorem same_fr (A B : Option Addr) (n m cap cap2 : Nat) (fs gs : List Frm) (w : World) (h : IsFr w A n fs) (h2 : IsFr w B m gs) :
    Calls Try.prog 20 #[.slice A n cap, .slice B m cap2] w fun e w' => e = .returned (.bool (sameR fs gs)) ∧ Below w.heap.size w w' := by
  obtain ⟨hn, hm, _, hc⟩ := h
  obtain ⟨hn2, hm2, _, hc2⟩ := h2
  unfold maxLen at hm hm2
  have HN := Lib.hid hn; clear hn
  have HC := Lib.hid hc; clear hc
  have HN2 := Lib.hid hn2; clear hn2
  have HC2 := Lib.hid hc2; clear hc2
  by_cases hnm : n = m
  · subst hnm
    go_enter Try.func20, Try.ntmps20
    go_wp2_with fail
    go_loopw [5] (fun i wr => ∃ k : Nat, k ≤ n ∧ i = .int .i64 k ∧ Hid (∀ j, j < k → (kd fs j == kd gs j && fl fs j == fl gs j && (da fs j).toList == (da gs j).toList) = true) ∧ Below w.heap.size w wr) (fun i _ => n - (intOf i).toNat)
    case atStart => exact ⟨0, by omega, rfl, fun j hj => by omega, Below.refl _ _⟩
    case round =>
      obtain ⟨k, hk, rfl, hno, hbw⟩ := hrel
      by_cases hlt : k < n
      · obtain ⟨b, off, hA, hb, hat⟩ := HC.out (by omega)
        subst hA
        obtain ⟨b2, off2, hA2, hb2, hat2⟩ := HC2.out (by omega)
        subst hA2
        have HK : Hid (k < fs.length) := by have := HN.out; show k < fs.length; omega
        obtain ⟨c1, c2, c3⟩ : wr.cell? ⟨b, off + k * 3, none⟩ = some (.int .i64 (kd fs k)) ∧ wr.cell? ⟨b, off + k * 3 + 1, none⟩ = some (.int .i64 (fl fs k)) ∧ wr.cell? ⟨b, off + k * 3 + 2, none⟩ = some (.string (da fs k)) := by
          have h := hat k HK.out
          exact ⟨(hbw.cell (p := ⟨b, off + k * 3, none⟩) hb).trans h.1, (hbw.cell (p := ⟨b, off + k * 3 + 1, none⟩) hb).trans h.2.1, (hbw.cell (p := ⟨b, off + k * 3 + 2, none⟩) hb).trans h.2.2⟩
        obtain ⟨d1, d2, d3⟩ : wr.cell? ⟨b2, off2 + k * 3, none⟩ = some (.int .i64 (kd gs k)) ∧ wr.cell? ⟨b2, off2 + k * 3 + 1, none⟩ = some (.int .i64 (fl gs k)) ∧ wr.cell? ⟨b2, off2 + k * 3 + 2, none⟩ = some (.string (da gs k)) := by
          have h := hat2 k (by have := HN2.out; omega)
          exact ⟨(hbw.cell (p := ⟨b2, off2 + k * 3, none⟩) hb2).trans h.1, (hbw.cell (p := ⟨b2, off2 + k * 3 + 1, none⟩) hb2).trans h.2.1, (hbw.cell (p := ⟨b2, off2 + k * 3 + 2, none⟩) hb2).trans h.2.2⟩
        clear hat hat2
        have hb0 : (0 : Int) ≤ (k : Int) := by omega
        have hb1 : (k : Int) < (n : Int) := by omega
        have hgu := guardFrm
        have heq := eqFrm ⟨kd fs k, fl fs k, da fs k⟩ ⟨kd gs k, fl gs k, da gs k⟩
        simp only at heq
        cases hE : (kd fs k == kd gs k && fl fs k == fl gs k && (da fs k).toList == (da gs k).toList) with
        | true =>
          rw [hE] at heq
          have HE := Lib.hid hE; clear hE
          go_wp2_with fail
          go_quiet (fail)
          go_wp2
          go_roundw
          case rel => exact ⟨k + 1, by omega, by go_num, fun j hj => by rcases Nat.lt_or_ge j k with h | h; exact hno.out j h; rw [show j = k by omega]; exact HE.out, bdn hbw _⟩
          case measure => simp [intOf]; omega
        | false =>
          have HR : Hid (sameR fs gs = false) := sameR_no_at (i := k) hE
          rw [hE] at heq
          clear hE
          go_wp2_with fail
          go_quiet (fail)
          go_wp2
          go_ret
          exact ⟨ret_bool HR.out.symm, bdn hbw _⟩
      · have hkn : n = k := by omega
        subst hkn
        have HR : Hid (sameR fs gs = true) := sameR_yes (by have := HN.out; have := HN2.out; omega) (by have := HN.out; rw [← this]; exact hno.out)
        go_wp2_with fail
        go_ret
        exact ⟨ret_bool HR.out.symm, hbw⟩
  · have HR : Hid (sameR fs gs = false) := sameR_no_len (by have := HN.out; have := HN2.out; omega)
    have hd : ((n : Int) == (m : Int)) = false := by simp; omega
    go_enter Try.func20, Try.ntmps20
    go_wp2_with fail
    go_ret
    exact ⟨ret_bool HR.out.symm, Below.refl _ _⟩
end Go.Proofs.Ytjciojgldibfmaa
