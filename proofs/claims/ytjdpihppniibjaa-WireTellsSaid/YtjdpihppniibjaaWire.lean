import Derived.Test.YtjdpihppniibjaaFs
import Derived.Test.YtjdpihppniibjaaGMath
import Derived.Test.YtjdpihppniibjaaRefTake
import Derived.Test.YtjdpihppniibjaaStr
import Derived.Deep.RegionHeld3
import Derived.IntWalk
import Derived.WalkMore
import Derived.Laws.StructEq
import Derived.BigRegion
import Derived.BigQuiet
/-
  Messages as values (stage 8): what is asked of the program's functions (EncW, DecW, RightW), a message's block, equality.
-/
namespace Go.Proofs.Ytjdpihppniibjaa
open Go.RowKit
set_option linter.unusedVariables false

/-- A message as a value. -/
def mgV (m : Mg) : Value := .agg #[.int .i64 m.kind, .int .i64 m.frm, .int .i64 m.to, .int .i64 m.seq, .string m.body, .int .i64 m.trace]
def WfM (m : Mg) : Prop := (Lit.int .i64 m.kind).wf = true ∧ (Lit.int .i64 m.frm).wf = true ∧ (Lit.int .i64 m.to).wf = true ∧ (Lit.int .i64 m.seq).wf = true ∧ (Lit.int .i64 m.trace).wf = true
theorem wf_small {z : Int} (h1 : 0 ≤ z) (h2 : z ≤ 9007199254740992) : (Lit.int .i64 z).wf = true := by
  rw [show (Lit.int .i64 z).wf = (decide (-9223372036854775808 ≤ z) && decide (z ≤ 9223372036854775807)) from rfl]
  simp; omega
theorem RightM.wf {v : Int} {m : Mg} (h : RightM v m) : WfM m := by
  obtain ⟨_, h1, h2, h3, h4, h6, _⟩ := h
  exact ⟨wf_small (by omega) (by omega), wf_small h2.1 h2.2, wf_small h3.1 h3.2, wf_small h4.1 h4.2, wf_small h6.1 h6.2⟩
/-- What is asked of the program. -/
def RightW : Prop := ∀ (v : Int) (m : Mg), (Lit.int .i64 v).wf = true → WfM m → m.body.size ≤ 140737488355328 → ∀ w : World,
  Calls Try.prog 13 #[.int .i64 v, mgV m] w fun e w' => e = .returned (.bool (rightM v m)) ∧ Below w.heap.size w w'
def EncW : Prop := ∀ (v : Int) (m : Mg), (Lit.int .i64 v).wf = true → WfM m → m.body.size ≤ 140737488355328 → ∀ w : World,
  Calls Try.prog 11 #[.int .i64 v, mgV m] w fun e w' => e = .returned (.tuple #[.string (bs (wE v m).1), .int .i64 (wE v m).2]) ∧ Below w.heap.size w w'
def DecW : Prop := ∀ (s : ByteArray), s.size ≤ 140737488365000 → ∀ w : World,
  Calls Try.prog 15 #[.string s] w fun e w' => e = .returned (.tuple #[.int .i64 (wD s.data.toList).1, mgV (wD s.data.toList).2.1, .int .i64 (wD s.data.toList).2.2]) ∧ Below w.heap.size w w'
/-- A message's block. -/
def MgBlk (W : World) (g : Nat) (m : Mg) : Prop := W.heap[g]? = some (.cells #[.int .i64 m.kind, .int .i64 m.frm, .int .i64 m.to, .int .i64 m.seq, .string m.body, .int .i64 m.trace] 23 (0, 0))
theorem MgBlk.below {w w' : World} {g : Nat} {m : Mg} (h : MgBlk w g m) (hb : Below w.heap.size w w') : MgBlk w' g m := Eq.trans (hb.block g (lt_of_blk h)) h
theorem MgBlk.cells {W : World} {g : Nat} {m : Mg} (h : MgBlk W g m) : W.cell? ⟨g, 0, none⟩ = some (.int .i64 m.kind) ∧ W.cell? ⟨g, 1, none⟩ = some (.int .i64 m.frm) ∧ W.cell? ⟨g, 2, none⟩ = some (.int .i64 m.to) ∧ W.cell? ⟨g, 3, none⟩ = some (.int .i64 m.seq) ∧ W.cell? ⟨g, 4, none⟩ = some (.string m.body) ∧ W.cell? ⟨g, 5, none⟩ = some (.int .i64 m.trace) :=
  ⟨cell_blk h 0, cell_blk h 1, cell_blk h 2, cell_blk h 3, cell_blk h 4, cell_blk h 5⟩
theorem MgBlk.frozen {W : World} {g : Nat} {m : Mg} (h : MgBlk W g m) (j : Nat) : W.frozen? ⟨g, j, none⟩ = false := frozen_blk h j
theorem MgBlk.new (W : World) (m : Mg) : MgBlk (W.alloc (.cells #[.int .i64 m.kind, .int .i64 m.frm, .int .i64 m.to, .int .i64 m.seq, .string m.body, .int .i64 m.trace] 23)) W.heap.size m := World.alloc_heap_new W _
theorem MgBlk.drew {W : World} {g : Nat} {m : Mg} (h : MgBlk W g m) : MgBlk W.drew g m := h
theorem MgBlk.far {W : World} {b g : Nat} {m : Mg} (h : MgBlk W b m) (hne : b ≠ g) (j : Nat) (u : Value) : MgBlk (W.setCell ⟨g, j, none⟩ u) b m := Eq.trans (heap_setCell_other W ⟨g, j, none⟩ b u hne) h
theorem MgBlk.put {W : World} {g : Nat} {m : Mg} (h : MgBlk W g m) (n : Mg) : MgBlk ((((((W.setCell ⟨g, 0, none⟩ (.int .i64 n.kind)).setCell ⟨g, 1, none⟩ (.int .i64 n.frm)).setCell ⟨g, 2, none⟩ (.int .i64 n.to)).setCell ⟨g, 3, none⟩ (.int .i64 n.seq)).setCell ⟨g, 4, none⟩ (.string n.body)).setCell ⟨g, 5, none⟩ (.int .i64 n.trace)) g n :=
  heap_setCell_same _ g 5 _ _ _ (heap_setCell_same _ g 4 _ _ _ (heap_setCell_same _ g 3 _ _ _ (heap_setCell_same _ g 2 _ _ _ (heap_setCell_same _ g 1 _ _ _ (heap_setCell_same _ g 0 _ _ _ h)))))
/-- Are two messages the same? -/
def eqM (a b : Mg) : Bool := a.kind == b.kind && a.frm == b.frm && a.to == b.to && a.seq == b.seq && a.body.toList == b.body.toList && a.trace == b.trace
theorem eqM_self (a : Mg) : eqM a a = true := by unfold eqM; simp
theorem eqMg (a b : Mg) (w : World) : (Op.equalIn 10000 23 (mgV a) (mgV b)).run Try.prog w = .ok (eqM a b) w := by
  have u3 := Try.underlying3
  have a3 := Try.isAgg3
  have z3 := Try.sizeOf3
  have u9 := Try.underlying9
  have a9 := Try.isAgg9
  have z9 := Try.sizeOf9
  have hS : Try.prog.underlying 23 = some (.struct (Try.prog.fieldsOf 23)) := by kernel_rfl
  have hp : Try.prog.stoodInHeld 23 = false := by kernel_rfl
  unfold mgV eqM
  rw [show (10000 : Nat) = 9999 + 1 from rfl, run_equalIn_agg w 9999 23 _ _ hS hp]
  simp only [Program.fieldsOf, Try.underlying23]
  go_simp
  by_cases h1 : a.kind = b.kind <;> by_cases h2 : a.frm = b.frm <;> by_cases h3 : a.to = b.to <;> by_cases h4 : a.seq = b.seq <;> by_cases h5 : a.body.toList = b.body.toList <;> by_cases h6 : a.trace = b.trace <;> simp [h1, h2, h3, h4, h5, h6]
theorem guardMg : Try.prog.eqGuardType Try.prog.depth 23 = false := by kernel_rfl
/-- A number that may be. -/
def fitB (n : Int) : Bool := decide (0 ≤ n) && decide (n ≤ 9007199254740992)
theorem fitB_iff {n : Int} : fitB n = true ↔ 0 ≤ n ∧ n ≤ 9007199254740992 := by unfold fitB; simp
theorem fitB_no {n : Int} (h : fitB n = false) : ¬ (0 ≤ n ∧ n ≤ 9007199254740992) := by rw [← fitB_iff]; simp [h]

set_option maxRecDepth 100000 in
set_option maxHeartbeats 1000000 in
theorem reffits_any (n : Int) (w : World) : Calls Try.prog 23 #[.int .i64 n] w fun e w' => e = .returned (.bool (fitB n)) ∧ w = w' := by
  by_cases h1 : 0 ≤ n
  · by_cases h2 : n ≤ 9007199254740992
    · have E : Hid (fitB n = true) := fitB_iff.2 ⟨h1, h2⟩
      go_enter Try.func23, Try.ntmps23
      go_wp2_with fail
      go_ret
      exact ⟨ret_bool E.out.symm, rfl⟩
    · have E : Hid (fitB n = false) := by show _ = _; rw [Bool.eq_false_iff]; intro h; have := fitB_iff.1 h; omega
      go_enter Try.func23, Try.ntmps23
      go_wp2_with fail
      go_ret
      exact ⟨ret_bool E.out.symm, rfl⟩
  · have E : Hid (fitB n = false) := by show _ = _; rw [Bool.eq_false_iff]; intro h; have := fitB_iff.1 h; omega
    go_enter Try.func23, Try.ntmps23
    go_wp2_with fail
    go_ret
    exact ⟨ret_bool E.out.symm, rfl⟩
set_option maxRecDepth 100000 in
set_option maxHeartbeats 1000000 in
theorem refwhole_any (s : ByteArray) (hs : s.size ≤ 140737488355328) (w : World) : Calls Try.prog 28 #[.string s] w fun e w' => e = .returned (.int .i64 (wholeN s.data.toList)) ∧ w = w' := by
  have q := fun W => reftake_any s (by unfold maxLen; omega) W
  have h5 := takeR_err s.data.toList
  have hb := (takeR_snd_le s.data.toList).2
  have hl : s.data.toList.length = s.size := by simp
  obtain ⟨W0, hW⟩ : ∃ W, wholeN s.data.toList = W := ⟨_, rfl⟩
  rw [hW]
  unfold wholeN at hW
  rw [hl] at hW
  clear hl
  generalize (takeR s.data.toList).1 = n at *
  generalize (takeR s.data.toList).2.1 = k at *
  generalize (takeR s.data.toList).2.2 = x at *
  have HW := Lib.hid hW; clear hW
  rcases h5 with rfl | rfl | rfl
  · by_cases hk : k = s.size
    · have hn : Hid (W0 = n) := by have := HW.out; rw [if_pos ⟨rfl, hk⟩] at this; exact this.symm
      have e1 : ((k : Int) != (s.size : Int)) = false := by simp; omega
      clear hk
      go_enter Try.func28, Try.ntmps28
      go_wp2_with fail
      ((with_reducible refine (q _).mono ?_); rintro e W1 ⟨rfl, rfl⟩)
      go_wp2_with fail
      go_ret
      exact ⟨ret_int (by rw [hn.out]), rfl⟩
    · have hn : Hid (W0 = 0) := by have := HW.out; rw [if_neg (fun h => hk h.2)] at this; exact this.symm
      have e1 : ((k : Int) != (s.size : Int)) = true := by simp; omega
      clear hk
      go_enter Try.func28, Try.ntmps28
      go_wp2_with fail
      ((with_reducible refine (q _).mono ?_); rintro e W1 ⟨rfl, rfl⟩)
      go_wp2_with fail
      go_ret
      exact ⟨ret_int (by rw [hn.out]; rfl), rfl⟩
  all_goals
    have hn : Hid (W0 = 0) := by have := HW.out; rw [if_neg (fun h => by have := h.1; omega)] at this; exact this.symm
    go_enter Try.func28, Try.ntmps28
    go_wp2_with fail
    ((with_reducible refine (q _).mono ?_); rintro e W1 ⟨rfl, rfl⟩)
    go_wp2_with fail
    go_ret
    exact ⟨ret_int (by rw [hn.out]; rfl), rfl⟩
end Go.Proofs.Ytjdpihppniibjaa
