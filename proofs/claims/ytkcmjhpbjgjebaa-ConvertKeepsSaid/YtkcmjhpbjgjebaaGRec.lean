import Derived.Test.YtkcmjhpbjgjebaaRecRight
import Derived.Test.YtkcmjhpbjgjebaaRefTake
import Derived.Test.YtkcmjhpbjgjebaaDecode
import Derived.Test.YtkcmjhpbjgjebaaFields
import Derived.Deep.RegionHeld3
import Derived.Maps.AppendAt
import Derived.Maps.OwnSet
import Derived.Test.YtkcmjhpbjgjebaaFind
/-
  The contracts of record.numberData, of the document's own number and whole, and of record.takeText and takeNumber's reading: numD, wholeN; nothing that was in memory changes.
-/
namespace Go.Proofs.Ytkcmjhpbjgjebaa
open Go.RowKit

theorem numD_bs {n : Int} (h : n ≠ 0) : numD n = bs (vb n.toNat) := by unfold numD bs; rw [if_neg h]
set_option maxHeartbeats 400000 in
theorem numberData_any (n : Int) (h1 : 0 ≤ n) (h2 : n ≤ 9007199254740992) (w : World) :
    Calls Try.prog 52 #[.int .i64 n] w fun e w' => e = .returned (.string (numD n)) ∧ Below w.heap.size w w' := by
  by_cases h0 : n = 0
  · subst h0
    go_enter Try.func52, Try.ntmps52
    go_wp2_with fail
    go_ret
    exact ⟨rfl, Below.refl _ _⟩
  · have hp := put_ok n h1 h2
    rw [← numD_bs h0] at hp
    have e0 : (n == 0) = false := by simpa using h0
    clear h1 h2 h0
    generalize numD n = S at hp ⊢
    go_enter Try.func52, Try.ntmps52
    go_wp2_with fail
    refine (hp _).mono ?_; rintro e w1 ⟨rfl, b1⟩
    go_wp2_with fail
    go_ret
    exact ⟨rfl, b1⟩
set_option maxHeartbeats 400000 in
theorem refnumber_any (n : Int) (h1 : 0 ≤ n) (h2 : n ≤ 9007199254740992) (w : World) :
    Calls Try.prog 55 #[.int .i64 n] w fun e w' => e = .returned (.string (numD n)) ∧ Below w.heap.size w w' := by
  by_cases h0 : n = 0
  · subst h0
    go_enter Try.func55, Try.ntmps55
    go_wp2_with fail
    go_ret
    exact ⟨rfl, Below.refl _ _⟩
  · have hp := refput_ok n h1 h2
    rw [← numD_bs h0] at hp
    have e0 : (n == 0) = false := by simpa using h0
    clear h1 h2 h0
    generalize numD n = S at hp ⊢
    go_enter Try.func55, Try.ntmps55
    go_wp2_with fail
    refine (hp _).mono ?_; rintro e w1 ⟨rfl, b1⟩
    go_wp2_with fail
    go_ret
    exact ⟨rfl, b1⟩
set_option maxHeartbeats 400000 in
theorem refwhole_any (s : ByteArray) (hs : s.size ≤ maxLen) (w : World) :
    Calls Try.prog 60 #[.string s] w fun e w' => e = .returned (.int .i64 (wholeN s.data.toList)) ∧ w = w' := by
  have hp := reftake_any s hs
  have he := takeR_err s.data.toList
  have hl : s.data.toList.length = s.size := by simp
  obtain ⟨W, hW⟩ : ∃ W, wholeN s.data.toList = W := ⟨_, rfl⟩
  rw [hW]
  unfold wholeN at hW
  rw [hl] at hW
  clear hl
  unfold maxLen at hs
  generalize (takeR s.data.toList).1 = n at *
  generalize (takeR s.data.toList).2.1 = k at *
  generalize (takeR s.data.toList).2.2 = x at *
  have HW := Lib.hid hW; clear hW
  rcases he with rfl | rfl | rfl
  · by_cases hk : k = s.size
    · have HE : Hid (W = n) := by have := HW.out; rw [if_pos ⟨rfl, hk⟩] at this; exact this.symm
      have e1 : ((k : Int) != (s.size : Int)) = false := by simp; omega
      clear hk
      go_enter Try.func60, Try.ntmps60
      go_wp2_with fail
      refine (hp _).mono ?_; rintro e w1 ⟨rfl, rfl⟩
      go_wp2_with fail
      go_ret
      exact ⟨ret_int (by rw [HE.out]), rfl⟩
    · have HE : Hid (W = 0) := by have := HW.out; rw [if_neg (fun h => hk h.2)] at this; exact this.symm
      have e1 : ((k : Int) != (s.size : Int)) = true := by simp; omega
      clear hk
      go_enter Try.func60, Try.ntmps60
      go_wp2_with fail
      refine (hp _).mono ?_; rintro e w1 ⟨rfl, rfl⟩
      go_wp2_with fail
      go_ret
      exact ⟨ret_int (by rw [HE.out]; rfl), rfl⟩
  all_goals
    have HE : Hid (W = 0) := by have := HW.out; rw [if_neg (fun h => by omega)] at this; exact this.symm
    go_enter Try.func60, Try.ntmps60
    go_wp2_with fail
    refine (hp _).mono ?_; rintro e w1 ⟨rfl, rfl⟩
    go_wp2_with fail
    go_ret
    exact ⟨ret_int (by rw [HE.out]; rfl), rfl⟩
end Go.Proofs.Ytkcmjhpbjgjebaa


/-
  The contract of record.fieldsOf: a record's fields, in new memory; nothing that was in memory changes.
-/
namespace Go.Proofs.Ytkcmjhpbjgjebaa
open Go.RowKit

/-- What is left: fields in memory. -/
def FldPost (w : World) (fs : List Fld) (e : Ending) (w' : World) : Prop :=
  ∃ A n cap, e = .returned (.slice A n cap) ∧ n ≤ cap ∧ IsFs w' A n fs ∧ Below w.heap.size w w'

theorem run_append_zero {w : World} {P : Program} (base : Nat) (t ty e : TypeId) (i : TypeInfo) (size : Nat) (ht : P.underlying t = some (.slice e)) (hi : P.info? e = some i)
    (v : Value) (n : Nat) (xs : List Value) (hown : w.ownsRow base e size v n xs) (A : Option Addr) (c : Nat) :
    (Builtin.append_ #[t, t] ty #[v, .slice A 0 c]).run P w = .ok v w := by
  rcases hown.2 with ⟨rfl, rfl⟩ | ⟨g, cap, cur, rfl, _, _, hnc, _⟩
  · cases A <;> simp [Builtin.append_, run_underlying ht, sizeOf, typeInfo, hi, Builtin.lenOf, Builtin.firstCells, loadCells, loadCellsFrom]
  · cases A <;> simp [Builtin.append_, run_underlying ht, sizeOf, typeInfo, hi, Builtin.lenOf, Builtin.firstCells, hnc, storeCells, loadCells, loadCellsFrom]
theorem fs_cells {w : World} {b off : Nat} {fs : List Fld} (h : FsAt w b off fs) : ∀ j u, (cellsF fs)[j]? = some u → w.cell? ((⟨b, off, none⟩ : Addr).add j) = some u := by
  intro j u hj
  have hl : j < fs.length * 2 := by rw [← cellsF_len]; exact (List.getElem?_eq_some_iff.1 hj).1
  obtain ⟨c1, c2⟩ := h (j / 2) (by omega)
  obtain ⟨d1, d2⟩ := cellsF_at fs (j / 2) (by omega)
  have e : ((⟨b, off, none⟩ : Addr).add j) = ⟨b, off + j, none⟩ := by
    by_cases h0 : j = 0
    · subst h0; simp [Addr.add]
    · simp [Addr.add, h0]
  rw [e]
  rcases (by omega : j = j / 2 * 2 ∨ j = j / 2 * 2 + 1) with h2 | h2
  · rw [h2, d1] at hj; rw [h2, c1]; exact hj
  · rw [h2, d2] at hj; rw [h2, show off + (j / 2 * 2 + 1) = off + j / 2 * 2 + 1 by omega, c2]; exact hj
theorem fs_one (fs : List Fld) : ∀ u ∈ cellsF fs, u.oneCell' = true := by
  intro u hu
  unfold cellsF at hu
  obtain ⟨f, _, hf⟩ := List.mem_flatMap.1 hu
  simp at hf
  rcases hf with rfl | rfl <;> rfl
/-- 'append(l, x...)', l the call's own, x fields that lie anywhere. -/
theorem wpList_append_fs {w : World} {ops : Array Oper} {rest : List Oper} {o : Oper} {a : Act} {Q : Exit → Act → World → Prop} (hgd : o.guard = none) (s x : Operand)
    (ho : o.op = .call { callee := .builtin .append, args := #[s, x], argTypes := #[22, 22] })
    (base : Nat) (v : Value) (fs : List Fld) (hs : a.eval s = v) (hown : w.ownsRow base 44 2 v fs.length (cellsF fs))
    (A : Option Addr) (m c : Nat) (gs : List Fld) (hx : a.eval x = .slice A m c) (hf : IsFs w A m gs)
    (h63 : fs.length + m ≤ 1000) (hbase : base ≤ w.heap.size)
    (h : ∀ v' w', w'.ownsRow base 44 2 v' (fs ++ gs).length (cellsF (fs ++ gs)) → w.grownBy w' v.ownBlock → wpList Try.prog ops Q rest (a.put o.dst v') w') :
    wpList Try.prog ops Q (o :: rest) a w := by
  obtain ⟨i0, hi, hz0, hz1, hz2⟩ := info_parts infoFld
  obtain ⟨hm, _, _, hat⟩ := hf
  rcases Nat.eq_zero_or_pos m with rfl | hp
  · have hg : gs = [] := List.eq_nil_of_length_eq_zero hm.symm
    subst hg
    refine wpList_plain hgd fun K hK => ?_
    have hrun := run_append_zero (P := Try.prog) (w := w) base 22 o.type 44 i0 2 Try.underlying22 hi v fs.length _ hown A c
    unfold Oper.wp
    simp [execOp, ho, resolve, invoke, builtin, hs, hx, hrun, Result.andThen]
    refine hK _ _ (h v w (by simpa using hown) ?_)
    exact ⟨rfl, rfl, rfl, Nat.le_refl _, fun _ _ _ => rfl⟩
  · obtain ⟨b, off, rfl, hb, hat⟩ := hat hp
    refine wpList_append_own_at w hgd s x 22 ho base 44 i0 (.agg #[.int .i64 0, .string ⟨#[]⟩]) 2 24 Try.underlying22 hi hz0 hz1 hz2 rfl (by decide) v fs.length _ hs hown ⟨b, off, none⟩ m c (cellsF gs) hx (by rw [cellsF_len, hm]) (fs_cells hat) (fs_one gs) (by unfold maxLen; omega) (by omega) hbase ?_
    intro v' w' h1 h2 _ _
    refine h v' w' ?_ h2
    rw [cellsF_append, List.length_append, ← hm]; exact h1
theorem full_snoc (l : List Fld) (t : Int) (d : ByteArray) : full (l ++ [(t, d)]) = full l ++ opt t (ob d) := by
  have h1 : full [(t, d)] = opt t (ob d) := by rw [full_cons, full_nil]; simp
  rw [← h1]; unfold full; rw [List.filter_append]
theorem full_take {fs : List Fld} {k : Nat} (h : k < fs.length) : full (fs.take (k + 1)) = full (fs.take k) ++ opt (tg fs k) (ob (dt fs k)) := by
  rw [List.take_succ_eq_append_getElem h, fld_at h, full_snoc]
theorem full_le (l : List Fld) : (full l).length ≤ l.length := List.length_filter_le _ _
theorem FsWf.full {l : List Fld} (h : FsWf l) (k : Nat) : FsWf (full (l.take k)) := fun f hf => h f (List.mem_of_mem_take (List.mem_filter.1 hf).1)
theorem FsWf.append {a b : List Fld} (h : FsWf a) (h2 : FsWf b) : FsWf (a ++ b) := fun f hf => by
  rcases List.mem_append.1 hf with h3 | h3
  · exact h f h3
  · exact h2 f h3
theorem five_wf {r : Rcd} (hr : RcWf r) (h1 : 0 ≤ r.rev ∧ r.rev ≤ 9007199254740992) (h2 : 0 ≤ r.life ∧ r.life ≤ 9007199254740992) : FsWf (five r) := by
  have n1 := numD_size h1.1 h1.2
  have n2 := numD_size h2.1 h2.2
  obtain ⟨s1, s2, s3⟩ := hr
  intro f hf
  simp only [five, List.mem_cons, List.not_mem_nil, or_false] at hf
  rcases hf with rfl | rfl | rfl | rfl | rfl
  · exact ⟨wf_of (t := 1) (by omega), by show r.key.size ≤ _; omega⟩
  · exact ⟨wf_of (t := 2) (by omega), by show r.value.size ≤ _; omega⟩
  · exact ⟨wf_of (t := 3) (by omega), by show (numD r.rev).size ≤ _; omega⟩
  · exact ⟨wf_of (t := 4) (by omega), by show (numD r.life).size ≤ _; omega⟩
  · exact ⟨wf_of (t := 5) (by omega), by show r.note.size ≤ _; omega⟩
theorem five_at {W : World} {y : Nat} {r : Rcd} (h : W.heap[y]? = some (.cells (cellsF (five r)).toArray 44 (0, 0))) (hw : FsWf (five r)) : IsFs W (some ⟨y, 0, none⟩) 5 (five r) := by
  refine ⟨rfl, by unfold maxLen; omega, hw, fun _ => ⟨y, 0, rfl, lt_of_blk h, fun i hi => ?_⟩⟩
  obtain ⟨d1, d2⟩ := cellsF_at (five r) i hi
  refine ⟨?_, ?_⟩
  · rw [cell_blk h]; simpa using d1
  · rw [cell_blk h]; simpa using d2

/-- For the region that draws: the record's cells stay behind a call that turns nothing that was there. -/
theorem rc_keep {x : Nat} {w0 W W' : World} {v0 v1 v2 v3 v4 v5 : Value}
    (h : W.cell? ⟨x, 0, none⟩ = some v0 ∧ W.cell? ⟨x, 1, none⟩ = some v1 ∧ W.cell? ⟨x, 2, none⟩ = some v2 ∧ W.cell? ⟨x, 3, none⟩ = some v3 ∧ W.cell? ⟨x, 4, none⟩ = some v4 ∧ W.cell? ⟨x, 5, none⟩ = some v5 ∧ Below w0.heap.size w0 W) (b : Below W.heap.size W W') :
    W'.cell? ⟨x, 0, none⟩ = some v0 ∧ W'.cell? ⟨x, 1, none⟩ = some v1 ∧ W'.cell? ⟨x, 2, none⟩ = some v2 ∧ W'.cell? ⟨x, 3, none⟩ = some v3 ∧ W'.cell? ⟨x, 4, none⟩ = some v4 ∧ W'.cell? ⟨x, 5, none⟩ = some v5 ∧ Below w0.heap.size w0 W' := by
  obtain ⟨h0, h1, h2, h3, h4, h5, h6⟩ := h
  have hlt := lt_of_cell (a := ⟨x, 0, none⟩) h0
  exact ⟨(b.cell (p := ⟨x, 0, none⟩) hlt).trans h0, (b.cell (p := ⟨x, 1, none⟩) hlt).trans h1, (b.cell (p := ⟨x, 2, none⟩) hlt).trans h2, (b.cell (p := ⟨x, 3, none⟩) hlt).trans h3, (b.cell (p := ⟨x, 4, none⟩) hlt).trans h4, (b.cell (p := ⟨x, 5, none⟩) hlt).trans h5, bch h6 b⟩

theorem list5_at {W : World} {y : Nat} {a b c d e : ByteArray} (h : W.heap[y]? = some (.cells #[.int .i64 1, .string a, .int .i64 2, .string b, .int .i64 3, .string c, .int .i64 4, .string d, .int .i64 5, .string e] 44 (0, 0))) (hw : FsWf [(1, a), (2, b), (3, c), (4, d), (5, e)]) :
    IsFs W (some ⟨y, 0, none⟩) 5 [(1, a), (2, b), (3, c), (4, d), (5, e)] := by
  refine ⟨rfl, by unfold maxLen; omega, hw, fun _ => ⟨y, 0, rfl, lt_of_blk h, fun i hi => ?_⟩⟩
  obtain ⟨d1, d2⟩ := cellsF_at [(1, a), (2, b), (3, c), (4, d), (5, e)] i hi
  refine ⟨?_, ?_⟩
  · rw [cell_blk h]; simpa [cellsF] using d1
  · rw [cell_blk h]; simpa [cellsF] using d2
theorem isFs_one {w : World} {b : Nat} {t : Int} {s : ByteArray} (h1 : w.cell? ⟨b, 0, none⟩ = some (.int .i64 t)) (h2 : w.cell? ⟨b, 1, none⟩ = some (.string s)) (hw : (Lit.int .i64 t).wf = true) (hs : s.size ≤ 9223372036854775807) : IsFs w (some ⟨b, 0, none⟩) 1 [(t, s)] := by
  refine ⟨rfl, by unfold maxLen; omega, fun f hf => ?_, fun _ => ⟨b, 0, rfl, lt_of_cell h1, fun i hi => ?_⟩⟩
  · rw [List.mem_singleton] at hf; subst hf; exact ⟨hw, hs⟩
  · have : i = 0 := by simpa using hi
    subst this
    exact ⟨h1, h2⟩
theorem opt_yes {t : Int} {d : ByteArray} (h : d.size ≠ 0) : opt t (ob d) = [(t, d)] := by unfold ob; rw [if_neg h]; rfl
theorem opt_no {t : Int} {d : ByteArray} (h : d.size = 0) : opt t (ob d) = [] := by unfold ob; rw [if_pos h]; rfl
theorem toList_ne0 {s : ByteArray} (h : s.size ≠ 0) : s.toList.isEmpty = false := by
  rw [Bool.eq_false_iff]; intro h2; exact h ((toList_size s).1 (by simpa using h2))

set_option maxRecDepth 100000 in
set_option maxHeartbeats 8000000 in
theorem fieldsOf_any (r : Rcd) (A : Option Addr) (n cap : Nat) (w : World) (hr : RcWf r) (h1 : 0 ≤ r.rev ∧ r.rev ≤ 9007199254740992) (h2 : 0 ≤ r.life ∧ r.life ≤ 9007199254740992) (h : IsFs w A n r.extra) (h64 : n ≤ 64) :
    Calls Try.prog 36 #[rcV r (.slice A n cap)] w (FldPost w (fieldsR r)) := by
  have hw5 := five_wf hr h1 h2
  have q1 := numberData_any r.rev h1.1 h1.2
  have q2 := numberData_any r.life h2.1 h2.2
  have HW5 := Lib.hid hw5; clear hw5
  have HF := Lib.hid (show full (five r) ++ r.extra = fieldsR r from rfl)
  have H5 := Lib.hid (show five r = [(1, r.key), (2, r.value), (3, numD r.rev), (4, numD r.life), (5, r.note)] from rfl)
  obtain ⟨key, value, rev, life, note, extra⟩ := r
  simp only at *
  obtain ⟨D1, hD1⟩ : ∃ D, numD rev = D := ⟨_, rfl⟩
  obtain ⟨D2, hD2⟩ : ∃ D, numD life = D := ⟨_, rfl⟩
  rw [hD1] at q1 H5
  rw [hD2] at q2 H5
  clear hD1 hD2 h1 h2
  have hb0 : Below w.heap.size w (w.alloc (.cells #[.string key, .string value, .int .i64 rev, .int .i64 life, .string note, .slice A n cap] 24)) := (Below.refl _ _).alloc (Nat.le_refl _) _
  have hx := World.alloc_heap_new w (.cells #[.string key, .string value, .int .i64 rev, .int .i64 life, .string note, .slice A n cap] 24)
  have hS : ∀ W, W = (w.alloc (.cells #[.string key, .string value, .int .i64 rev, .int .i64 life, .string note, .slice A n cap] 24)).drew → (W.cell? ⟨w.heap.size, 0, none⟩ = some (.string key) ∧ W.cell? ⟨w.heap.size, 1, none⟩ = some (.string value) ∧ W.cell? ⟨w.heap.size, 2, none⟩ = some (.int .i64 rev) ∧ W.cell? ⟨w.heap.size, 3, none⟩ = some (.int .i64 life) ∧ W.cell? ⟨w.heap.size, 4, none⟩ = some (.string note) ∧ W.cell? ⟨w.heap.size, 5, none⟩ = some (.slice A n cap) ∧ Below w.heap.size w W) := by
    rintro W rfl
    exact ⟨cell_blk hx 0, cell_blk hx 1, cell_blk hx 2, cell_blk hx 3, cell_blk hx 4, cell_blk hx 5, hb0.drew⟩
  have HS := Lib.hid hS; clear hS hx hb0
  go_enter Try.func36, Try.ntmps36
  go_wp2_with fail
  go_region_held3 (fun W => W.cell? ⟨w.heap.size, 0, none⟩ = some (.string key) ∧ W.cell? ⟨w.heap.size, 1, none⟩ = some (.string value) ∧ W.cell? ⟨w.heap.size, 2, none⟩ = some (.int .i64 rev) ∧ W.cell? ⟨w.heap.size, 3, none⟩ = some (.int .i64 life) ∧ W.cell? ⟨w.heap.size, 4, none⟩ = some (.string note) ∧ W.cell? ⟨w.heap.size, 5, none⟩ = some (.slice A n cap) ∧ Below w.heap.size w W) (first | exact HS.out _ rfl | exact rc_keep (by assumption) (by assumption) | exact rc_keep (by assumption) ((Below.refl _ _).alloc (Nat.le_refl _) _)) (first | ((with_reducible refine (q1 _).mono ?_); rintro e w' ⟨rfl, bq⟩) | ((with_reducible refine (q2 _).mono ?_); rintro e w' ⟨rfl, bq⟩))
  rename_i wq bq w' bq' hH
  obtain ⟨_, _, _, _, _, c5, bw⟩ := hH
  have HW : FsWf [(1, key), (2, value), (3, D1), (4, D2), (5, note)] := by rw [← H5.out]; exact HW5.out
  have hf5 := list5_at (World.alloc_heap_new w' _) HW
  have hfx := h.below bw
  have HF2 : Hid (full [(1, key), (2, value), (3, D1), (4, D2), (5, note)] ++ extra = fieldsR ⟨key, value, rev, life, note, extra⟩) := by
    show _ = _
    rw [← HF.out, H5.out]
  clear HF H5 HW5 HS h q1 q2 bq bq'
  generalize fieldsR ⟨key, value, rev, life, note, extra⟩ = FR at *
  obtain ⟨F5, hF5⟩ : ∃ F, ([(1, key), (2, value), (3, D1), (4, D2), (5, note)] : List Fld) = F := ⟨_, rfl⟩
  rw [hF5] at HW hf5 HF2
  clear hF5
  generalize w'.heap.size = y at *
  generalize w'.alloc (.cells #[.int .i64 1, .string key, .int .i64 2, .string value, .int .i64 3, .string D1, .int .i64 4, .string D2, .int .i64 5, .string note] 44) = W3 at *
  obtain ⟨hn5, _, _, hat5⟩ := hf5
  obtain ⟨b5, off5, hA5, hb5, hat5⟩ := hat5 (by omega)
  simp only [Option.some.injEq, Addr.mk.injEq, and_true] at hA5
  obtain ⟨hy, ho5⟩ := hA5
  subst hy ho5
  have HN5 := Lib.hid hn5; clear hn5
  have HAT5 := Lib.hid hat5; clear hat5
  have HFX := Lib.hid hfx; clear hfx
  go_wp2_with fail
  go_loopw [4, 27] (fun l i wr => ∃ k : Nat, k ≤ 5 ∧ i = .int .i64 k ∧ wr.ownsRow W3.heap.size 44 2 l (full (F5.take k)).length (cellsF (full (F5.take k))) ∧ Below W3.heap.size W3 wr) (fun _ i _ => 5 - (intOf i).toNat)
  case atStart => exact ⟨0, by omega, rfl, World.ownsRow_nil _ _ _ _, Below.refl _ _⟩
  case round =>
    obtain ⟨k, hk, rfl, hown, hbw⟩ := hrel
    have hlf : (full (F5.take k)).length ≤ k := Nat.le_trans (full_le _) (List.length_take_le _ _)
    obtain ⟨A1, cap1, hv, hcap, hfs⟩ := isFs_own hown (HW.full k)
    subst hv
    by_cases hlt : k < 5
    · have HK : Hid (k < F5.length) := by have := HN5.out; show k < F5.length; omega
      obtain ⟨c1, c2⟩ : wr.cell? ⟨y, k * 2, none⟩ = some (.int .i64 (tg F5 k)) ∧ wr.cell? ⟨y, k * 2 + 1, none⟩ = some (.string (dt F5 k)) := by
        have h := HAT5.out k HK.out
        rw [Nat.zero_add] at h
        exact ⟨(hbw.cell (p := ⟨y, k * 2, none⟩) hb5).trans h.1, (hbw.cell (p := ⟨y, k * 2 + 1, none⟩) hb5).trans h.2⟩
      have hT := full_take HK.out
      have hwf := tg_wf HW HK.out
      have hsz := dt_sz HW HK.out
      by_cases h0 : (dt F5 k).size = 0
      · have HT : Hid (full (F5.take (k + 1)) = full (F5.take k)) := by show _ = _; rw [hT, opt_no h0, List.append_nil]
        have e0 := (toList_size _).2 h0
        clear hT h0
        go_wp2_with fail
        go_roundw
        case rel => exact ⟨k + 1, by omega, by go_num, by rw [HT.out]; exact hown.alloc _, hbw.alloc hbw.size _⟩
        case measure => simp [intOf]; omega
      · have HT : Hid (full (F5.take (k + 1)) = full (F5.take k) ++ [(tg F5 k, dt F5 k)]) := by show _ = _; rw [hT, opt_yes h0]
        have e0 := toList_ne0 h0
        clear hT h0
        have hown2 : ((wr.alloc (.cells #[.int .i64 (tg F5 k), .string (dt F5 k)] 44)).alloc (.cells #[.int .i64 (tg F5 k), .string (dt F5 k)] 44)).ownsRow W3.heap.size 44 2 (.slice A1 (full (F5.take k)).length cap1) (full (F5.take k)).length (cellsF (full (F5.take k))) := (hown.alloc _).alloc _
        have hone : IsFs ((wr.alloc (.cells #[.int .i64 (tg F5 k), .string (dt F5 k)] 44)).alloc (.cells #[.int .i64 (tg F5 k), .string (dt F5 k)] 44)) (some ⟨wr.heap.size + 1, 0, none⟩) 1 [(tg F5 k, dt F5 k)] := by
          have hx := World.alloc_heap_new (wr.alloc (.cells #[.int .i64 (tg F5 k), .string (dt F5 k)] 44)) (.cells #[.int .i64 (tg F5 k), .string (dt F5 k)] 44)
          rw [show (wr.alloc (.cells #[.int .i64 (tg F5 k), .string (dt F5 k)] 44)).heap.size = wr.heap.size + 1 from by simp] at hx
          exact isFs_one (cell_blk hx 0) (cell_blk hx 1) hwf hsz
        have hb2 := (hbw.alloc hbw.size (.cells #[.int .i64 (tg F5 k), .string (dt F5 k)] 44)).alloc (by have := hbw.size; simp; omega) (.cells #[.int .i64 (tg F5 k), .string (dt F5 k)] 44)
        go_wp2_with (at_builtin; refine wpList_append_fs rfl _ _ rfl W3.heap.size _ (full (F5.take k)) rfl hown2 (some ⟨wr.heap.size + 1, 0, none⟩) 1 1 [(tg F5 k, dt F5 k)] rfl hone (by omega) (by have := hb2.size; omega) ?_)
        intro v' V2 hown3 hgrow
        go_wp2_with fail
        go_roundw
        case rel => exact ⟨k + 1, by omega, by go_num, by rw [HT.out, List.length_append]; exact hown3, hb2.grown hgrow hb2.size (fun g hg => (hown2.lt g hg).1)⟩
        case measure => simp [intOf]; omega
    · have hk5 : k = 5 := by omega
      subst hk5
      have HT : Hid (full (F5.take 5) = full F5) := by show _ = _; rw [List.take_of_length_le (by have := HN5.out; omega)]
      have c6 : wr.cell? ⟨w.heap.size, 5, none⟩ = some (.slice A n cap) := (hbw.cell (p := ⟨w.heap.size, 5, none⟩) (lt_of_cell (a := ⟨w.heap.size, 5, none⟩) c5)).trans c5
      have hfx := HFX.out.below hbw
      have hwx := hfx.2.2.1
      have HN := Lib.hid hfx.1
      go_wp2_with (at_builtin; refine wpList_append_fs rfl _ _ rfl W3.heap.size _ (full (F5.take 5)) rfl hown A n cap extra rfl hfx (by omega) hbw.size ?_)
      intro v' V2 hown3 hgrow
      have hwa : FsWf (full (F5.take 5) ++ extra) := (HW.full 5).append hwx
      obtain ⟨A2, cap2, hv, hcap2, hfs2⟩ := isFs_own hown3 hwa
      subst hv
      go_wp2_with fail
      go_ret
      refine ⟨A2, _, cap2, rfl, hcap2, by rw [← HF2.out, ← HT.out]; exact hfs2, bch bw (hbw.grown hgrow hbw.size (fun g hg => (hown.lt g hg).1))⟩
end Go.Proofs.Ytkcmjhpbjgjebaa


/-
  The contracts of record.becomes (a map of functions), of a look-up in it, and of the functions that it holds: each sets one cell of the record, and tells whether Data may be.
-/
namespace Go.Proofs.Ytkcmjhpbjgjebaa
open Go.RowKit
open Go.Maps (Keyed int_keyed keyOf_int_mk)

/-- How a function value of the program reads: as its number. -/
def fnRd (v : Value) : Option (DataW Unit × List MemPlace) :=
  match v with
  | .func (.func f) a b => if a.size = 0 ∧ b.size = 0 then some (.lit (.int .i64 (f : Int)), []) else none
  | .nilFunc => some (.lit (.bool false), [])
  | _ => none
theorem fnRd_inv {v : Value} {f : Nat} {ps : List MemPlace} (h : fnRd v = some (.lit (.int .i64 (f : Int)), ps)) : v = .func (.func f) #[] #[] := by
  unfold fnRd at h
  split at h
  · rename_i g a b
    split at h
    · rename_i hc
      simp only [Option.some.injEq, Prod.mk.injEq, DataW.lit.injEq, Lit.int.injEq, true_and] at h
      have h1 : a = #[] := Array.eq_empty_of_size_eq_zero hc.1
      have h2 : b = #[] := Array.eq_empty_of_size_eq_zero hc.2
      have h3 : g = f := Int.ofNat.inj h.1
      rw [h1, h2, h3]
    · cases h
  · simp at h
  · cases h

theorem wpList_insert_own {H : Type} {P : Program} (w : World) {ops : Array Oper} {rest : List Oper} {o : Oper} {a : Act} {Q : Exit → Act → World → Prop}
    (hg : o.guard = none) (m x v : Operand) (t : TypeId) (hop : o.op = Op.insert t m x v)
    (k e : TypeId) (K : Keyed P k) (ht : P.underlying t = some (.map k e)) (R : Value → Option (DataW H × List MemPlace)) (b n : Nat) (D : DataW H)
    (hm : a.eval m = .map (some b)) (hown : w.ownsMap P k R b n D) (hn : n < maxLen) (key val : Value) (kl : Lit) (hx : a.eval x = key) (hv : a.eval v = val) (hkey : keyOf P k key = some kl)
    (d : DataW H) (ps : List MemPlace) (hval : R val = some (d, ps))
    (hK : ∀ w', w'.ownsMap P k R b (n + 1) (D.put kl d) → w.grownBy w' (some b) → wpList P ops Q rest (a.put o.dst undef) w') :
    wpList P ops Q (o :: rest) a w := by
  refine wpList_plain hg fun K' hK' => ?_
  obtain ⟨w', hrun, r1, r2⟩ := hown.update K ht hn hkey hval
  unfold Oper.wp
  simp [execOp, hop, hm, hx, hv, hrun, Result.andThen]
  exact hK' _ _ (hK w' r1 r2)
theorem wpList_lookup_fn {P : Program} (w : World) {ops : Array Oper} {rest : List Oper} {o : Oper} {a : Act} {Q : Exit → Act → World → Prop}
    (hg : o.guard = none) (m x : Operand) (t : TypeId) (hop : o.op = Op.lookup t m x false)
    (k e : TypeId) (K : Keyed P k) (ht : P.underlying t = some (.map k e)) (hz : (zeroValue e).run P w = .ok .nilFunc w) (b n : Nat) (D : DataW Unit)
    (hm : a.eval m = .map (some b)) (hown : w.ownsMap P k fnRd b n D) (key : Value) (kl : Lit) (hx : a.eval x = key) (hkey : keyOf P k key = some kl)
    (f : Nat) (hat : D.atKey kl (.lit (.bool false)) = .lit (.int .i64 (f : Int)))
    (hK : wpList P ops Q rest (a.put o.dst (.func (.func f) #[] #[])) w) :
    wpList P ops Q (o :: rest) a w := by
  refine wpList_plain hg fun K' hK' => ?_
  obtain ⟨v, ps, hrun, hv⟩ := hown.lookup K ht hz (zd := .lit (.bool false)) (zp := []) rfl hkey
  rw [hat] at hv
  obtain rfl := fnRd_inv hv
  unfold Oper.wp
  simp [execOp, hop, hm, hx, hrun, Result.andThen]
  exact hK' _ _ hK

def numOk (d : ByteArray) : Bool := decide (0 < wholeN d.data.toList)
end Go.Proofs.Ytkcmjhpbjgjebaa


/-
  The contracts of the functions that the map holds: each sets one cell of the record, and tells whether Data may be.
-/
namespace Go.Proofs.Ytkcmjhpbjgjebaa
open Go.RowKit

/-- A record's block. -/
def RcBlk (w : World) (b : Nat) (r : Rcd) (x : Value) : Prop := w.heap[b]? = some (.cells #[.string r.key, .string r.value, .int .i64 r.rev, .int .i64 r.life, .string r.note, x] 24 (0, 0))
theorem RcBlk.kept {w w' : World} {b : Nat} {r : Rcd} {x : Value} {row : Option Nat} (h : RcBlk w b r x) (hg : w.grownBy w' row) (hne : some b ≠ row) : RcBlk w' b r x := Eq.trans (hg.block b (lt_of_blk h) hne) h
theorem RcBlk.below {w w' : World} {b : Nat} {r : Rcd} {x : Value} (h : RcBlk w b r x) (hb : Below w.heap.size w w') : RcBlk w' b r x := Eq.trans (hb.block b (lt_of_blk h)) h
theorem RcBlk.alloc {w : World} {b : Nat} {r : Rcd} {x : Value} (h : RcBlk w b r x) (o : Obj) : RcBlk (w.alloc o) b r x := h.below ((Below.refl _ _).alloc (Nat.le_refl _) o)
theorem RcBlk.cells {w : World} {b : Nat} {r : Rcd} {x : Value} (h : RcBlk w b r x) : w.cell? ⟨b, 0, none⟩ = some (.string r.key) ∧ w.cell? ⟨b, 1, none⟩ = some (.string r.value) ∧ w.cell? ⟨b, 2, none⟩ = some (.int .i64 r.rev) ∧ w.cell? ⟨b, 3, none⟩ = some (.int .i64 r.life) ∧ w.cell? ⟨b, 4, none⟩ = some (.string r.note) ∧ w.cell? ⟨b, 5, none⟩ = some x :=
  ⟨cell_blk h 0, cell_blk h 1, cell_blk h 2, cell_blk h 3, cell_blk h 4, cell_blk h 5⟩
theorem RcBlk.frozen {w : World} {b : Nat} {r : Rcd} {x : Value} (h : RcBlk w b r x) (j : Nat) : w.frozen? ⟨b, j, none⟩ = false := frozen_blk h j
theorem grown_set {w w1 : World} {b j : Nat} {v : Value} (h : Below w.heap.size w w1) : w.grownBy (w1.setCell ⟨b, j, none⟩ v) (some b) :=
  ⟨h.os, h.tape, h.output, by simpa using h.size, fun i hi hne => (heap_setCell_other w1 ⟨b, j, none⟩ i v (fun e => hne (by rw [e]))).trans (h.block i hi)⟩
theorem okD_t1 (d : ByteArray) : okD 1 d = textB d 16 := by rw [Bool.eq_iff_iff, okD_1]; unfold textB; simp; omega
theorem okD_t2 (d : ByteArray) : okD 2 d = textB d 200 := by rw [Bool.eq_iff_iff, okD_2]; unfold textB; simp; omega
theorem okD_t5 (d : ByteArray) : okD 5 d = textB d 40 := by rw [Bool.eq_iff_iff, okD_5]; unfold textB; simp; omega
theorem okD_t3 (d : ByteArray) : okD 3 d = numOk d := by rw [Bool.eq_iff_iff, okD_3]; unfold numOk; simp
theorem okD_t4 (d : ByteArray) : okD 4 d = numOk d := by rw [Bool.eq_iff_iff, okD_4]; unfold numOk; simp
/-- What a setter leaves. -/
def SetPost (b : Nat) (r : Rcd) (x : Value) (t : Int) (d : ByteArray) (w : World) (e : Ending) (w' : World) : Prop :=
  e = .returned (.bool (okD t d)) ∧ (okD t d = true → RcBlk w' b (setR r t d) x) ∧ w.grownBy w' (some b)

end Go.Proofs.Ytkcmjhpbjgjebaa


/-
  The contract of record.recordOf: what recP and accR say, in new memory; nothing that was in memory changes.
-/
namespace Go.Proofs.Ytkcmjhpbjgjebaa
open Go.RowKit
open Go.Maps (Keyed int_keyed keyOf_int_mk)

theorem acc_mem (v : Int) : ∀ (l : List Fld) (r : Rcd), (∀ f ∈ (l.foldl (stepR v) r).extra, f ∈ r.extra ∨ f ∈ l) ∧ (l.foldl (stepR v) r).extra.length ≤ r.extra.length + l.length := by
  intro l
  induction l with
  | nil => intro r; exact ⟨fun f hf => .inl hf, by simp⟩
  | cons g l ih =>
    intro r
    rw [List.foldl_cons]
    obtain ⟨h1, h2⟩ := ih (stepR v r g)
    have hs : (stepR v r g).extra = r.extra ∨ (stepR v r g).extra = r.extra ++ [g] := by
      unfold stepR
      cases knowB v g.1 with
      | true =>
        left
        unfold setR
        simp only [if_true]
        split
        · rfl
        · split
          · rfl
          · split
            · rfl
            · split <;> rfl
      | false => right; rfl
    refine ⟨fun f hf => ?_, ?_⟩
    · rcases h1 f hf with h | h
      · rcases hs with hs | hs
        · rw [hs] at h; exact .inl h
        · rw [hs] at h
          rcases List.mem_append.1 h with h | h
          · exact .inl h
          · exact .inr (by rw [List.mem_singleton] at h; rw [h]; exact List.mem_cons_self)
      · exact .inr (List.mem_cons_of_mem _ h)
    · rw [List.length_cons]
      rcases hs with hs | hs <;> rw [hs] at h2
      · omega
      · rw [List.length_append, List.length_singleton] at h2; omega
theorem acc_wf {v : Int} {fs : List Fld} (h : FsWf fs) (k : Nat) : FsWf (accR v (fs.take k)).extra := fun f hf => by
  rcases (acc_mem v (fs.take k) zeroR).1 f hf with h2 | h2
  · cases h2
  · exact h f (List.mem_of_mem_take h2)
theorem acc_len (v : Int) (fs : List Fld) (k : Nat) : (accR v (fs.take k)).extra.length ≤ k := by
  have := (acc_mem v (fs.take k) zeroR).2
  have h2 : (fs.take k).length ≤ k := List.length_take_le _ _
  have h3 : zeroR.extra.length = 0 := rfl
  unfold accR; omega
theorem set_extra (r : Rcd) (t : Int) (d : ByteArray) : (setR r t d).extra = r.extra := by
  unfold setR
  split
  · rfl
  · split
    · rfl
    · split
      · rfl
      · split <;> rfl
theorem step_known {v : Int} {r : Rcd} {t : Int} {d : ByteArray} (h : knowB v t = true) : stepR v r (t, d) = setR r t d := by unfold stepR; rw [if_pos h]
theorem step_other {v : Int} {r : Rcd} {t : Int} {d : ByteArray} (h : knowB v t = false) : stepR v r (t, d) = { r with extra := r.extra ++ [(t, d)] } := by unfold stepR; simp [h]

theorem run_callFunc_body {P : Program} {f : FuncId} {fn : Func} (hf : P.funcs[f]? = some fn) (hname : (fn.name == "runtime.NumGoroutine") = false) (hb : fn.body.isNone = false) (args : Array Value) (w : World) :
    (callFunc f args).run P w = .ok (.enter f args) w := by
  have h1 : fn.name ≠ "runtime.NumGoroutine" := by simpa using hname
  have h2 : fn.body ≠ none := by intro h; rw [h] at hb; cases hb
  simp [callFunc, hf, h1, h2]
theorem bch2 {B : Nat} {a b c : World} (h : Below B a b) (k : Below b.heap.size b c) (hB : B ≤ b.heap.size := by first | assumption | omega) : Below B a c := h.trans (k.mono hB)

theorem slice_addr {A B : Option Addr} {n m c d : Nat} (h : Value.slice A n c = .slice B m d) : A = B := by cases h; rfl
/-- A slice that lies in new memory. -/
def NewAt (B : Nat) (A : Option Addr) : Prop := ∀ b off, A = some ⟨b, off, none⟩ → B ≤ b
theorem newAt_none (B : Nat) : NewAt B none := fun b off h => by cases h
theorem newAt_own {w : World} {base B n cap n' : Nat} {A : Option Addr} {e : TypeId} {xs : List Value} {sz : Nat} (h : w.ownsRow base e sz (.slice A n cap) n' xs) (hB : B ≤ base) : NewAt B A := fun b off hA => by
  subst hA
  exact Nat.le_trans hB (h.lt b rfl).1

/-- What recordOf leaves. -/
def RofPost (w : World) (ok : Bool) (r : Rcd) (e : Ending) (w' : World) : Prop :=
  ∃ A n cap, e = .returned (.tuple #[rcV (if ok then r else zeroR) (.slice A n cap), .bool ok]) ∧ n ≤ cap ∧ IsFs w' A n (if ok then r else zeroR).extra ∧ NewAt w.heap.size A ∧ Below w.heap.size w w'

end Go.Proofs.Ytkcmjhpbjgjebaa


/-
  The contract of record.Decode: what recD says, in new memory; nothing that was in memory changes.
-/
namespace Go.Proofs.Ytkcmjhpbjgjebaa
open Go.RowKit

/-- What Decode leaves. -/
def RecPost (w : World) (r : Rcd × Nat) (e : Ending) (w' : World) : Prop :=
  ∃ A n cap, e = .returned (.tuple #[rcV r.1 (.slice A n cap), .int .i64 r.2]) ∧ n ≤ cap ∧ IsFs w' A n r.1.extra ∧ NewAt w.heap.size A ∧ Below w.heap.size w w'
theorem recD_ver {v : Int} {s : List UInt8} (h : ¬ (v = 1 ∨ v = 2)) : recD v s = (zeroR, 1) := by unfold recD; rw [if_pos h]
theorem recD_err {v : Int} {s : List UInt8} (h : v = 1 ∨ v = 2) {fs : List Fld} {e : Nat} (hd : decR s = (fs, e)) (he : e ≠ 0) : recD v s = (zeroR, e) := by
  unfold recD; rw [if_neg (fun h2 => h2 h), hd]; simp only; rw [if_pos he]
theorem recD_key {v : Int} {s : List UInt8} (h : v = 1 ∨ v = 2) {fs : List Fld} (hd : decR s = (fs, 0)) (hf : (findR fs 1).2 = false) : recD v s = (zeroR, 20) := by
  unfold recD; rw [if_neg (fun h2 => h2 h), hd]; simp only; rw [if_neg (by simp), if_pos hf]
theorem recD_known {v : Int} {s : List UInt8} (h : v = 1 ∨ v = 2) {fs : List Fld} (hd : decR s = (fs, 0)) (hf : (findR fs 1).2 = true) (hp : recP v fs = false) : recD v s = (zeroR, 21) := by
  unfold recD; rw [if_neg (fun h2 => h2 h), hd]; simp only; rw [if_neg (by simp), if_neg (by simp [hf]), if_pos hp]
theorem recD_ok {v : Int} {s : List UInt8} (h : v = 1 ∨ v = 2) {fs : List Fld} (hd : decR s = (fs, 0)) (hf : (findR fs 1).2 = true) (hp : recP v fs = true) : recD v s = (accR v fs, 0) := by
  unfold recD; rw [if_neg (fun h2 => h2 h), hd]; simp only; rw [if_neg (by simp), if_neg (by simp [hf]), if_neg (by simp [hp])]

theorem isFs_set {w : World} {A : Option Addr} {n : Nat} {fs : List Fld} (h : IsFs w A n fs) {B : Nat} (hB : ∀ b off, A = some ⟨b, off, none⟩ → 0 < n → b ≠ B) (j : Nat) (u : Value) : IsFs (w.setCell ⟨B, j, none⟩ u) A n fs := by
  obtain ⟨h1, h2, h3, h4⟩ := h
  refine ⟨h1, h2, h3, fun hn => ?_⟩
  obtain ⟨b, off, hA, hlt, hc⟩ := h4 hn
  have hne := hB b off hA hn
  refine ⟨b, off, hA, by simpa using hlt, fun i hi => ?_⟩
  obtain ⟨c1, c2⟩ := hc i hi
  exact ⟨(World.cell?_of_block (a := ⟨b, off + i * 2, none⟩) (heap_setCell_other w ⟨B, j, none⟩ b u hne)).trans c1, (World.cell?_of_block (a := ⟨b, off + i * 2 + 1, none⟩) (heap_setCell_other w ⟨B, j, none⟩ b u hne)).trans c2⟩
theorem below_set6 {B : Nat} {a w : World} (h : Below B a w) (u0 u1 u2 u3 u4 u5 : Value) : Below B a ((((((w.setCell ⟨B, 0, none⟩ u0).setCell ⟨B, 1, none⟩ u1).setCell ⟨B, 2, none⟩ u2).setCell ⟨B, 3, none⟩ u3).setCell ⟨B, 4, none⟩ u4).setCell ⟨B, 5, none⟩ u5) :=
  (((((h.setCell (Nat.le_refl _) _).setCell (Nat.le_refl _) _).setCell (Nat.le_refl _) _).setCell (Nat.le_refl _) _).setCell (Nat.le_refl _) _).setCell (Nat.le_refl _) _
theorem newAt_ne {B B2 : Nat} {A : Option Addr} {n : Nat} (h : NewAt B A) (hB : B2 < B) : ∀ b off, A = some ⟨b, off, none⟩ → 0 < n → b ≠ B2 := fun b off hA _ => by have := h b off hA; omega
theorem isFs_set6 {w : World} {A : Option Addr} {n : Nat} {fs : List Fld} (h : IsFs w A n fs) {B B2 : Nat} (h2 : NewAt B2 A) (hB : B < B2) (u0 u1 u2 u3 u4 u5 : Value) : IsFs ((((((w.setCell ⟨B, 0, none⟩ u0).setCell ⟨B, 1, none⟩ u1).setCell ⟨B, 2, none⟩ u2).setCell ⟨B, 3, none⟩ u3).setCell ⟨B, 4, none⟩ u4).setCell ⟨B, 5, none⟩ u5) A n fs :=
  isFs_set (isFs_set (isFs_set (isFs_set (isFs_set (isFs_set h (newAt_ne h2 hB) 0 u0) (newAt_ne h2 hB) 1 u1) (newAt_ne h2 hB) 2 u2) (newAt_ne h2 hB) 3 u3) (newAt_ne h2 hB) 4 u4) (newAt_ne h2 hB) 5 u5
theorem NewAt.mono {B B2 : Nat} {A : Option Addr} (h : NewAt B A) (hB : B2 ≤ B) : NewAt B2 A := fun b off hA => Nat.le_trans hB (h b off hA)

end Go.Proofs.Ytkcmjhpbjgjebaa

