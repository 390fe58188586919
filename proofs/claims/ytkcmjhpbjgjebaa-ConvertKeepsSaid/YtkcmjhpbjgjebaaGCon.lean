import Derived.Test.YtkcmjhpbjgjebaaGRec
import Derived.Test.YtkcmjhpbjgjebaaGMath
import Derived.Deep.Onto
import Derived.Test.YtkcmjhpbjgjebaaRecRefDecode
import Derived.Deep.RegionHeld3
import Derived.Deep.DeepCutAuto
import Derived.Deep.RegionLaw
import Derived.BigRegion
/-
  The contracts of convert.becomes (what a carried field becomes, as an interface value) and of convert.take (what is put into the record).
-/
namespace Go.Proofs.Ytkcmjhpbjgjebaa
open Go.RowKit

theorem ta_yes {P : Program} {w : World} {xT t : TypeId} {v : Value} (h : P.concrete t = true) : (Instr.typeAssert (.iface t v) xT t true).run P w = .ok (.tuple #[v, .bool true]) w := by
  unfold Program.concrete at h
  cases hd : P.underlying t with
  | none => simp [hd] at h
  | some d => cases d <;> first | (simp [hd] at h; done) | simp [Instr.typeAssert, run_underlying hd]
theorem ta_no {P : Program} {w : World} {xT t a : TypeId} {v z : Value} (h : P.concrete a = true) (hne : t ≠ a) (hz : (zeroValue a).run P w = .ok z w) : (Instr.typeAssert (.iface t v) xT a true).run P w = .ok (.tuple #[z, .bool false]) w := by
  unfold Program.concrete at h
  cases hd : P.underlying a with
  | none => simp [hd] at h
  | some d => cases d <;> first | (simp [hd] at h; done) | simp [Instr.typeAssert, run_underlying hd, hne, hz]

theorem zLife (w : World) : (zeroValue 59).run Try.prog w = .ok (.int .i64 0) w := by kernel_rfl
theorem zNote (w : World) : (zeroValue 60).run Try.prog w = .ok (.string ⟨#[]⟩) w := by kernel_rfl
theorem zFld (w : World) : (zeroValue 44).run Try.prog w = .ok (.agg #[.int .i64 0, .string ⟨#[]⟩]) w := by kernel_rfl

@[go_sem] theorem taLL (v : Value) (w : World) : (Instr.typeAssert (.iface 59 v) 49 59 true).run Try.prog w = .ok (.tuple #[v, .bool true]) w := ta_yes (by kernel_rfl)
@[go_sem] theorem taNL (v : Value) (w : World) : (Instr.typeAssert (.iface 60 v) 49 59 true).run Try.prog w = .ok (.tuple #[.int .i64 0, .bool false]) w := ta_no (by kernel_rfl) (by decide) (zLife w)
@[go_sem] theorem taFL (v : Value) (w : World) : (Instr.typeAssert (.iface 44 v) 49 59 true).run Try.prog w = .ok (.tuple #[.int .i64 0, .bool false]) w := ta_no (by kernel_rfl) (by decide) (zLife w)
@[go_sem] theorem taEL (v : Value) (w : World) : (Instr.typeAssert (.iface 31 v) 49 59 true).run Try.prog w = .ok (.tuple #[.int .i64 0, .bool false]) w := ta_no (by kernel_rfl) (by decide) (zLife w)
@[go_sem] theorem taNN (v : Value) (w : World) : (Instr.typeAssert (.iface 60 v) 49 60 true).run Try.prog w = .ok (.tuple #[v, .bool true]) w := ta_yes (by kernel_rfl)
@[go_sem] theorem taFN (v : Value) (w : World) : (Instr.typeAssert (.iface 44 v) 49 60 true).run Try.prog w = .ok (.tuple #[.string ⟨#[]⟩, .bool false]) w := ta_no (by kernel_rfl) (by decide) (zNote w)
@[go_sem] theorem taEN (v : Value) (w : World) : (Instr.typeAssert (.iface 31 v) 49 60 true).run Try.prog w = .ok (.tuple #[.string ⟨#[]⟩, .bool false]) w := ta_no (by kernel_rfl) (by decide) (zNote w)
@[go_sem] theorem taFF (v : Value) (w : World) : (Instr.typeAssert (.iface 44 v) 49 44 true).run Try.prog w = .ok (.tuple #[v, .bool true]) w := ta_yes (by kernel_rfl)
@[go_sem] theorem taEF (v : Value) (w : World) : (Instr.typeAssert (.iface 31 v) 49 44 true).run Try.prog w = .ok (.tuple #[.agg #[.int .i64 0, .string ⟨#[]⟩], .bool false]) w := ta_no (by kernel_rfl) (by decide) (zFld w)
@[go_sem] theorem taEE (v : Value) (w : World) : (Instr.typeAssert (.iface 31 v) 49 31 true).run Try.prog w = .ok (.tuple #[v, .bool true]) w := ta_yes (by kernel_rfl)

/-- What a carried field becomes. -/
def becV (t : Int) (d : ByteArray) : Value :=
  if t = 4 then (if okD 4 d then .iface 59 (.int .i64 (wholeN d.data.toList)) else .iface 31 (.int .i64 21))
  else if t = 5 then (if okD 5 d then .iface 60 (.string d) else .iface 31 (.int .i64 21))
  else .iface 44 (.agg #[.int .i64 t, .string d])
theorem ret_eq {a b : Value} (h : a = b) : Ending.returned a = .returned b := by rw [h]

set_option maxRecDepth 100000 in
set_option maxHeartbeats 2000000 in
theorem cbecomes_any (t : Int) (d : ByteArray) (hd : d.size ≤ maxLen) (w : World) :
    Calls Try.prog 23 #[.agg #[.int .i64 t, .string d]] w fun e w' => e = .returned (becV t d) ∧ Below w.heap.size w w' := by
  have hb0 : Below w.heap.size w (w.alloc (.cells #[.int .i64 t, .string d] 44)) := (Below.refl _ _).alloc (Nat.le_refl _) _
  have hx := World.alloc_heap_new w (.cells #[.int .i64 t, .string d] 44)
  have hz : w.heap.size < (w.alloc (.cells #[.int .i64 t, .string d] 44)).heap.size := by simp
  by_cases h4 : t = 4
  · subst h4
    have hp := take_any d hd (w.alloc (.cells #[.int .i64 4, .string d] 44))
    have he := takeR_err d.data.toList
    have HB : Hid (becV 4 d = if okD 4 d then .iface 59 (.int .i64 (wholeN d.data.toList)) else .iface 31 (.int .i64 21)) := by show _ = _; unfold becV; rw [if_pos rfl]
    have HO := Lib.hid (okD_4 d)
    have hl : d.data.toList.length = d.size := by simp
    obtain ⟨W, hW⟩ : ∃ W, wholeN d.data.toList = W := ⟨_, rfl⟩
    rw [hW] at HB HO
    unfold wholeN at hW
    rw [hl] at hW
    clear hl
    unfold maxLen at hd
    generalize (takeR d.data.toList).1 = n at *
    generalize (takeR d.data.toList).2.1 = k at *
    generalize (takeR d.data.toList).2.2 = x at *
    have HW := Lib.hid hW; clear hW
    rcases he with rfl | rfl | rfl
    · by_cases hk : k = d.size
      · have hn : W = n := by have := HW.out; rw [if_pos ⟨rfl, hk⟩] at this; exact this.symm
        subst hn
        have e1 : ((k : Int) != (d.size : Int)) = false := by simp; omega
        clear hk
        by_cases h0 : W = 0
        · have HE : Hid (okD 4 d = false) := by show _ = _; rw [Bool.eq_false_iff]; intro h; have := HO.out.1 h; omega
          subst h0
          go_enter Try.func23, Try.ntmps23
          go_wp2_with fail
          ((with_reducible refine hp.mono ?_); rintro e w1 ⟨rfl, b1⟩)
          have c1 := (b1.cell (p := ⟨w.heap.size, 1, none⟩) hz).trans (cell_blk hx 1)
          go_wp2_with fail
          go_ret
          exact ⟨ret_eq (by rw [HB.out, HE.out]; rfl), bch hb0 b1⟩
        · have HE : Hid (okD 4 d = true) := HO.out.2 (by omega)
          have e2 : ((W : Int) == 0) = false := by simp; omega
          clear h0
          go_enter Try.func23, Try.ntmps23
          go_wp2_with fail
          ((with_reducible refine hp.mono ?_); rintro e w1 ⟨rfl, b1⟩)
          have c1 := (b1.cell (p := ⟨w.heap.size, 1, none⟩) hz).trans (cell_blk hx 1)
          go_wp2_with fail
          go_ret
          exact ⟨ret_eq (by rw [HB.out, HE.out]; rfl), bch hb0 b1⟩
      · have HE : Hid (okD 4 d = false) := by show _ = _; rw [Bool.eq_false_iff]; intro h; have := HO.out.1 h; have h2 := HW.out; rw [if_neg (fun h => hk h.2)] at h2; omega
        have e1 : ((k : Int) != (d.size : Int)) = true := by simp; omega
        clear hk
        go_enter Try.func23, Try.ntmps23
        go_wp2_with fail
        ((with_reducible refine hp.mono ?_); rintro e w1 ⟨rfl, b1⟩)
        have c1 := (b1.cell (p := ⟨w.heap.size, 1, none⟩) hz).trans (cell_blk hx 1)
        go_wp2_with fail
        go_ret
        exact ⟨ret_eq (by rw [HB.out, HE.out]; rfl), bch hb0 b1⟩
    all_goals
      have HE : Hid (okD 4 d = false) := by show _ = _; rw [Bool.eq_false_iff]; intro h; have := HO.out.1 h; have h2 := HW.out; rw [if_neg (fun h => by omega)] at h2; omega
      go_enter Try.func23, Try.ntmps23
      go_wp2_with fail
      ((with_reducible refine hp.mono ?_); rintro e w1 ⟨rfl, b1⟩)
      have c1 := (b1.cell (p := ⟨w.heap.size, 1, none⟩) hz).trans (cell_blk hx 1)
      go_wp2_with fail
      go_ret
      exact ⟨ret_eq (by rw [HB.out, HE.out]; rfl), bch hb0 b1⟩
  · by_cases h5 : t = 5
    · subst h5
      have HB : Hid (becV 5 d = if okD 5 d then .iface 60 (.string d) else .iface 31 (.int .i64 21)) := by show _ = _; unfold becV; rw [if_neg (by decide), if_pos rfl]
      have HO := Lib.hid (okD_5 d)
      unfold maxLen at hd
      clear hx hz h4
      by_cases h0 : d.size = 0
      · have HE : Hid (okD 5 d = false) := by show _ = _; rw [Bool.eq_false_iff]; intro h; have := HO.out.1 h; omega
        have e0 := (toList_size d).2 h0
        clear h0
        go_enter Try.func23, Try.ntmps23
        go_wp2_with fail
        go_ret
        exact ⟨ret_eq (by rw [HB.out, HE.out]; rfl), hb0⟩
      · have e0 := toList_ne0 h0
        by_cases h40 : d.size ≤ 40
        · have HE : Hid (okD 5 d = true) := HO.out.2 ⟨by omega, h40⟩
          clear h0
          go_enter Try.func23, Try.ntmps23
          go_wp2_with fail
          go_ret
          exact ⟨ret_eq (by rw [HB.out, HE.out]; rfl), hb0⟩
        · have HE : Hid (okD 5 d = false) := by show _ = _; rw [Bool.eq_false_iff]; intro h; have := HO.out.1 h; omega
          clear h0
          go_enter Try.func23, Try.ntmps23
          go_wp2_with fail
          go_ret
          exact ⟨ret_eq (by rw [HB.out, HE.out]; rfl), hb0⟩
    · have HB : Hid (becV t d = .iface 44 (.agg #[.int .i64 t, .string d])) := by show _ = _; unfold becV; rw [if_neg h4, if_neg h5]
      have e4 : (t == 4) = false := by simpa using h4
      have e5 : (t == 5) = false := by simpa using h5
      clear hx hz h4 h5
      go_enter Try.func23, Try.ntmps23
      go_wp2_with fail
      go_ret
      exact ⟨ret_eq (by rw [HB.out]; rfl), hb0⟩

set_option maxRecDepth 100000 in
set_option maxHeartbeats 2000000 in
theorem ctake_err (b : Nat) (n : Int) (w : World) :
    Calls Try.prog 22 #[.pointer (some ⟨b, 0, none⟩), .iface 31 (.int .i64 n)] w fun e w' => e = .returned (.int .i64 n) ∧ w = w' := by
  go_enter Try.func22, Try.ntmps22
  go_wp2_with fail
  go_ret
  exact ⟨rfl, rfl⟩
set_option maxRecDepth 100000 in
set_option maxHeartbeats 2000000 in
theorem ctake_life (b : Nat) (r : Rcd) (x : Value) (n : Int) (w : World) (h : RcBlk w b r x) :
    Calls Try.prog 22 #[.pointer (some ⟨b, 0, none⟩), .iface 59 (.int .i64 n)] w fun e w' => e = .returned (.int .i64 0) ∧ w' = w.setCell ⟨b, 3, none⟩ (.int .i64 n) := by
  have c3 := h.cells.2.2.2.1
  have f3 := h.frozen 3
  have hl := lt_of_blk h
  clear h
  go_enter Try.func22, Try.ntmps22
  go_wp2_with fail
  go_ret
  exact ⟨rfl, rfl⟩
set_option maxRecDepth 100000 in
set_option maxHeartbeats 2000000 in
theorem ctake_note (b : Nat) (r : Rcd) (x : Value) (s : ByteArray) (w : World) (h : RcBlk w b r x) :
    Calls Try.prog 22 #[.pointer (some ⟨b, 0, none⟩), .iface 60 (.string s)] w fun e w' => e = .returned (.int .i64 0) ∧ w' = w.setCell ⟨b, 4, none⟩ (.string s) := by
  have c4 := h.cells.2.2.2.2.1
  have f4 := h.frozen 4
  have hl := lt_of_blk h
  clear h
  go_enter Try.func22, Try.ntmps22
  go_wp2_with fail
  go_ret
  exact ⟨rfl, rfl⟩
end Go.Proofs.Ytkcmjhpbjgjebaa


/-
  The contracts of convert.carried, convert.copyOf and of the document's own 'own': fields in a row of the call's own.
-/
namespace Go.Proofs.Ytkcmjhpbjgjebaa
open Go.RowKit

/-- What is left: fields in a row of the call's own. -/
def OwnPost (w : World) (fs : List Fld) (e : Ending) (w' : World) : Prop :=
  ∃ A cap, e = .returned (.slice A fs.length cap) ∧ w'.ownsRow w.heap.size 44 2 (.slice A fs.length cap) fs.length (cellsF fs) ∧ FsWf fs ∧ Below w.heap.size w w'

theorem wf4 : (Lit.int .i64 4).wf = true := by decide
theorem wf5 : (Lit.int .i64 5).wf = true := by decide
theorem fsWf_nil : FsWf [] := fun f hf => by cases hf
set_option maxRecDepth 100000 in
set_option maxHeartbeats 2000000 in
theorem refown_any (A : Option Addr) (n cap : Nat) (fs : List Fld) (w : World) (h : IsFs w A n fs) (h64 : n ≤ 900) :
    Calls Try.prog 29 #[.slice A n cap] w (OwnPost w fs) := by
  have hwf := h.2.2.1
  have hown : w.ownsRow w.heap.size 44 2 (.slice none 0 0) ([] : List Fld).length (cellsF []) := World.ownsRow_nil _ _ _ _
  go_enter Try.func29, Try.ntmps29
  go_wp2_with (at_builtin; refine wpList_append_fs rfl _ _ rfl w.heap.size _ [] rfl hown A n cap fs rfl h (by simp; omega) (Nat.le_refl _) ?_)
  intro v' w2 hown2 hgrow
  obtain ⟨A2, cap2, hv, hcap2, _⟩ := isFs_own hown2 hwf
  subst hv
  have hbw : Below w.heap.size w w2 := (Below.refl _ _).grown hgrow (Nat.le_refl _) (fun g hg => by simp [Value.ownBlock] at hg)
  go_wp2_with fail
  go_ret
  exact ⟨A2, cap2, rfl, hown2, hwf, hbw⟩

theorem numD_yes {n : Int} (h : n ≠ 0) : (numD n).size ≠ 0 := fun h2 => h (numD_zero.1 h2)

set_option maxRecDepth 100000 in
set_option maxHeartbeats 4000000 in
theorem carried_any (r : Rcd) (x : Value) (h1 : 0 ≤ r.life) (h2 : r.life ≤ 9007199254740992) (hs : r.note.size ≤ 9223372036854775807) (w : World) :
    Calls Try.prog 26 #[rcV r x] w (OwnPost w (opt 4 (ob (numD r.life)) ++ opt 5 (ob r.note))) := by
  have z4 := numD_size h1 h2
  obtain ⟨key, value, rev, life, note, extra⟩ := r
  simp only at *
  have hb0 : Below w.heap.size w (w.alloc (.cells #[.string key, .string value, .int .i64 rev, .int .i64 life, .string note, x] 24)) := (Below.refl _ _).alloc (Nat.le_refl _) _
  have hx := World.alloc_heap_new w (.cells #[.string key, .string value, .int .i64 rev, .int .i64 life, .string note, x] 24)
  have hz : w.heap.size < (w.alloc (.cells #[.string key, .string value, .int .i64 rev, .int .i64 life, .string note, x] 24)).heap.size := by simp
  have g4 := cell_blk hx 4
  clear hx
  by_cases h0 : life = 0
  · have HO4 : Hid (opt 4 (ob (numD life)) = []) := opt_no (numD_zero.2 h0)
    subst h0
    by_cases h5 : note.size = 0
    · have HO5 : Hid (opt 5 (ob note) = []) := opt_no h5
      have e5 := (toList_size _).2 h5
      clear h5
      go_enter Try.func26, Try.ntmps26
      go_wp2_with fail
      go_ret
      rw [HO4.out, HO5.out]
      exact ⟨none, 0, rfl, World.ownsRow_nil _ _ _ _, fsWf_nil, hb0⟩
    · have HO5 : Hid (opt 5 (ob note) = [(5, note)]) := opt_yes h5
      have e5 := toList_ne0 h5
      clear h5
      have hwf : FsWf [(5, note)] := fun f hf => by rw [List.mem_singleton] at hf; subst hf; exact ⟨wf5, hs⟩
      have hb1 := hb0.alloc hb0.size (.cells #[.int .i64 5, .string note] 44)
      have hown : ((w.alloc (.cells #[.string key, .string value, .int .i64 rev, .int .i64 0, .string note, x] 24)).alloc (.cells #[.int .i64 5, .string note] 44)).ownsRow w.heap.size 44 2 (.slice none 0 0) ([] : List Fld).length (cellsF []) := World.ownsRow_nil _ _ _ _
      have hone : IsFs ((w.alloc (.cells #[.string key, .string value, .int .i64 rev, .int .i64 0, .string note, x] 24)).alloc (.cells #[.int .i64 5, .string note] 44)) (some ⟨(w.alloc (.cells #[.string key, .string value, .int .i64 rev, .int .i64 0, .string note, x] 24)).heap.size, 0, none⟩) 1 [(5, note)] := by
        have hx := World.alloc_heap_new (w.alloc (.cells #[.string key, .string value, .int .i64 rev, .int .i64 0, .string note, x] 24)) (.cells #[.int .i64 5, .string note] 44)
        exact isFs_one (cell_blk hx 0) (cell_blk hx 1) (by decide) hs
      have hsz : (w.alloc (.cells #[.string key, .string value, .int .i64 rev, .int .i64 0, .string note, x] 24)).heap.size = w.heap.size + 1 := by simp
      rw [hsz] at hone
      clear hsz
      go_enter Try.func26, Try.ntmps26
      go_wp2_with (at_builtin; refine wpList_append_fs rfl _ _ rfl w.heap.size _ [] rfl hown (some ⟨w.heap.size + 1, 0, none⟩) 1 1 [(5, note)] rfl hone (by simp) hb1.size ?_)
      intro v' w2 hown2 hgrow
      obtain ⟨A2, cap2, hv, hcap2, _⟩ := isFs_own hown2 hwf
      subst hv
      have hbw : Below w.heap.size w w2 := hb1.grown hgrow hb1.size (fun g hg => by simp [Value.ownBlock] at hg)
      go_wp2_with fail
      go_ret
      rw [HO4.out, HO5.out]
      exact ⟨A2, cap2, rfl, hown2, hwf, hbw⟩
  · have HO4 : Hid (opt 4 (ob (numD life)) = [(4, numD life)]) := opt_yes (numD_yes h0)
    have hp := put_ok life h1 h2 (w.alloc (.cells #[.string key, .string value, .int .i64 rev, .int .i64 life, .string note, x] 24))
    rw [← numD_bs h0] at hp
    have e0 : (life != 0) = true := by simpa using h0
    clear h0
    generalize numD life = D at *
    have hwf4 : FsWf [(4, D)] := fun f hf => by rw [List.mem_singleton] at hf; subst hf; exact ⟨wf4, by show D.size ≤ _; omega⟩
    go_enter Try.func26, Try.ntmps26
    go_wp2_with fail
    ((with_reducible refine hp.mono ?_); rintro e w1 ⟨rfl, b1⟩)
    have g4 := (b1.cell (p := ⟨w.heap.size, 4, none⟩) hz).trans g4
    have hb1 := bch hb0 b1
    have hz1 : w.heap.size < w1.heap.size := by have := b1.size; omega
    have hb2 := hb1.alloc hb1.size (.cells #[.int .i64 4, .string D] 44)
    have hown : (w1.alloc (.cells #[.int .i64 4, .string D] 44)).ownsRow w1.heap.size 44 2 (.slice none 0 0) ([] : List Fld).length (cellsF []) := World.ownsRow_nil _ _ _ _
    have hone : IsFs (w1.alloc (.cells #[.int .i64 4, .string D] 44)) (some ⟨w1.heap.size, 0, none⟩) 1 [(4, D)] := by
      have hx := World.alloc_heap_new w1 (.cells #[.int .i64 4, .string D] 44)
      exact isFs_one (cell_blk hx 0) (cell_blk hx 1) (by decide) (by omega)
    have g4 := ((Below.refl w1.heap.size w1).alloc (Nat.le_refl _) (.cells #[.int .i64 4, .string D] 44)).cell (p := ⟨w.heap.size, 4, none⟩) hz1 |>.trans g4
    clear b1 hb0 hp
    go_wp2_with (at_builtin; refine wpList_append_fs rfl _ _ rfl w1.heap.size _ [] rfl hown (some ⟨w1.heap.size, 0, none⟩) 1 1 [(4, D)] rfl hone (by simp) (by simp) ?_)
    intro v' w2 hown2 hgrow
    obtain ⟨A2, cap2, hv, hcap2, _⟩ := isFs_own hown2 hwf4
    subst hv
    have hbw : Below w.heap.size w w2 := hb2.grown hgrow hb2.size (fun g hg => by simp [Value.ownBlock] at hg)
    have hs2 : w1.heap.size ≤ w2.heap.size := by have := hgrow.size; simp at this; omega
    have g4 : w2.cell? ⟨w.heap.size, 4, none⟩ = some (.string note) := Eq.trans (World.cell?_of_block (a := ⟨w.heap.size, 4, none⟩) (hgrow.block w.heap.size (by simp; omega) (by simp [Value.ownBlock]))) g4
    clear hone hown hgrow hb1 hb2
    by_cases h5 : note.size = 0
    · have HO5 : Hid (opt 5 (ob note) = []) := opt_no h5
      have e5 := (toList_size _).2 h5
      clear h5
      go_wp2_with fail
      go_ret
      rw [HO4.out, HO5.out]
      exact ⟨A2, cap2, rfl, hown2.mono (by omega), hwf4, hbw⟩
    · have HO5 : Hid (opt 5 (ob note) = [(5, note)]) := opt_yes h5
      have e5 := toList_ne0 h5
      clear h5
      have hwf5 : FsWf ([(4, D)] ++ [(5, note)]) := hwf4.append (fun f hf => by rw [List.mem_singleton] at hf; subst hf; exact ⟨wf5, hs⟩)
      have hb3 := hbw.alloc hbw.size (.cells #[.int .i64 5, .string note] 44)
      have hown3 := hown2.alloc (.cells #[.int .i64 5, .string note] 44)
      have hone : IsFs (w2.alloc (.cells #[.int .i64 5, .string note] 44)) (some ⟨w2.heap.size, 0, none⟩) 1 [(5, note)] := by
        have hx := World.alloc_heap_new w2 (.cells #[.int .i64 5, .string note] 44)
        exact isFs_one (cell_blk hx 0) (cell_blk hx 1) (by decide) hs
      have HLT := Lib.hid hown3.lt
      clear hown2
      go_wp2_with (at_builtin; refine wpList_append_fs rfl _ _ rfl w1.heap.size _ [(4, D)] rfl hown3 (some ⟨w2.heap.size, 0, none⟩) 1 1 [(5, note)] rfl hone (by simp) (by simp; omega) ?_)
      intro v' w4 hown4 hgrow4
      obtain ⟨A4, cap4, hv, hcap4, _⟩ := isFs_own hown4 hwf5
      subst hv
      have hbw4 : Below w.heap.size w w4 := hb3.grown hgrow4 hb3.size (fun g hg => by have := (HLT.out g hg).1; omega)
      go_wp2_with fail
      go_ret
      rw [HO4.out, HO5.out]
      exact ⟨A4, cap4, rfl, hown4.mono (by omega), hwf5, hbw4⟩
end Go.Proofs.Ytkcmjhpbjgjebaa


/-
  'append(a, b...)' of fields as a step of a region that draws its order.
-/
namespace Go.Proofs.Ytkcmjhpbjgjebaa
open Go.RowKit

theorem step_append_any {w : World} {ops : Array Oper} {o : Oper} {a : Act} {K : Act → World → Prop} {Q : Exit → Act → World → Prop} {E : Prop} (hgd : o.guard = none) (s x : Operand)
    (ho : o.op = .call { callee := .builtin .append, args := #[s, x], argTypes := #[22, 22] })
    (base : Nat) (v : Value) (fs : List Fld) (hs : a.eval s = v) (hown : w.ownsRow base 44 2 v fs.length (cellsF fs))
    (A : Option Addr) (m c : Nat) (gs : List Fld) (hx : a.eval x = .slice A m c) (hf : IsFs w A m gs)
    (h63 : fs.length + m ≤ 1000) (hbase : base ≤ w.heap.size)
    (h : ∀ A2 cap2 w', w'.ownsRow base 44 2 (.slice A2 (fs ++ gs).length cap2) (fs ++ gs).length (cellsF (fs ++ gs)) → w.grownBy w' v.ownBlock → K (a.put o.dst (.slice A2 (fs ++ gs).length cap2)) w') :
    if Region.wanted o (yielded ops a.tmps) = true then Oper.wp Try.prog o a w K Q else E := by
  obtain ⟨i0, hi, hz0, hz1, hz2⟩ := info_parts infoFld
  have hw : Region.wanted o (yielded ops a.tmps) = true := by simp [Region.wanted, hgd]
  rw [if_pos hw]
  obtain ⟨hm, _, _, hat⟩ := hf
  rcases Nat.eq_zero_or_pos m with rfl | hp
  · have hg : gs = [] := List.eq_nil_of_length_eq_zero hm.symm
    subst hg
    have hrun := run_append_zero (P := Try.prog) (w := w) base 22 o.type 44 i0 2 Try.underlying22 hi v fs.length _ hown A c
    obtain ⟨A2, cap2, rfl⟩ := own_form hown
    unfold Oper.wp execOp
    simp only [ho, resolve, invoke, builtin, Sem.run_bind, Sem.run_pure, Result.andThen_ok, List.map_toArray, List.map_cons, List.map_nil, hs, hx, hrun]
    have h2 := h A2 cap2 w (by simpa using hown) ⟨rfl, rfl, rfl, Nat.le_refl _, fun _ _ _ => rfl⟩
    rw [show (fs ++ ([] : List Fld)).length = fs.length from by rw [List.append_nil]] at h2
    exact h2
  · obtain ⟨b, off, rfl, hb, hat⟩ := hat hp
    obtain ⟨v', w', hr, h2, h3, h4, h5⟩ := run_append_own_at (P := Try.prog) w base 22 o.type 44 i0 (.agg #[.int .i64 0, .string ⟨#[]⟩]) 2 24 Try.underlying22 hi hz0 hz1 hz2 rfl (by decide) v fs.length _ hown ⟨b, off, none⟩ m c (cellsF gs) (by rw [cellsF_len, hm]) (fs_cells hat) (fs_one gs) (by unfold maxLen; omega) (by omega) hbase
    obtain ⟨A2, cap2, rfl⟩ := own_form h2
    unfold Oper.wp execOp
    simp only [ho, resolve, invoke, builtin, Sem.run_bind, Sem.run_pure, Result.andThen_ok, List.map_toArray, List.map_cons, List.map_nil, hs, hx, hr]
    have e : fs.length + m = (fs ++ gs).length := by rw [List.length_append, hm]
    rw [e] at h2 ⊢
    exact h _ _ w' (by rw [cellsF_append]; exact h2) h3

theorem slice_capc {A B : Option Addr} {n m c d : Nat} (h : Value.slice A n c = .slice B m d) : c = d := by cases h; rfl
/-- Two blocks made at a function's beginning: the argument's, the result's. -/
theorem two_new (w : World) (r : Rcd) (x : Value) {W : World} (hW : (w.alloc (.cells #[.string r.key, .string r.value, .int .i64 r.rev, .int .i64 r.life, .string r.note, x] 24)).alloc (.cells #[.string ⟨#[]⟩, .string ⟨#[]⟩, .int .i64 0, .int .i64 0, .string ⟨#[]⟩, .slice none 0 0] 24) = W) :
    Below w.heap.size w W ∧ RcBlk W w.heap.size r x ∧ RcBlk W (w.heap.size + 1) zeroR (.slice none 0 0) ∧ W.heap.size = w.heap.size + 2 := by
  subst hW
  refine ⟨((Below.refl _ _).alloc (Nat.le_refl _) _).alloc (by simp) _, RcBlk.alloc (World.alloc_heap_new w _) _, ?_, by simp⟩
  have hx := World.alloc_heap_new (w.alloc (.cells #[.string r.key, .string r.value, .int .i64 r.rev, .int .i64 r.life, .string r.note, x] 24)) (.cells #[.string ⟨#[]⟩, .string ⟨#[]⟩, .int .i64 0, .int .i64 0, .string ⟨#[]⟩, .slice none 0 0] 24)
  rw [show (w.alloc (.cells #[.string r.key, .string r.value, .int .i64 r.rev, .int .i64 r.life, .string r.note, x] 24)).heap.size = w.heap.size + 1 from by simp] at hx
  exact hx
theorem below_set6b {B B2 : Nat} {a w : World} (h : Below B a w) (hB : B ≤ B2) (u0 u1 u2 u3 u4 u5 : Value) : Below B a ((((((w.setCell ⟨B2, 0, none⟩ u0).setCell ⟨B2, 1, none⟩ u1).setCell ⟨B2, 2, none⟩ u2).setCell ⟨B2, 3, none⟩ u3).setCell ⟨B2, 4, none⟩ u4).setCell ⟨B2, 5, none⟩ u5) :=
  (((((h.setCell (p := ⟨B2, 0, none⟩) hB _).setCell (p := ⟨B2, 1, none⟩) hB _).setCell (p := ⟨B2, 2, none⟩) hB _).setCell (p := ⟨B2, 3, none⟩) hB _).setCell (p := ⟨B2, 4, none⟩) hB _).setCell (p := ⟨B2, 5, none⟩) hB _
/-- Blocks that lie ahead of a row stay where the row grows. -/
theorem cell_grown {w w' : World} {b j base : Nat} {row : Option Nat} {u : Value} (hc : w.cell? ⟨b, j, none⟩ = some u) (hg : w.grownBy w' row) (hrow : ∀ g, row = some g → base ≤ g) (hb : b < base) : w'.cell? ⟨b, j, none⟩ = some u :=
  Eq.trans (World.cell?_of_block (a := ⟨b, j, none⟩) (hg.block b (lt_of_cell (a := ⟨b, j, none⟩) hc) (fun e => by have := hrow b e.symm; omega))) hc
theorem RcBlk.grown {w w' : World} {b base : Nat} {row : Option Nat} {r : Rcd} {x : Value} (hc : RcBlk w b r x) (hg : w.grownBy w' row) (hrow : ∀ g, row = some g → base ≤ g) (hb : b < base) : RcBlk w' b r x :=
  hc.kept hg (fun e => by have := hrow b e.symm; omega)
theorem cell_set_other {w : World} {b b4 j k : Nat} {u v : Value} (hc : w.cell? ⟨b, j, none⟩ = some u) (h : b ≠ b4) : (w.setCell ⟨b4, k, none⟩ v).cell? ⟨b, j, none⟩ = some u :=
  Eq.trans (World.cell?_of_block (a := ⟨b, j, none⟩) (heap_setCell_other w ⟨b4, k, none⟩ b v h)) hc
theorem RcBlk.setOther {w : World} {b b4 k : Nat} {r : Rcd} {x v : Value} (hc : RcBlk w b r x) (h : b ≠ b4) : RcBlk (w.setCell ⟨b4, k, none⟩ v) b r x := Eq.trans (heap_setCell_other w ⟨b4, k, none⟩ b v h) hc
/-- What the drawn region of Down holds on to. -/
theorem dn_keep {x bz : Nat} {w0 W W' : World} {v0 v1 v2 v3 v4 v5 sz : Value} {Z : Rcd}
    (h : W.cell? ⟨x, 0, none⟩ = some v0 ∧ W.cell? ⟨x, 1, none⟩ = some v1 ∧ W.cell? ⟨x, 2, none⟩ = some v2 ∧ W.cell? ⟨x, 3, none⟩ = some v3 ∧ W.cell? ⟨x, 4, none⟩ = some v4 ∧ W.cell? ⟨x, 5, none⟩ = some v5 ∧ RcBlk W bz Z sz ∧ Below w0.heap.size w0 W) (b : Below W.heap.size W W') :
    W'.cell? ⟨x, 0, none⟩ = some v0 ∧ W'.cell? ⟨x, 1, none⟩ = some v1 ∧ W'.cell? ⟨x, 2, none⟩ = some v2 ∧ W'.cell? ⟨x, 3, none⟩ = some v3 ∧ W'.cell? ⟨x, 4, none⟩ = some v4 ∧ W'.cell? ⟨x, 5, none⟩ = some v5 ∧ RcBlk W' bz Z sz ∧ Below w0.heap.size w0 W' := by
  obtain ⟨h0, h1, h2, h3, h4, h5, h8, h6⟩ := h
  have hlt := lt_of_cell (a := ⟨x, 0, none⟩) h0
  exact ⟨(b.cell (p := ⟨x, 0, none⟩) hlt).trans h0, (b.cell (p := ⟨x, 1, none⟩) hlt).trans h1, (b.cell (p := ⟨x, 2, none⟩) hlt).trans h2, (b.cell (p := ⟨x, 3, none⟩) hlt).trans h3, (b.cell (p := ⟨x, 4, none⟩) hlt).trans h4, (b.cell (p := ⟨x, 5, none⟩) hlt).trans h5, h8.below b, bch h6 b⟩
theorem dn_grow {x bz base : Nat} {w0 W W' : World} {v0 v1 v2 v3 v4 v5 sz : Value} {Z : Rcd} {row : Option Nat}
    (h : W.cell? ⟨x, 0, none⟩ = some v0 ∧ W.cell? ⟨x, 1, none⟩ = some v1 ∧ W.cell? ⟨x, 2, none⟩ = some v2 ∧ W.cell? ⟨x, 3, none⟩ = some v3 ∧ W.cell? ⟨x, 4, none⟩ = some v4 ∧ W.cell? ⟨x, 5, none⟩ = some v5 ∧ RcBlk W bz Z sz ∧ Below w0.heap.size w0 W) (hg : W.grownBy W' row) (hrow : ∀ g, row = some g → base ≤ g) (hx : x < base) (hz : bz < base) (hw : w0.heap.size ≤ base) :
    W'.cell? ⟨x, 0, none⟩ = some v0 ∧ W'.cell? ⟨x, 1, none⟩ = some v1 ∧ W'.cell? ⟨x, 2, none⟩ = some v2 ∧ W'.cell? ⟨x, 3, none⟩ = some v3 ∧ W'.cell? ⟨x, 4, none⟩ = some v4 ∧ W'.cell? ⟨x, 5, none⟩ = some v5 ∧ RcBlk W' bz Z sz ∧ Below w0.heap.size w0 W' := by
  obtain ⟨c0, c1, c2, c3, c4, c5, h8, h6⟩ := h
  exact ⟨cell_grown c0 hg hrow hx, cell_grown c1 hg hrow hx, cell_grown c2 hg hrow hx, cell_grown c3 hg hrow hx, cell_grown c4 hg hrow hx, cell_grown c5 hg hrow hx, h8.grown hg hrow hz, h6.grown hg h6.size (fun g hg2 => Nat.le_trans hw (hrow g hg2))⟩
theorem dn_set {x b4 bz k : Nat} {w0 W : World} {v0 v1 v2 v3 v4 v5 sz u : Value} {Z : Rcd}
    (h : W.cell? ⟨x, 0, none⟩ = some v0 ∧ W.cell? ⟨x, 1, none⟩ = some v1 ∧ W.cell? ⟨x, 2, none⟩ = some v2 ∧ W.cell? ⟨x, 3, none⟩ = some v3 ∧ W.cell? ⟨x, 4, none⟩ = some v4 ∧ W.cell? ⟨x, 5, none⟩ = some v5 ∧ RcBlk W bz Z sz ∧ Below w0.heap.size w0 W) (hx : x ≠ b4) (hz : bz ≠ b4) (hw : w0.heap.size ≤ b4) :
    (W.setCell ⟨b4, k, none⟩ u).cell? ⟨x, 0, none⟩ = some v0 ∧ (W.setCell ⟨b4, k, none⟩ u).cell? ⟨x, 1, none⟩ = some v1 ∧ (W.setCell ⟨b4, k, none⟩ u).cell? ⟨x, 2, none⟩ = some v2 ∧ (W.setCell ⟨b4, k, none⟩ u).cell? ⟨x, 3, none⟩ = some v3 ∧ (W.setCell ⟨b4, k, none⟩ u).cell? ⟨x, 4, none⟩ = some v4 ∧ (W.setCell ⟨b4, k, none⟩ u).cell? ⟨x, 5, none⟩ = some v5 ∧ RcBlk (W.setCell ⟨b4, k, none⟩ u) bz Z sz ∧ Below w0.heap.size w0 (W.setCell ⟨b4, k, none⟩ u) := by
  obtain ⟨c0, c1, c2, c3, c4, c5, h8, h6⟩ := h
  exact ⟨cell_set_other c0 hx, cell_set_other c1 hx, cell_set_other c2 hx, cell_set_other c3 hx, cell_set_other c4 hx, cell_set_other c5 hx, h8.setOther hz, h6.setCell (p := ⟨b4, k, none⟩) hw _⟩
theorem dn_fs {w0 W : World} {P0 P1 P2 P3 P4 P5 P7 : Prop} (h : P0 ∧ P1 ∧ P2 ∧ P3 ∧ P4 ∧ P5 ∧ P7 ∧ Below w0.heap.size w0 W) {A : Option Addr} {n : Nat} {fs : List Fld} (hf : IsFs w0 A n fs) : IsFs W A n fs := hf.below h.2.2.2.2.2.2.2
/-- .. and that of the document's own down. -/
theorem rd_keep {x y bz : Nat} {w0 W W' : World} {v0 v1 sz : Value} {Z : Rcd}
    (h : W.cell? ⟨x, 5, none⟩ = some v0 ∧ W.cell? ⟨y, 5, none⟩ = some v1 ∧ RcBlk W bz Z sz ∧ Below w0.heap.size w0 W) (b : Below W.heap.size W W') :
    W'.cell? ⟨x, 5, none⟩ = some v0 ∧ W'.cell? ⟨y, 5, none⟩ = some v1 ∧ RcBlk W' bz Z sz ∧ Below w0.heap.size w0 W' := by
  obtain ⟨h0, h1, h8, h6⟩ := h
  exact ⟨(b.cell (p := ⟨x, 5, none⟩) (lt_of_cell (a := ⟨x, 5, none⟩) h0)).trans h0, (b.cell (p := ⟨y, 5, none⟩) (lt_of_cell (a := ⟨y, 5, none⟩) h1)).trans h1, h8.below b, bch h6 b⟩
theorem rd_grow {x y bz base : Nat} {w0 W W' : World} {v0 v1 sz : Value} {Z : Rcd} {row : Option Nat}
    (h : W.cell? ⟨x, 5, none⟩ = some v0 ∧ W.cell? ⟨y, 5, none⟩ = some v1 ∧ RcBlk W bz Z sz ∧ Below w0.heap.size w0 W) (hg : W.grownBy W' row) (hrow : ∀ g, row = some g → base ≤ g) (hx : x < base) (hy : y < base) (hz : bz < base) (hw : w0.heap.size ≤ base) :
    W'.cell? ⟨x, 5, none⟩ = some v0 ∧ W'.cell? ⟨y, 5, none⟩ = some v1 ∧ RcBlk W' bz Z sz ∧ Below w0.heap.size w0 W' := by
  obtain ⟨c0, c1, h8, h6⟩ := h
  exact ⟨cell_grown c0 hg hrow hx, cell_grown c1 hg hrow hy, h8.grown hg hrow hz, h6.grown hg h6.size (fun g hg2 => Nat.le_trans hw (hrow g hg2))⟩
theorem rd_set {x y b4 bz k : Nat} {w0 W : World} {v0 v1 sz u : Value} {Z : Rcd}
    (h : W.cell? ⟨x, 5, none⟩ = some v0 ∧ W.cell? ⟨y, 5, none⟩ = some v1 ∧ RcBlk W bz Z sz ∧ Below w0.heap.size w0 W) (hx : x ≠ b4) (hy : y ≠ b4) (hz : bz ≠ b4) (hw : w0.heap.size ≤ b4) :
    (W.setCell ⟨b4, k, none⟩ u).cell? ⟨x, 5, none⟩ = some v0 ∧ (W.setCell ⟨b4, k, none⟩ u).cell? ⟨y, 5, none⟩ = some v1 ∧ RcBlk (W.setCell ⟨b4, k, none⟩ u) bz Z sz ∧ Below w0.heap.size w0 (W.setCell ⟨b4, k, none⟩ u) := by
  obtain ⟨c0, c1, h8, h6⟩ := h
  exact ⟨cell_set_other c0 hx, cell_set_other c1 hy, h8.setOther hz, h6.setCell (p := ⟨b4, k, none⟩) hw _⟩
theorem rd_fs {w0 W : World} {P0 P1 P2 : Prop} (h : P0 ∧ P1 ∧ P2 ∧ Below w0.heap.size w0 W) {A : Option Addr} {n : Nat} {fs : List Fld} (hf : IsFs w0 A n fs) : IsFs W A n fs := hf.below h.2.2.2
end Go.Proofs.Ytkcmjhpbjgjebaa


/-
  The contract of convert.Down (and of convert.copyOf): what downR says, in new memory; nothing that was in memory changes.
-/
namespace Go.Proofs.Ytkcmjhpbjgjebaa
open Go.RowKit

/-- What is left: a record whose fields lie in new memory. -/
def CopyPost (w : World) (r : Rcd) (e : Ending) (w' : World) : Prop :=
  ∃ A n cap, e = .returned (rcV r (.slice A n cap)) ∧ n ≤ cap ∧ IsFs w' A n r.extra ∧ NewAt w.heap.size A ∧ Below w.heap.size w w'

set_option maxRecDepth 100000 in
set_option maxHeartbeats 4000000 in
theorem copyOf_any (r : Rcd) (A : Option Addr) (n cap : Nat) (w : World) (h : IsFs w A n r.extra) (h64 : n ≤ 900) :
    Calls Try.prog 27 #[rcV r (.slice A n cap)] w (CopyPost w r) := by
  have hwf := h.2.2.1
  obtain ⟨W, hW⟩ : ∃ W, (w.alloc (.cells #[.string r.key, .string r.value, .int .i64 r.rev, .int .i64 r.life, .string r.note, .slice A n cap] 24)).alloc (.cells #[.string ⟨#[]⟩, .string ⟨#[]⟩, .int .i64 0, .int .i64 0, .string ⟨#[]⟩, .slice none 0 0] 24) = W := ⟨_, rfl⟩
  obtain ⟨hb0, hr0, hz0, hsz⟩ := two_new w r (.slice A n cap) hW
  have hf0 := h.below hb0
  have c5 := hr0.cells.2.2.2.2.2
  have hown : W.ownsRow W.heap.size 44 2 (.slice none 0 0) ([] : List Fld).length (cellsF []) := World.ownsRow_nil _ _ _ _
  have HR0 := Lib.hid hr0
  have HZ0 := Lib.hid hz0
  clear hr0 hz0 h
  go_enter Try.func27, Try.ntmps27
  go_wp2_with (at_builtin; refine wpList_append_fs rfl _ _ rfl W.heap.size _ [] rfl hown A n cap r.extra rfl hf0 (by simp; omega) (Nat.le_refl _) ?_)
  intro v' V2 hown2 hgrow
  obtain ⟨A2, cap2, hv, hcap2, _⟩ := isFs_own hown2 hwf
  subst hv
  have hrb := HR0.out.kept hgrow (by simp [Value.ownBlock])
  have hzb := HZ0.out.kept hgrow (by simp [Value.ownBlock])
  have hbw : Below w.heap.size w V2 := hb0.grown hgrow hb0.size (fun g hg => by simp [Value.ownBlock] at hg)
  obtain ⟨d0, d1, d2, d3, d4, d5⟩ := hrb.cells
  obtain ⟨z0, z1, z2, z3, z4, z5⟩ := hzb.cells
  have e5 := hrb.frozen 5
  have f0 := hzb.frozen 0
  have f1 := hzb.frozen 1
  have f2 := hzb.frozen 2
  have f3 := hzb.frozen 3
  have f4 := hzb.frozen 4
  have f5 := hzb.frozen 5
  have hxr := lt_of_blk hrb
  have hxz := lt_of_blk hzb
  simp only [zeroR] at z0 z1 z2 z3 z4
  have hnew : NewAt (w.heap.size + 2) A2 := newAt_own hown2 (by omega)
  have hf2 : IsFs V2 A2 r.extra.length r.extra := by
    obtain ⟨A9, cap9, hv9, _, hf9⟩ := isFs_own hown2 hwf
    have e1 := slice_addr hv9
    subst e1; exact hf9
  have HBW := Lib.hid hbw
  have HF2 := Lib.hid hf2
  clear hgrow hown hown2 hbw hf0 hb0 hrb hzb hf2
  go_wp2_with fail
  refine bodyPost_ret (v := rcV r (.slice A2 r.extra.length cap2)) (by simp [results, Try.results27, go_sem, z0, z1, z2, z3, z4, z5]) rfl ⟨A2, r.extra.length, cap2, rfl, hcap2, ?_, hnew.mono (by omega), ?_⟩
  · exact isFs_set6 (isFs_set HF2.out (newAt_ne hnew (by omega)) 5 _) (hnew) (by omega) _ _ _ _ _ _
  · exact below_set6b (HBW.out.setCell (p := ⟨w.heap.size, 5, none⟩) (by show w.heap.size ≤ w.heap.size; omega) _) (by omega) _ _ _ _ _ _

set_option maxRecDepth 100000 in
set_option maxHeartbeats 4000000 in
theorem cDown_any (r : Rcd) (A : Option Addr) (n cap : Nat) (w : World) (hr : RcWf r) (h : IsFs w A n r.extra) :
    Calls Try.prog 13 #[rcV r (.slice A n cap)] w (RecPost w (downR r)) := by
  have hwf := h.2.2.1
  obtain ⟨W, hW⟩ : ∃ W, (w.alloc (.cells #[.string r.key, .string r.value, .int .i64 r.rev, .int .i64 r.life, .string r.note, .slice A n cap] 24)).alloc (.cells #[.string ⟨#[]⟩, .string ⟨#[]⟩, .int .i64 0, .int .i64 0, .string ⟨#[]⟩, .slice none 0 0] 24) = W := ⟨_, rfl⟩
  obtain ⟨hb0, hr0, hz0, hsz⟩ := two_new w r (.slice A n cap) hW
  have p1 := rRight_any 2 r A n cap W hr (h.below hb0)
  cases hR : rightR 2 r with
  | false =>
    rw [hR] at p1
    have HE : Hid (downR r = (zeroR, 1)) := downR_arg hR
    have HZ0 := Lib.hid hz0
    have hc0 := hr0.cells
    obtain ⟨c0, c1, c2, c3, c4, c5⟩ := hc0
    clear hR h hr0 hz0 hwf
    go_enter Try.func13, Try.ntmps13
    go_wp2_with fail
    ((with_reducible refine p1.mono ?_); rintro e w1 ⟨rfl, b1⟩)
    have hz1 := HZ0.out.below b1
    obtain ⟨z0, z1, z2, z3, z4, z5⟩ := hz1.cells
    have f0 := hz1.frozen 0
    have f1 := hz1.frozen 1
    have f2 := hz1.frozen 2
    have f3 := hz1.frozen 3
    have f4 := hz1.frozen 4
    have f5 := hz1.frozen 5
    have hxz := lt_of_blk hz1
    simp only [zeroR] at z0 z1 z2 z3 z4
    have HBW := Lib.hid (bch hb0 b1)
    clear hb0 b1 hz1 p1
    go_wp2_with fail
    refine bodyPost_ret (v := .tuple #[.agg #[.string ⟨#[]⟩, .string ⟨#[]⟩, .int .i64 0, .int .i64 0, .string ⟨#[]⟩, .slice none 0 0], .int .i64 1]) (by simp [results, Try.results13, go_sem, z0, z1, z2, z3, z4, z5]) rfl ⟨none, 0, 0, by rw [HE.out]; rfl, Nat.le_refl _, by rw [HE.out]; exact isFs_nil _ _, newAt_none _, ?_⟩
    exact below_set6b HBW.out (by omega) _ _ _ _ _ _
  | true =>
    rw [hR] at p1
    have hp := rightR_iff.1 hR
    have hlf := life_bd hp
    have h64 : n ≤ 64 := by
      have := (rightB_iff.1 (extraB_iff.1 hp.2.2.2.2.2).1).1
      have := h.1
      omega
    have HE : Hid (downR r = (⟨r.key, r.value, r.rev, 0, ByteArray.empty, opt 4 (ob (numD r.life)) ++ (opt 5 (ob r.note) ++ r.extra)⟩, 0)) := downR_eq hR
    have pc := fun W => carried_any r (.slice A n cap) hlf.1 hlf.2.1 (by omega) W
    have l4 := opt_len 4 (ob (numD r.life))
    have l5 := opt_len 5 (ob r.note)
    obtain ⟨CR, hCR⟩ : ∃ l, opt 4 (ob (numD r.life)) ++ opt 5 (ob r.note) = l := ⟨_, rfl⟩
    rw [← List.append_assoc, hCR] at HE
    rw [hCR] at pc
    have hlc : CR.length ≤ 2 := by rw [← hCR, List.length_append]; omega
    obtain ⟨c0, c1, c2, c3, c4, c5⟩ := hr0.cells
    have HR0 := Lib.hid hr0
    have HZ0 := Lib.hid hz0
    have H0 := Lib.hid h
    have HN := Lib.hid h.1
    clear hCR l4 l5 hR hp hlf hr0 hz0 h
    go_enter Try.func13, Try.ntmps13
    go_wp2_with fail
    ((with_reducible refine p1.mono ?_); rintro e w1 ⟨rfl, b1⟩)
    have hr1 := HR0.out.below b1
    have hz1 := HZ0.out.below b1
    have hb1 := bch hb0 b1
    have hs1 := b1.size
    clear hb0 b1 p1 HR0 HZ0 c0 c1 c2 c3 c4 c5
    obtain ⟨W4, hW4⟩ : ∃ W4, w1.alloc (.cells #[.string r.key, .string r.value, .int .i64 r.rev, .int .i64 0, .string ⟨#[]⟩, .slice A n cap] 24) = W4 := ⟨_, rfl⟩
    have hsz4 : W4.heap.size = w1.heap.size + 1 := by rw [← hW4]; simp
    have hr4 : RcBlk W4 w.heap.size r (.slice A n cap) := by rw [← hW4]; exact hr1.alloc _
    have hz4 : RcBlk W4 (w.heap.size + 1) zeroR (.slice none 0 0) := by rw [← hW4]; exact hz1.alloc _
    have hd4 : RcBlk W4 w1.heap.size ⟨r.key, r.value, r.rev, 0, ByteArray.empty, r.extra⟩ (.slice A n cap) := by rw [← hW4]; exact World.alloc_heap_new w1 _
    have hb4 : Below w.heap.size w W4 := by rw [← hW4]; exact hb1.alloc hb1.size _
    obtain ⟨c0, c1, c2, c3, c4, c5⟩ := hr1.cells
    have hsd : W4.drew.heap.size = w1.heap.size + 1 := hsz4
    have hS : ∀ V, V = W4.drew → (V.cell? ⟨w.heap.size, 0, none⟩ = some (.string r.key) ∧ V.cell? ⟨w.heap.size, 1, none⟩ = some (.string r.value) ∧ V.cell? ⟨w.heap.size, 2, none⟩ = some (.int .i64 r.rev) ∧ V.cell? ⟨w.heap.size, 3, none⟩ = some (.int .i64 r.life) ∧ V.cell? ⟨w.heap.size, 4, none⟩ = some (.string r.note) ∧ V.cell? ⟨w.heap.size, 5, none⟩ = some (.slice A n cap) ∧ RcBlk V (w.heap.size + 1) zeroR (.slice none 0 0) ∧ Below w.heap.size w V) := by
      rintro V rfl
      obtain ⟨k0, k1, k2, k3, k4, k5⟩ := hr4.cells
      exact ⟨k0, k1, k2, k3, k4, k5, hz4, hb4.drew⟩
    have HS := Lib.hid hS
    have hd4' : RcBlk W4.drew w1.heap.size ⟨r.key, r.value, r.rev, 0, ByteArray.empty, r.extra⟩ (.slice A n cap) := hd4
    have HD4 := Lib.hid hd4'
    clear hS hr4 hz4 hd4 hd4' hb4 hr1 hz1
    go_upto_region 5 with fail
    go_region_held3 (fun V => V.cell? ⟨w.heap.size, 0, none⟩ = some (.string r.key) ∧ V.cell? ⟨w.heap.size, 1, none⟩ = some (.string r.value) ∧ V.cell? ⟨w.heap.size, 2, none⟩ = some (.int .i64 r.rev) ∧ V.cell? ⟨w.heap.size, 3, none⟩ = some (.int .i64 r.life) ∧ V.cell? ⟨w.heap.size, 4, none⟩ = some (.string r.note) ∧ V.cell? ⟨w.heap.size, 5, none⟩ = some (.slice A n cap) ∧ RcBlk V (w.heap.size + 1) zeroR (.slice none 0 0) ∧ Below w.heap.size w V) (first | exact HS.out _ rfl | exact hS2 | exact dn_keep (by assumption) (by assumption) | exact dn_set (by assumption) (by omega) (by omega) (by omega)) (first | ((with_reducible refine (pc _).mono ?_); rintro e w5 ⟨A1, cap1, rfl, hown1, hwf1, bq⟩) | (refine step_append_any rfl _ _ rfl _ _ CR rfl hown1 A n cap r.extra rfl (dn_fs (by assumption) H0.out) (by have := HN.out; omega) (by have := bq.size; omega) ?_; intro A2 cap2 V2 hown2 hgrow; have hrow := fun g hg => (hown1.lt g hg).1; have hS2 := dn_grow (by assumption) hgrow hrow (by omega) (by omega) (by omega); have hd5 := (HD4.out.below bq).grown hgrow hrow (by omega); have c5' := hd5.cells.2.2.2.2.2; have f5' := hd5.frozen 5))
    rename_i hend
    have hd6 : RcBlk (V2.setCell ⟨w1.heap.size, 5, none⟩ (.slice A2 (CR.length + r.extra.length) cap2)) w1.heap.size ⟨r.key, r.value, r.rev, 0, ByteArray.empty, CR ++ r.extra⟩ (.slice A2 (CR.length + r.extra.length) cap2) := heap_setCell_same V2 w1.heap.size 5 _ _ _ hd5
    have hz6 := hend.2.2.2.2.2.2.1
    have hb6 := hend.2.2.2.2.2.2.2
    have hnew : NewAt (w1.heap.size + 1) A2 := newAt_own hown2 (by omega)
    have hwf2 : FsWf (CR ++ r.extra) := hwf1.append hwf
    have hf6 : IsFs (V2.setCell ⟨w1.heap.size, 5, none⟩ (.slice A2 (CR.length + r.extra.length) cap2)) A2 (CR.length + r.extra.length) (CR ++ r.extra) := by
      obtain ⟨A9, cap9, hv9, _, hf9⟩ := isFs_own hown2 hwf2
      have e1 := slice_addr hv9
      subst e1
      rw [List.length_append] at hf9
      exact isFs_set hf9 (newAt_ne hnew (by omega)) 5 _
    have hcap2 : CR.length + r.extra.length ≤ cap2 := by
      obtain ⟨A9, cap9, hv9, hc9, _⟩ := isFs_own hown2 hwf2
      have e1 := slice_capc hv9
      subst e1
      rw [List.length_append] at hc9; exact hc9
    clear hend hown2 hgrow hrow hS2 hd5 c5' f5' hown1 bq hwf1 HS HD4 hb1 hW4 hsz4 hsd hW c0 c1 c2 c3 c4 c5
    generalize V2.setCell ⟨w1.heap.size, 5, none⟩ (.slice A2 (CR.length + r.extra.length) cap2) = V6 at *
    obtain ⟨z0, z1, z2, z3, z4, z5⟩ := hz6.cells
    obtain ⟨d0, d1, d2, d3, d4, d5⟩ := hd6.cells
    have f0 := hz6.frozen 0
    have f1 := hz6.frozen 1
    have f2 := hz6.frozen 2
    have f3 := hz6.frozen 3
    have f4 := hz6.frozen 4
    have f5 := hz6.frozen 5
    have hxz := lt_of_blk hz6
    have hxd := lt_of_blk hd6
    simp only [zeroR] at z0 z1 z2 z3 z4
    have HF6 := Lib.hid hf6
    have HB6 := Lib.hid hb6
    clear hz6 hd6 hf6 hb6
    go_wp2_with fail
    refine bodyPost_ret (v := .tuple #[rcV ⟨r.key, r.value, r.rev, 0, ByteArray.empty, CR ++ r.extra⟩ (.slice A2 (CR.length + r.extra.length) cap2), .int .i64 0]) (by simp [results, Try.results13, go_sem, z0, z1, z2, z3, z4, z5]) rfl ⟨A2, CR.length + r.extra.length, cap2, by rw [HE.out]; rfl, hcap2, ?_, hnew.mono (by omega), ?_⟩
    · rw [HE.out]
      exact isFs_set6 HF6.out (hnew) (by omega) _ _ _ _ _ _
    · exact below_set6b HB6.out (by omega) _ _ _ _ _ _
end Go.Proofs.Ytkcmjhpbjgjebaa


/-
  The contract of convert.take on what becomes tells: the record with the field taken in, or ErrKnown.
-/
namespace Go.Proofs.Ytkcmjhpbjgjebaa
open Go.RowKit

/-- May a carried field be, by version 2? -/
def upOk (t : Int) (d : ByteArray) : Bool := if t = 4 ∨ t = 5 then okD t d else true
/-- What take leaves: block b is the record's, from base on lies the row of its fields. -/
def TkPost (b base : Nat) (R : Rcd) (t : Int) (d : ByteArray) (w : World) (e : Ending) (w' : World) : Prop :=
  if upOk t d = true then e = .returned (.int .i64 0) ∧ (∃ x, RcBlk w' b (stepR 2 R (t, d)) x ∧ w'.ownsRow base 44 2 x (stepR 2 R (t, d)).extra.length (cellsF (stepR 2 R (t, d)).extra)) ∧ Below b w w' ∧ (∀ i, i < base → i ≠ b → w'.heap[i]? = w.heap[i]?)
  else e = .returned (.int .i64 21) ∧ w = w'
theorem tkPost_yes {b base : Nat} {R : Rcd} {t : Int} {d : ByteArray} {w w' : World} {e : Ending} (h : upOk t d = true) (hp : TkPost b base R t d w e w') : e = .returned (.int .i64 0) ∧ (∃ x, RcBlk w' b (stepR 2 R (t, d)) x ∧ w'.ownsRow base 44 2 x (stepR 2 R (t, d)).extra.length (cellsF (stepR 2 R (t, d)).extra)) ∧ Below b w w' ∧ (∀ i, i < base → i ≠ b → w'.heap[i]? = w.heap[i]?) := by unfold TkPost at hp; rw [if_pos h] at hp; exact hp
theorem tkPost_no {b base : Nat} {R : Rcd} {t : Int} {d : ByteArray} {w w' : World} {e : Ending} (h : upOk t d = false) (hp : TkPost b base R t d w e w') : e = .returned (.int .i64 21) ∧ w = w' := by unfold TkPost at hp; rw [if_neg (by rw [h]; simp)] at hp; exact hp
theorem upOk_4 (d : ByteArray) : upOk 4 d = okD 4 d := by unfold upOk; rw [if_pos (.inl rfl)]
theorem upOk_5 (d : ByteArray) : upOk 5 d = okD 5 d := by unfold upOk; rw [if_pos (.inr rfl)]
theorem upOk_o {t : Int} {d : ByteArray} (h4 : t ≠ 4) (h5 : t ≠ 5) : upOk t d = true := by unfold upOk; rw [if_neg (by omega)]
theorem step2_4 (R : Rcd) (d : ByteArray) : stepR 2 R (4, d) = { R with life := wholeN d.data.toList } := by rw [step_known (by decide)]; rfl
theorem step2_5 (R : Rcd) (d : ByteArray) : stepR 2 R (5, d) = { R with note := d } := by rw [step_known (by decide)]; rfl
theorem step2_o {R : Rcd} {t : Int} {d : ByteArray} (h : 5 < t) : stepR 2 R (t, d) = { R with extra := R.extra ++ [(t, d)] } := step_other (knowB_no.2 (by have : topT 2 = 5 := rfl; omega))

set_option maxRecDepth 100000 in
set_option maxHeartbeats 4000000 in
theorem ctake_fld (b base : Nat) (R : Rcd) (x : Value) (t : Int) (d : ByteArray) (w : World) (h : RcBlk w b R x) (hown : w.ownsRow base 44 2 x R.extra.length (cellsF R.extra)) (hwf : FsWf R.extra) (hl : R.extra.length ≤ 100) (hb : b < base) (hbase : base ≤ w.heap.size) (ht : (Lit.int .i64 t).wf = true) (hd : d.size ≤ 9223372036854775807) :
    Calls Try.prog 22 #[.pointer (some ⟨b, 0, none⟩), .iface 44 (.agg #[.int .i64 t, .string d])] w fun e w' => e = .returned (.int .i64 0) ∧ (∃ x', RcBlk w' b { R with extra := R.extra ++ [(t, d)] } x' ∧ w'.ownsRow base 44 2 x' (R.extra ++ [(t, d)]).length (cellsF (R.extra ++ [(t, d)]))) ∧ Below b w w' ∧ (∀ i, i < base → i ≠ b → w'.heap[i]? = w.heap[i]?) := by
  obtain ⟨A1, cap1, hv, hcap, hfs⟩ := isFs_own hown hwf
  subst hv
  have hbw : ∀ V, V = ((w.alloc (.cells #[.int .i64 t, .string d] 44)).alloc (.cells #[.int .i64 t, .string d] 44)).drew → Below w.heap.size w V ∧ V.heap.size = w.heap.size + 2 := by
    rintro V rfl
    refine ⟨(((Below.refl _ _).alloc (Nat.le_refl _) _).alloc (by simp) _).drew, ?_⟩
    show ((w.alloc (.cells #[.int .i64 t, .string d] 44)).alloc (.cells #[.int .i64 t, .string d] 44)).heap.size = _
    simp
  have hown3 : ∀ V, V = ((w.alloc (.cells #[.int .i64 t, .string d] 44)).alloc (.cells #[.int .i64 t, .string d] 44)).drew → V.ownsRow base 44 2 (.slice A1 R.extra.length cap1) R.extra.length (cellsF R.extra) := by rintro V rfl; exact (hown.alloc _).alloc _
  have hrb3 : ∀ V, V = ((w.alloc (.cells #[.int .i64 t, .string d] 44)).alloc (.cells #[.int .i64 t, .string d] 44)).drew → RcBlk V b R (.slice A1 R.extra.length cap1) := by
    rintro V rfl
    have h2 := (h.alloc (.cells #[.int .i64 t, .string d] 44)).alloc (.cells #[.int .i64 t, .string d] 44)
    exact h2
  have hone : ∀ V, V = ((w.alloc (.cells #[.int .i64 t, .string d] 44)).alloc (.cells #[.int .i64 t, .string d] 44)).drew → IsFs V (some ⟨w.heap.size + 1, 0, none⟩) 1 [(t, d)] := by
    rintro V rfl
    have hx := World.alloc_heap_new (w.alloc (.cells #[.int .i64 t, .string d] 44)) (.cells #[.int .i64 t, .string d] 44)
    rw [show (w.alloc (.cells #[.int .i64 t, .string d] 44)).heap.size = w.heap.size + 1 from by simp] at hx
    exact isFs_one (w := (w.alloc (.cells #[.int .i64 t, .string d] 44)).alloc (.cells #[.int .i64 t, .string d] 44)) (cell_blk hx 0) (cell_blk hx 1) ht hd
  have hrow : ∀ g : Nat, (Value.slice A1 R.extra.length cap1).ownBlock = some g → base ≤ g := fun g hg => (hown.lt g hg).1
  have HROW := Lib.hid hrow
  have c5 := h.cells.2.2.2.2.2
  have hxr := lt_of_blk h
  clear hrow hown h hfs
  go_enter Try.func22, Try.ntmps22
  go_wp2_with fail
  go_region_law (first | (refine step_append_fs rfl _ _ rfl base _ R.extra rfl (hown3 _ rfl) (w.heap.size + 1) 1 t d rfl (hone _ rfl) (by omega) (by have := (hbw _ rfl).2; omega) ?_; intro A2 cap2 V2 hown4 hgrow; have hrb4 := (hrb3 _ rfl).grown hgrow HROW.out hb; have hbw4 := (hbw _ rfl).1; have hsz4 := (hbw _ rfl).2; have c5' := hrb4.cells.2.2.2.2.2; have f5' := hrb4.frozen 5))
  all_goals
    go_wp2_with fail
    go_ret
    refine ⟨rfl, ⟨.slice A2 (R.extra.length + 1) cap2, heap_setCell_same V2 b 5 _ _ _ hrb4, ?_⟩, ?_, fun i hi hne => ?_⟩
    · exact ownsRow_setCell_below (a := ⟨b, 5, none⟩) (by simpa [List.length_append] using hown4) (by show b < base; omega) _
    · exact ((hbw4.mono (by omega)).grown hgrow (by omega) (fun g hg => by have := HROW.out g hg; omega)).setCell (p := ⟨b, 5, none⟩) (by show b ≤ b; omega) _
    · refine (heap_setCell_other V2 ⟨b, 5, none⟩ i _ hne).trans ((hgrow.block i (by omega) (fun e => by have := HROW.out i e.symm; omega)).trans (hbw4.block i (by omega)))

set_option maxHeartbeats 400000 in
theorem ctake_any (b base : Nat) (R : Rcd) (x : Value) (t : Int) (d : ByteArray) (w : World) (h : RcBlk w b R x) (hown : w.ownsRow base 44 2 x R.extra.length (cellsF R.extra)) (hwf : FsWf R.extra) (hl : R.extra.length ≤ 100) (hb : b < base) (hbase : base ≤ w.heap.size) (ht : (Lit.int .i64 t).wf = true) (hd : d.size ≤ 9223372036854775807) (h3 : 3 < t) :
    Calls Try.prog 22 #[.pointer (some ⟨b, 0, none⟩), becV t d] w (TkPost b base R t d w) := by
  by_cases h4 : t = 4
  · subst h4
    cases hO : okD 4 d with
    | true =>
      have e1 : becV 4 d = .iface 59 (.int .i64 (wholeN d.data.toList)) := by unfold becV; rw [if_pos rfl, hO]; rfl
      rw [e1]
      refine (ctake_life b R x _ w h).mono ?_
      rintro e w' ⟨rfl, rfl⟩
      unfold TkPost
      rw [upOk_4, hO, if_pos rfl, step2_4]
      refine ⟨rfl, ⟨x, heap_setCell_same w b 3 _ _ _ h, ownsRow_setCell_below (a := ⟨b, 3, none⟩) hown hb _⟩, (Below.refl _ _).setCell (p := ⟨b, 3, none⟩) (by show b ≤ b; omega) _, fun i hi hne => heap_setCell_other w ⟨b, 3, none⟩ i _ hne⟩
    | false =>
      have e1 : becV 4 d = .iface 31 (.int .i64 21) := by unfold becV; rw [if_pos rfl, hO]; rfl
      rw [e1]
      refine (ctake_err b 21 w).mono ?_
      rintro e w' ⟨rfl, rfl⟩
      unfold TkPost
      rw [upOk_4, hO, if_neg (by simp)]
      exact ⟨rfl, rfl⟩
  · by_cases h5 : t = 5
    · subst h5
      cases hO : okD 5 d with
      | true =>
        have e1 : becV 5 d = .iface 60 (.string d) := by unfold becV; rw [if_neg (by decide), if_pos rfl, hO]; rfl
        rw [e1]
        refine (ctake_note b R x _ w h).mono ?_
        rintro e w' ⟨rfl, rfl⟩
        unfold TkPost
        rw [upOk_5, hO, if_pos rfl, step2_5]
        refine ⟨rfl, ⟨x, heap_setCell_same w b 4 _ _ _ h, ownsRow_setCell_below (a := ⟨b, 4, none⟩) hown hb _⟩, (Below.refl _ _).setCell (p := ⟨b, 4, none⟩) (by show b ≤ b; omega) _, fun i hi hne => heap_setCell_other w ⟨b, 4, none⟩ i _ hne⟩
      | false =>
        have e1 : becV 5 d = .iface 31 (.int .i64 21) := by unfold becV; rw [if_neg (by decide), if_pos rfl, hO]; rfl
        rw [e1]
        refine (ctake_err b 21 w).mono ?_
        rintro e w' ⟨rfl, rfl⟩
        unfold TkPost
        rw [upOk_5, hO, if_neg (by simp)]
        exact ⟨rfl, rfl⟩
    · have e1 : becV t d = .iface 44 (.agg #[.int .i64 t, .string d]) := by unfold becV; rw [if_neg h4, if_neg h5]
      rw [e1]
      refine (ctake_fld b base R x t d w h hown hwf hl hb hbase ht hd).mono ?_
      rintro e w' ⟨rfl, hx, hbw, hfr⟩
      unfold TkPost
      rw [upOk_o h4 h5, if_pos rfl, step2_o (by omega)]
      exact ⟨rfl, hx, hbw, hfr⟩
end Go.Proofs.Ytkcmjhpbjgjebaa


/-
  The contract of convert.Up: what upR says, in new memory; nothing that was in memory changes.
-/
namespace Go.Proofs.Ytkcmjhpbjgjebaa
open Go.RowKit

/-- The record behind k carried fields. -/
def upK (r : Rcd) (k : Nat) : Rcd := (r.extra.take k).foldl (stepR 2) { r with extra := [] }
theorem upK_take {r : Rcd} {k : Nat} (h : k < r.extra.length) : upK r (k + 1) = stepR 2 (upK r k) (tg r.extra k, dt r.extra k) := by
  unfold upK; rw [List.take_succ_eq_append_getElem h, List.foldl_append, fld_at h]; rfl
theorem upK_wf {r : Rcd} (h : FsWf r.extra) (k : Nat) : FsWf (upK r k).extra := fun f hf => by
  rcases (acc_mem 2 (r.extra.take k) { r with extra := [] }).1 f hf with h2 | h2
  · cases h2
  · exact h f (List.mem_of_mem_take h2)
theorem upK_len (r : Rcd) (k : Nat) : (upK r k).extra.length ≤ k := by
  have := (acc_mem 2 (r.extra.take k) { r with extra := [] }).2
  have h2 : (r.extra.take k).length ≤ k := List.length_take_le _ _
  unfold upK
  simp only [List.length_nil] at this
  omega
theorem right_bare {r : Rcd} (h : RightP 1 r) : RightP 2 { r with extra := [] } := by
  obtain ⟨_, h2, h3, h4, h5, _⟩ := h
  obtain ⟨h6, h7⟩ := laterB_one.1 h5
  refine ⟨.inr rfl, h2, h3, h4, laterB_two.2 ⟨by show 0 ≤ r.life; omega, by show r.life ≤ _; omega, by show r.note.size ≤ 40; omega⟩, rfl⟩
theorem upK_all {r : Rcd} (h : RightP 1 r) {k : Nat} (hk : k = r.extra.length) : upK r k = accR 2 (fieldsR r) := by
  subst hk
  have hb := (acc_fields (right_bare h)).1
  unfold upK
  rw [List.take_of_length_le (Nat.le_refl _)]
  have e : fieldsR r = fieldsR { r with extra := [] } ++ r.extra := by unfold fieldsR five; simp
  rw [e]
  unfold accR at hb ⊢
  rw [List.foldl_append, hb]
theorem rec2_iff {r : Rcd} (h : RightP 1 r) : recP 2 (fieldsR r) = true ↔ ∀ i, i < r.extra.length → upOk (tg r.extra i) (dt r.extra i) = true := by
  obtain ⟨o4, o5, E, e, c5, _, _, hi⟩ := up_parts h
  rw [hi, all_mem (P := fun t d => upOk t d = true), e]
  have hE : ∀ f ∈ E, 5 < f.1 := fun f hf => (chain_unknown (v := 2) (a := 5) (Int.le_refl _) c5 f hf).2
  constructor
  · rintro ⟨h4, h5⟩ f hf
    simp only [List.mem_append, mem_opt] at hf
    rcases hf with ⟨h1, h2⟩ | ⟨h1, h2⟩ | h1
    · rw [h2, upOk_4]; exact h4 _ h1
    · rw [h2, upOk_5]; exact h5 _ h1
    · have := hE f h1; exact upOk_o (by omega) (by omega)
  · intro hf
    refine ⟨fun d hd => ?_, fun d hd => ?_⟩
    · rw [← upOk_4]; exact hf (4, d) (List.mem_append.2 (.inl (mem_opt.2 ⟨hd, rfl⟩)))
    · rw [← upOk_5]; exact hf (5, d) (List.mem_append.2 (.inr (List.mem_append.2 (.inl (mem_opt.2 ⟨hd, rfl⟩)))))
theorem tag_carried {r : Rcd} (h : RightP 1 r) {i : Nat} (hi : i < r.extra.length) : 3 < tg r.extra i := by
  have hex := extraB_iff.1 h.2.2.2.2.2
  have hc := chain_up hex.1 hex.2.2
  have := (chain_unknown (v := 1) (a := 3) (Int.le_refl _) hc _ (List.getElem_mem hi)).2
  rw [tg_at hi]; exact this

set_option maxRecDepth 100000 in
set_option maxHeartbeats 4000000 in
theorem cUp_any (r : Rcd) (A : Option Addr) (n cap : Nat) (w : World) (hr : RcWf r) (h : IsFs w A n r.extra) :
    Calls Try.prog 10 #[rcV r (.slice A n cap)] w (RecPost w (upR r)) := by
  have hwf := h.2.2.1
  obtain ⟨W, hW⟩ : ∃ W, (w.alloc (.cells #[.string r.key, .string r.value, .int .i64 r.rev, .int .i64 r.life, .string r.note, .slice A n cap] 24)).alloc (.cells #[.string ⟨#[]⟩, .string ⟨#[]⟩, .int .i64 0, .int .i64 0, .string ⟨#[]⟩, .slice none 0 0] 24) = W := ⟨_, rfl⟩
  obtain ⟨hb0, hr0, hz0, hsz⟩ := two_new w r (.slice A n cap) hW
  have p1 := rRight_any 1 r A n cap W hr (h.below hb0)
  obtain ⟨c0, c1, c2, c3, c4, c5⟩ := hr0.cells
  have HR0 := Lib.hid hr0
  have HZ0 := Lib.hid hz0
  cases hR : rightR 1 r with
  | false =>
    rw [hR] at p1
    have HE : Hid (upR r = (zeroR, 1)) := upR_arg hR
    clear hR h hr0 hz0 hwf
    go_enter Try.func10, Try.ntmps10
    go_wp2_with fail
    ((with_reducible refine p1.mono ?_); rintro e w1 ⟨rfl, b1⟩)
    have hz1 := HZ0.out.below b1
    obtain ⟨z0, z1, z2, z3, z4, z5⟩ := hz1.cells
    have f0 := hz1.frozen 0
    have f1 := hz1.frozen 1
    have f2 := hz1.frozen 2
    have f3 := hz1.frozen 3
    have f4 := hz1.frozen 4
    have f5 := hz1.frozen 5
    have hxz := lt_of_blk hz1
    simp only [zeroR] at z0 z1 z2 z3 z4
    have HBW := Lib.hid (bch hb0 b1)
    clear hb0 b1 hz1 p1
    go_wp2_with fail
    refine bodyPost_ret (v := .tuple #[.agg #[.string ⟨#[]⟩, .string ⟨#[]⟩, .int .i64 0, .int .i64 0, .string ⟨#[]⟩, .slice none 0 0], .int .i64 1]) (by simp [results, Try.results10, go_sem, z0, z1, z2, z3, z4, z5]) rfl ⟨none, 0, 0, by rw [HE.out]; rfl, Nat.le_refl _, by rw [HE.out]; exact isFs_nil _ _, newAt_none _, ?_⟩
    exact below_set6b HBW.out (by omega) _ _ _ _ _ _
  | true =>
    rw [hR] at p1
    have hp := rightR_iff.1 hR
    have h64 : n ≤ 64 := by
      have := (rightB_iff.1 (extraB_iff.1 hp.2.2.2.2.2).1).1
      have := h.1
      omega
    have HYES : Hid ((∀ i, i < r.extra.length → upOk (tg r.extra i) (dt r.extra i) = true) → upR r = (upK r n, 0)) := fun h2 => by
      rw [upK_all hp h.1]; exact upR_ok hR ((rec2_iff hp).2 h2)
    have HNO : Hid (∀ i, i < r.extra.length → upOk (tg r.extra i) (dt r.extra i) = false → upR r = (zeroR, 21)) := fun i hi h2 => by
      refine upR_known hR ?_
      rw [Bool.eq_false_iff]
      intro h3
      have := (rec2_iff hp).1 h3 i hi
      rw [h2] at this; cases this
    have HTG : Hid (∀ i, i < r.extra.length → 3 < tg r.extra i) := fun i hi => tag_carried hp hi
    have HK0 : Hid (upK r 0 = { r with extra := [] }) := by show _ = _; unfold upK; simp
    have HN := Lib.hid h.1
    have HC := Lib.hid h.2.2.2
    clear hR hp hr0 hz0 h
    go_enter Try.func10, Try.ntmps10
    go_wp2_with fail
    ((with_reducible refine p1.mono ?_); rintro e w1 ⟨rfl, b1⟩)
    have hr1 := HR0.out.below b1
    have hz1 := HZ0.out.below b1
    have hb1 := bch hb0 b1
    have hs1 := b1.size
    clear hb0 b1 p1 HR0 HZ0 c0 c1 c2 c3 c4 c5 hW
    obtain ⟨c0, c1, c2, c3, c4, c5⟩ := hr1.cells
    go_upto_region 4 with fail
    clear c0 c1 c2 c3 c4 c5
    obtain ⟨W4, hW4⟩ : ∃ W4, w1.alloc (.cells #[.string r.key, .string r.value, .int .i64 r.rev, .int .i64 r.life, .string r.note, .slice none 0 0] 24) = W4 := ⟨_, rfl⟩
    have hsz4 : W4.heap.size = w1.heap.size + 1 := by rw [← hW4]; simp
    have hr4 : RcBlk W4 w.heap.size r (.slice A n cap) := by rw [← hW4]; exact hr1.alloc _
    have hz4 : RcBlk W4 (w.heap.size + 1) zeroR (.slice none 0 0) := by rw [← hW4]; exact hz1.alloc _
    have hd4 : RcBlk W4 w1.heap.size (upK r 0) (.slice none 0 0) := by rw [← hW4, HK0.out]; exact World.alloc_heap_new w1 _
    have hb4 : Below w.heap.size w W4 := by rw [← hW4]; exact hb1.alloc hb1.size _
    have hown4 : W4.ownsRow (w1.heap.size + 1) 44 2 (.slice none 0 0) (upK r 0).extra.length (cellsF (upK r 0).extra) := by rw [HK0.out]; exact World.ownsRow_nil _ _ _ _
    have c5' := hr4.cells.2.2.2.2.2
    clear hr1 hz1
    go_upto_region 5 with fail
    go_wp2_with fail
    go_loopw [17] (fun i wr => ∃ (k : Nat) (x : Value), k ≤ n ∧ i = .int .i64 k ∧ RcBlk wr w1.heap.size (upK r k) x ∧ wr.ownsRow (w1.heap.size + 1) 44 2 x (upK r k).extra.length (cellsF (upK r k).extra) ∧ RcBlk wr (w.heap.size + 1) zeroR (.slice none 0 0) ∧ w1.heap.size + 1 ≤ wr.heap.size ∧ Hid (∀ j, j < k → upOk (tg r.extra j) (dt r.extra j) = true) ∧ Below w.heap.size w wr) (fun i _ => n - (intOf i).toNat)
    case atStart => exact ⟨0, .slice none 0 0, by omega, rfl, hd4, hown4, hz4, by omega, fun j hj => by omega, hb4⟩
    case round =>
      clear hr4 hz4 hd4 hb4 hown4 c5' hW4 hsz4
      obtain ⟨k, x, hk, rfl, hrb, hown, hzb, hszr, hno, hbw⟩ := hrel
      have hlx := upK_len r k
      have hwR := upK_wf hwf k
      by_cases hlt : k < n
      · obtain ⟨b, off, hA, hb, hat⟩ := HC.out (by omega)
        subst hA
        have HK : Hid (k < r.extra.length) := by have := HN.out; show k < r.extra.length; omega
        obtain ⟨c1, c2⟩ : wr.cell? ⟨b, off + k * 2, none⟩ = some (.int .i64 (tg r.extra k)) ∧ wr.cell? ⟨b, off + k * 2 + 1, none⟩ = some (.string (dt r.extra k)) := by
          have h := hat k HK.out
          exact ⟨(hbw.cell (p := ⟨b, off + k * 2, none⟩) hb).trans h.1, (hbw.cell (p := ⟨b, off + k * 2 + 1, none⟩) hb).trans h.2⟩
        clear hat
        have hstep := upK_take HK.out
        have hwt := tg_wf hwf HK.out
        have hsd := dt_sz hwf HK.out
        have ht3 := HTG.out k HK.out
        have HNO2 := Lib.hid (HNO.out k HK.out)
        have HYES2 : Hid (upOk (tg r.extra k) (dt r.extra k) = true → ∀ j, j < k + 1 → upOk (tg r.extra j) (dt r.extra j) = true) := fun h j hj => by
          rcases Nat.lt_or_ge j k with h2 | h2
          · exact hno.out j h2
          · rw [show j = k by omega]; exact h
        clear hno
        generalize tg r.extra k = t at *
        generalize dt r.extra k = d at *
        have p2 := fun W => cbecomes_any t d (by unfold maxLen; omega) W
        have p3 := fun W h1 h2 h3 => ctake_any w1.heap.size (w1.heap.size + 1) (upK r k) x t d W h1 h2 hwR (by omega) (by omega) h3 hwt hsd ht3
        obtain ⟨R, hR⟩ : ∃ R, upK r k = R := ⟨_, rfl⟩
        rw [hR] at hrb hown hlx hwR hstep p3
        clear hR
        obtain ⟨bv, hbv⟩ : ∃ bv, becV t d = bv := ⟨_, rfl⟩
        simp only [hbv] at p2 p3
        have P3 := Lib.hid p3
        have HSTEP := Lib.hid hstep
        clear p3 hstep hbv
        have hrb2 := hrb.alloc (.cells #[.int .i64 t, .string d] 44)
        have hown2 := hown.alloc (.cells #[.int .i64 t, .string d] 44)
        have hzb2 := hzb.alloc (.cells #[.int .i64 t, .string d] 44)
        have hbw2 := hbw.alloc hbw.size (.cells #[.int .i64 t, .string d] 44)
        have hsz2 : w1.heap.size + 1 ≤ (wr.alloc (.cells #[.int .i64 t, .string d] 44)).heap.size := by simp; omega
        clear hrb hown hzb
        go_wp2_with fail
        ((with_reducible refine (p2 _).mono ?_); rintro e w2 ⟨rfl, b2⟩)
        have hrb3 := hrb2.below b2
        have hown3 := own_below hown2 b2
        have hzb3 := hzb2.below b2
        have hbw3 := bch hbw2 b2
        have hsz3 := Nat.le_trans hsz2 b2.size
        have p4 := P3.out w2 hrb3 hown3 hsz3
        clear hrb2 hown2 hzb2 hbw2 hsz2 b2 p2
        cases hO : upOk t d with
        | true =>
          have HNX := HYES2.out hO
          have HO := Lib.hid hO
          clear hO
          go_wp2_with fail
          ((with_reducible refine p4.mono ?_); intro e w5 hpost)
          obtain ⟨rfl, ⟨x', hrb5, hown5⟩, b5, hfr⟩ := tkPost_yes HO.out hpost
          rw [← HSTEP.out] at hrb5 hown5
          clear hpost
          have hzb5 : RcBlk w5 (w.heap.size + 1) zeroR (.slice none 0 0) := (hfr _ (by omega) (by omega)).trans hzb3
          have hbw5 : Below w.heap.size w w5 := hbw3.trans (b5.mono (by omega))
          have hsz5 := Nat.le_trans hsz3 b5.size
          clear p4 hrb3 hown3 hzb3 hbw3
          go_wp2_with fail
          go_roundw
          case rel => exact ⟨k + 1, x', by omega, by go_num, hrb5, hown5, hzb5, hsz5, HNX, hbw5⟩
          case measure => simp [intOf]; omega
        | false =>
          have HE := Lib.hid (HNO2.out hO)
          have HO := Lib.hid hO
          clear hO
          obtain ⟨z0, z1, z2, z3, z4, z5⟩ := hzb3.cells
          have f0 := hzb3.frozen 0
          have f1 := hzb3.frozen 1
          have f2 := hzb3.frozen 2
          have f3 := hzb3.frozen 3
          have f4 := hzb3.frozen 4
          have f5 := hzb3.frozen 5
          have hxz := lt_of_blk hzb3
          simp only [zeroR] at z0 z1 z2 z3 z4
          have HBW := Lib.hid hbw3
          clear hrb3 hown3 hzb3 hbw3
          go_wp2_with fail
          ((with_reducible refine p4.mono ?_); intro e w5 hpost)
          obtain ⟨rfl, rfl⟩ := tkPost_no HO.out hpost
          clear hpost
          go_wp2_with fail
          refine bodyPost_ret (v := .tuple #[.agg #[.string ⟨#[]⟩, .string ⟨#[]⟩, .int .i64 0, .int .i64 0, .string ⟨#[]⟩, .slice none 0 0], .int .i64 21]) (by simp [results, Try.results10, go_sem, z0, z1, z2, z3, z4, z5]) rfl ⟨none, 0, 0, by rw [HE.out]; rfl, Nat.le_refl _, by rw [HE.out]; exact isFs_nil _ _, newAt_none _, ?_⟩
          exact below_set6b HBW.out (by omega) _ _ _ _ _ _
      · have hkn : n = k := by omega
        subst hkn
        have HE : Hid (upR r = (upK r n, 0)) := HYES.out (by have := hno.out; rw [HN.out] at this; exact this)
        clear hno
        obtain ⟨A9, cap9, hv9, hcap9, hf9⟩ := isFs_own hown hwR
        subst hv9
        have hnew : NewAt (w1.heap.size + 1) A9 := newAt_own hown (Nat.le_refl (w1.heap.size + 1))
        obtain ⟨R, hR⟩ : ∃ R, upK r n = R := ⟨_, rfl⟩
        rw [hR] at hrb hown hf9 hcap9 HE
        clear hR hlx hwR
        obtain ⟨z0, z1, z2, z3, z4, z5⟩ := hzb.cells
        obtain ⟨d0, d1, d2, d3, d4, d5⟩ := hrb.cells
        have f0 := hzb.frozen 0
        have f1 := hzb.frozen 1
        have f2 := hzb.frozen 2
        have f3 := hzb.frozen 3
        have f4 := hzb.frozen 4
        have f5 := hzb.frozen 5
        have hxz := lt_of_blk hzb
        have hxd := lt_of_blk hrb
        simp only [zeroR] at z0 z1 z2 z3 z4
        have HF := Lib.hid hf9
        have HB := Lib.hid hbw
        clear hzb hrb hown hf9 hbw
        go_wp2_with fail
        refine bodyPost_ret (v := .tuple #[rcV R (.slice A9 R.extra.length cap9), .int .i64 0]) (by simp [results, Try.results10, go_sem, z0, z1, z2, z3, z4, z5]) rfl ⟨A9, R.extra.length, cap9, by rw [HE.out]; rfl, hcap9, ?_, hnew.mono (by omega), ?_⟩
        · rw [HE.out]
          exact isFs_set6 HF.out hnew (by omega) _ _ _ _ _ _
        · exact below_set6b HB.out (by omega) _ _ _ _ _ _
end Go.Proofs.Ytkcmjhpbjgjebaa


/-
  The contract of convert.To: what toR says, in new memory; nothing that was in memory changes.
-/
namespace Go.Proofs.Ytkcmjhpbjgjebaa
open Go.RowKit

theorem toR_bad {v u : Int} {r : Rcd} (h : ¬ (u = 1 ∨ u = 2)) : toR v u r = (zeroR, 1) := by unfold toR; rw [if_neg (fun h2 => h h2.2)]
theorem toR_no {v u : Int} {r : Rcd} (h : rightR v r = false) : toR v u r = (zeroR, 1) := by unfold toR; rw [if_neg (fun h2 => by rw [h] at h2; cases h2.1)]
theorem toR_same {v : Int} {r : Rcd} (h : rightR v r = true) : toR v v r = (r, 0) := by unfold toR; rw [if_pos ⟨h, (rightR_iff.1 h).1⟩, if_pos rfl]
theorem toR_up {v : Int} {r : Rcd} (h : rightR v r = true) (hv : v ≠ 2) : toR v 2 r = upR r := by unfold toR; rw [if_pos ⟨h, .inr rfl⟩, if_neg hv, if_pos rfl]
theorem toR_down {v : Int} {r : Rcd} (h : rightR v r = true) (hv : v ≠ 1) : toR v 1 r = downR r := by unfold toR; rw [if_pos ⟨h, .inl rfl⟩, if_neg hv, if_neg (by omega)]

set_option maxRecDepth 100000 in
set_option maxHeartbeats 4000000 in
theorem cTo_any (v u : Int) (r : Rcd) (A : Option Addr) (n cap : Nat) (w : World) (hr : RcWf r) (h : IsFs w A n r.extra) :
    Calls Try.prog 16 #[.int .i64 v, .int .i64 u, rcV r (.slice A n cap)] w (RecPost w (toR v u r)) := by
  obtain ⟨W, hW⟩ : ∃ W, (w.alloc (.cells #[.string r.key, .string r.value, .int .i64 r.rev, .int .i64 r.life, .string r.note, .slice A n cap] 24)).alloc (.cells #[.string ⟨#[]⟩, .string ⟨#[]⟩, .int .i64 0, .int .i64 0, .string ⟨#[]⟩, .slice none 0 0] 24) = W := ⟨_, rfl⟩
  obtain ⟨hb0, hr0, hz0, hsz⟩ := two_new w r (.slice A n cap) hW
  have p1 := rRight_any v r A n cap W hr (h.below hb0)
  obtain ⟨c0, c1, c2, c3, c4, c5⟩ := hr0.cells
  by_cases hu : u = 1 ∨ u = 2
  · cases hR : rightR v r with
    | false =>
      rw [hR] at p1
      have HE : Hid (toR v u r = (zeroR, 1)) := toR_no hR
      have HZ0 := Lib.hid hz0
      clear hR h hr0 hz0
      rcases hu with rfl | rfl
      all_goals
        go_enter Try.func16, Try.ntmps16
        go_wp2_with fail
        ((with_reducible refine p1.mono ?_); rintro e w1 ⟨rfl, b1⟩)
        have hz1 := HZ0.out.below b1
        have hb1 := bch hb0 b1
        obtain ⟨z0, z1, z2, z3, z4, z5⟩ := hz1.cells
        have f0 := hz1.frozen 0
        have f1 := hz1.frozen 1
        have f2 := hz1.frozen 2
        have f3 := hz1.frozen 3
        have f4 := hz1.frozen 4
        have f5 := hz1.frozen 5
        have hxz := lt_of_blk hz1
        simp only [zeroR] at z0 z1 z2 z3 z4
        have HBW := Lib.hid hb1
        clear hb0 b1 hz1 p1 hb1
        go_wp2_with fail
        refine bodyPost_ret (v := .tuple #[.agg #[.string ⟨#[]⟩, .string ⟨#[]⟩, .int .i64 0, .int .i64 0, .string ⟨#[]⟩, .slice none 0 0], .int .i64 1]) (by simp [results, Try.results16, go_sem, z0, z1, z2, z3, z4, z5]) rfl ⟨none, 0, 0, by rw [HE.out]; rfl, Nat.le_refl _, by rw [HE.out]; exact isFs_nil _ _, newAt_none _, ?_⟩
        exact below_set6b HBW.out (by omega) _ _ _ _ _ _

    | true =>
      rw [hR] at p1
      have hp := rightR_iff.1 hR
      have h64 : n ≤ 64 := by
        have := (rightB_iff.1 (extraB_iff.1 hp.2.2.2.2.2).1).1
        have := h.1
        omega
      have hv := hp.1
      by_cases hvu : v = u
      · subst hvu
        have HE : Hid (toR v v r = (r, 0)) := toR_same hR
        have HR0 := Lib.hid hr0
        have HZ0 := Lib.hid hz0
        have H0 := Lib.hid h
        clear hR hp hr0 hz0 h
        rcases hv with rfl | rfl
        all_goals
          go_enter Try.func16, Try.ntmps16
          go_wp2_with fail
          ((with_reducible refine p1.mono ?_); rintro e w1 ⟨rfl, b1⟩)
          have hr1 := HR0.out.below b1
          have hz1 := HZ0.out.below b1
          have hb1 := bch hb0 b1
          have hs1 := b1.size
          have p2 := copyOf_any r A n cap w1 (H0.out.below hb1) (by omega)
          clear c0 c1 c2 c3 c4 c5 hb0 b1 p1
          obtain ⟨c0, c1, c2, c3, c4, c5⟩ := hr1.cells
          clear hr1
          go_wp2_with fail
          ((with_reducible refine p2.mono ?_); rintro e w5 ⟨A5, n5, cap5, rfl, hc5, hf5, hnew, b5⟩)
          have hz5 := hz1.below b5
          have hb5 := bch hb1 b5
          have hs5 := b5.size
          obtain ⟨z0, z1, z2, z3, z4, z5⟩ := hz5.cells
          have f0 := hz5.frozen 0
          have f1 := hz5.frozen 1
          have f2 := hz5.frozen 2
          have f3 := hz5.frozen 3
          have f4 := hz5.frozen 4
          have f5 := hz5.frozen 5
          have hxz := lt_of_blk hz5
          simp only [zeroR] at z0 z1 z2 z3 z4
          have HBW := Lib.hid (hb5)
          have HF := Lib.hid hf5
          clear hb1 b5 hz1 hz5 hb5 hf5 p2 c0 c1 c2 c3 c4 c5
          go_wp2_with fail
          refine bodyPost_ret (v := .tuple #[rcV r (.slice A5 n5 cap5), .int .i64 0]) (by simp [results, Try.results16, go_sem, z0, z1, z2, z3, z4, z5]) rfl ⟨A5, n5, cap5, by first | (rw [HE.out]; done) | (rw [HE.out]; rfl), hc5, ?_, hnew.mono (by omega), ?_⟩
          · rw [HE.out]
            exact isFs_set6 HF.out hnew (by omega) _ _ _ _ _ _
          · exact below_set6b HBW.out (by omega) _ _ _ _ _ _

      · have pU := fun W hw => cUp_any r A n cap W hr hw
        have pD := fun W hw => cDown_any r A n cap W hr hw
        have hEU : u = 2 → toR v u r = upR r := fun h2 => by subst h2; exact toR_up hR hvu
        have hED : u = 1 → toR v u r = downR r := fun h2 => by subst h2; exact toR_down hR hvu
        have HR0 := Lib.hid hr0
        have HZ0 := Lib.hid hz0
        have H0 := Lib.hid h
        clear hR hp hr0 hz0 h
        generalize toR v u r = TT at *
        rcases hu with rfl | rfl
        · have hv2 : v = 2 := by omega
          subst hv2
          have HE := Lib.hid (hED rfl)
          clear hEU hED pU hv hvu
          obtain ⟨⟨R, x⟩, hRx⟩ : ∃ R, downR r = R := ⟨_, rfl⟩
          rw [hRx] at HE pD
          clear hRx
          go_enter Try.func16, Try.ntmps16
          go_wp2_with fail
          ((with_reducible refine p1.mono ?_); rintro e w1 ⟨rfl, b1⟩)
          have hr1 := HR0.out.below b1
          have hz1 := HZ0.out.below b1
          have hb1 := bch hb0 b1
          have hs1 := b1.size
          have p2 := pD w1 (H0.out.below hb1)
          clear c0 c1 c2 c3 c4 c5 hb0 b1 p1 pD
          obtain ⟨c0, c1, c2, c3, c4, c5⟩ := hr1.cells
          clear hr1
          go_wp2_with fail
          ((with_reducible refine p2.mono ?_); rintro e w5 ⟨A5, n5, cap5, rfl, hc5, hf5, hnew, b5⟩)
          have hz5 := hz1.below b5
          have hb5 := bch hb1 b5
          have hs5 := b5.size
          obtain ⟨z0, z1, z2, z3, z4, z5⟩ := hz5.cells
          have f0 := hz5.frozen 0
          have f1 := hz5.frozen 1
          have f2 := hz5.frozen 2
          have f3 := hz5.frozen 3
          have f4 := hz5.frozen 4
          have f5 := hz5.frozen 5
          have hxz := lt_of_blk hz5
          simp only [zeroR] at z0 z1 z2 z3 z4
          have HBW := Lib.hid (hb5)
          have HF := Lib.hid hf5
          clear hb1 b5 hz1 hz5 hb5 hf5 p2 c0 c1 c2 c3 c4 c5
          go_wp2_with fail
          refine bodyPost_ret (v := .tuple #[rcV R (.slice A5 n5 cap5), .int .i64 x]) (by simp [results, Try.results16, go_sem, z0, z1, z2, z3, z4, z5]) rfl ⟨A5, n5, cap5, by first | (rw [HE.out]; done) | (rw [HE.out]; rfl), hc5, ?_, hnew.mono (by omega), ?_⟩
          · rw [HE.out]
            exact isFs_set6 HF.out hnew (by omega) _ _ _ _ _ _
          · exact below_set6b HBW.out (by omega) _ _ _ _ _ _

        · have hv2 : v = 1 := by omega
          subst hv2
          have HE := Lib.hid (hEU rfl)
          clear hEU hED pD hv hvu
          obtain ⟨⟨R, x⟩, hRx⟩ : ∃ R, upR r = R := ⟨_, rfl⟩
          rw [hRx] at HE pU
          clear hRx
          go_enter Try.func16, Try.ntmps16
          go_wp2_with fail
          ((with_reducible refine p1.mono ?_); rintro e w1 ⟨rfl, b1⟩)
          have hr1 := HR0.out.below b1
          have hz1 := HZ0.out.below b1
          have hb1 := bch hb0 b1
          have hs1 := b1.size
          have p2 := pU w1 (H0.out.below hb1)
          clear c0 c1 c2 c3 c4 c5 hb0 b1 p1 pU
          obtain ⟨c0, c1, c2, c3, c4, c5⟩ := hr1.cells
          clear hr1
          go_wp2_with fail
          ((with_reducible refine p2.mono ?_); rintro e w5 ⟨A5, n5, cap5, rfl, hc5, hf5, hnew, b5⟩)
          have hz5 := hz1.below b5
          have hb5 := bch hb1 b5
          have hs5 := b5.size
          obtain ⟨z0, z1, z2, z3, z4, z5⟩ := hz5.cells
          have f0 := hz5.frozen 0
          have f1 := hz5.frozen 1
          have f2 := hz5.frozen 2
          have f3 := hz5.frozen 3
          have f4 := hz5.frozen 4
          have f5 := hz5.frozen 5
          have hxz := lt_of_blk hz5
          simp only [zeroR] at z0 z1 z2 z3 z4
          have HBW := Lib.hid (hb5)
          have HF := Lib.hid hf5
          clear hb1 b5 hz1 hz5 hb5 hf5 p2 c0 c1 c2 c3 c4 c5
          go_wp2_with fail
          refine bodyPost_ret (v := .tuple #[rcV R (.slice A5 n5 cap5), .int .i64 x]) (by simp [results, Try.results16, go_sem, z0, z1, z2, z3, z4, z5]) rfl ⟨A5, n5, cap5, by first | (rw [HE.out]; done) | (rw [HE.out]; rfl), hc5, ?_, hnew.mono (by omega), ?_⟩
          · rw [HE.out]
            exact isFs_set6 HF.out hnew (by omega) _ _ _ _ _ _
          · exact below_set6b HBW.out (by omega) _ _ _ _ _ _

  · have HE : Hid (toR v u r = (zeroR, 1)) := toR_bad hu
    have e1 : (u != 1) = true := by simp; omega
    have e2 : (u != 2) = true := by simp; omega
    clear hu h hr0 p1
    go_enter Try.func16, Try.ntmps16
    obtain ⟨z0, z1, z2, z3, z4, z5⟩ := hz0.cells
    have f0 := hz0.frozen 0
    have f1 := hz0.frozen 1
    have f2 := hz0.frozen 2
    have f3 := hz0.frozen 3
    have f4 := hz0.frozen 4
    have f5 := hz0.frozen 5
    have hxz := lt_of_blk hz0
    simp only [zeroR] at z0 z1 z2 z3 z4
    have HBW := Lib.hid hb0
    clear hb0 hz0
    go_wp2_with fail
    refine bodyPost_ret (v := .tuple #[.agg #[.string ⟨#[]⟩, .string ⟨#[]⟩, .int .i64 0, .int .i64 0, .string ⟨#[]⟩, .slice none 0 0], .int .i64 1]) (by simp [results, Try.results16, go_sem, z0, z1, z2, z3, z4, z5]) rfl ⟨none, 0, 0, by rw [HE.out]; rfl, Nat.le_refl _, by rw [HE.out]; exact isFs_nil _ _, newAt_none _, ?_⟩
    exact below_set6b HBW.out (by omega) _ _ _ _ _ _

end Go.Proofs.Ytkcmjhpbjgjebaa

