/-
  The contracts of record.becomes (a map of functions), of a look-up in it, and of the functions that it holds: each sets one cell of the record, and tells whether Data may be.
-/
import Derived.Test.YtkhpkjnnkmoeoaaRecNum
import Derived.Maps.OwnSet
namespace Go.Proofs.Ytkhpkjnnkmoeoaa
open Go.RowKit
open Go.Maps (Keyed int_keyed keyOf_int_mk)

/-- How a function value of the program reads: as its number. -/
def fnRd (v : Value) : Option (DataW Unit × List MemPlace) :=
  match v with
  | .func (.func f) a b => if a.size = 0 ∧ b.size = 0 then some (.lit (.int .i64 (f : Int)), []) else none
  | .nilFunc => some (.lit (.bool false), [])
  | _ => none
theorem fnRd_inv {v : Value} {f : Nat} {ps : List MemPlace} (h : fnRd v = some (.lit (.int .i64 (f : Int)), ps)) : v = .func (.func f) #[] #[] := by
  unfold fnRd at h
  split at h
  · rename_i g a b
    split at h
    · rename_i hc
      simp only [Option.some.injEq, Prod.mk.injEq, DataW.lit.injEq, Lit.int.injEq, true_and] at h
      have h1 : a = #[] := Array.eq_empty_of_size_eq_zero hc.1
      have h2 : b = #[] := Array.eq_empty_of_size_eq_zero hc.2
      have h3 : g = f := Int.ofNat.inj h.1
      rw [h1, h2, h3]
    · cases h
  · simp at h
  · cases h

theorem wpList_insert_own {H : Type} {P : Program} (w : World) {ops : Array Oper} {rest : List Oper} {o : Oper} {a : Act} {Q : Exit → Act → World → Prop}
    (hg : o.guard = none) (m x v : Operand) (t : TypeId) (hop : o.op = Op.insert t m x v)
    (k e : TypeId) (K : Keyed P k) (ht : P.underlying t = some (.map k e)) (R : Value → Option (DataW H × List MemPlace)) (b n : Nat) (D : DataW H)
    (hm : a.eval m = .map (some b)) (hown : w.ownsMap P k R b n D) (hn : n < maxLen) (key val : Value) (kl : Lit) (hx : a.eval x = key) (hv : a.eval v = val) (hkey : keyOf P k key = some kl)
    (d : DataW H) (ps : List MemPlace) (hval : R val = some (d, ps))
    (hK : ∀ w', w'.ownsMap P k R b (n + 1) (D.put kl d) → w.grownBy w' (some b) → wpList P ops Q rest (a.put o.dst undef) w') :
    wpList P ops Q (o :: rest) a w := by
  refine wpList_plain hg fun K' hK' => ?_
  obtain ⟨w', hrun, r1, r2⟩ := hown.update K ht hn hkey hval
  unfold Oper.wp
  simp [execOp, hop, hm, hx, hv, hrun, Result.andThen]
  exact hK' _ _ (hK w' r1 r2)
theorem wpList_lookup_fn {P : Program} (w : World) {ops : Array Oper} {rest : List Oper} {o : Oper} {a : Act} {Q : Exit → Act → World → Prop}
    (hg : o.guard = none) (m x : Operand) (t : TypeId) (hop : o.op = Op.lookup t m x false)
    (k e : TypeId) (K : Keyed P k) (ht : P.underlying t = some (.map k e)) (hz : (zeroValue e).run P w = .ok .nilFunc w) (b n : Nat) (D : DataW Unit)
    (hm : a.eval m = .map (some b)) (hown : w.ownsMap P k fnRd b n D) (key : Value) (kl : Lit) (hx : a.eval x = key) (hkey : keyOf P k key = some kl)
    (f : Nat) (hat : D.atKey kl (.lit (.bool false)) = .lit (.int .i64 (f : Int)))
    (hK : wpList P ops Q rest (a.put o.dst (.func (.func f) #[] #[])) w) :
    wpList P ops Q (o :: rest) a w := by
  refine wpList_plain hg fun K' hK' => ?_
  obtain ⟨v, ps, hrun, hv⟩ := hown.lookup K ht hz (zd := .lit (.bool false)) (zp := []) rfl hkey
  rw [hat] at hv
  obtain rfl := fnRd_inv hv
  unfold Oper.wp
  simp [execOp, hop, hm, hx, hrun, Result.andThen]
  exact hK' _ _ hK

/-- What the map says: of each tag, which function. -/
def becD : DataW Unit := (((((DataW.map []).put (.int .i64 1) (.lit (.int .i64 (59 : Nat)))).put (.int .i64 2) (.lit (.int .i64 (61 : Nat)))).put (.int .i64 3) (.lit (.int .i64 (62 : Nat)))).put (.int .i64 4) (.lit (.int .i64 (64 : Nat)))).put (.int .i64 5) (.lit (.int .i64 (65 : Nat)))
theorem becD_1 : becD.atKey (.int .i64 1) (.lit (.bool false)) = .lit (.int .i64 (59 : Nat)) := by rfl
theorem becD_2 : becD.atKey (.int .i64 2) (.lit (.bool false)) = .lit (.int .i64 (61 : Nat)) := by rfl
theorem becD_3 : becD.atKey (.int .i64 3) (.lit (.bool false)) = .lit (.int .i64 (62 : Nat)) := by rfl
theorem becD_4 : becD.atKey (.int .i64 4) (.lit (.bool false)) = .lit (.int .i64 (64 : Nat)) := by rfl
theorem becD_5 : becD.atKey (.int .i64 5) (.lit (.bool false)) = .lit (.int .i64 (65 : Nat)) := by rfl
theorem zeroBec (w : World) : (zeroValue 81).run Try.prog w = .ok .nilFunc w := by kernel_rfl

def BecPost (w : World) (e : Ending) (w' : World) : Prop :=
  ∃ b, e = .returned (.map (some b)) ∧ w'.ownsMap Try.prog 3 fnRd b 5 becD ∧ Below w.heap.size w w' ∧ w.heap.size ≤ b

set_option maxRecDepth 100000 in
set_option maxHeartbeats 2000000 in
theorem becomes_any (w : World) : Calls Try.prog 53 #[] w (BecPost w) := by
  have hmm := @run_makeMap Try.prog
  have h0 : (w.alloc (.map #[] 0)).ownsMap Try.prog 3 fnRd w.heap.size 0 (.map []) := World.ownsMap_made _ _ _ _
  have hb0 : Below w.heap.size w (w.alloc (.map #[] 0)) := (Below.refl _ _).alloc (Nat.le_refl _) _
  go_enter Try.func53, Try.ntmps53
  go_wp2_with (refine wpList_insert_own _ rfl _ _ _ 78 rfl 3 81 (int_keyed Try.underlying3) Try.underlying78 fnRd w.heap.size 0 (.map []) rfl h0 (by unfold maxLen; omega) _ _ (.int .i64 1) rfl rfl (keyOf_int_mk Try.underlying3 (by decide)) (.lit (.int .i64 (59 : Nat))) [] rfl ?_)
  intro w1 h1 g1
  go_wp2_with (refine wpList_insert_own _ rfl _ _ _ 78 rfl 3 81 (int_keyed Try.underlying3) Try.underlying78 fnRd w.heap.size 1 _ rfl h1 (by unfold maxLen; omega) _ _ (.int .i64 2) rfl rfl (keyOf_int_mk Try.underlying3 (by decide)) (.lit (.int .i64 (61 : Nat))) [] rfl ?_)
  intro w2 h2 g2
  go_wp2_with (refine wpList_insert_own _ rfl _ _ _ 78 rfl 3 81 (int_keyed Try.underlying3) Try.underlying78 fnRd w.heap.size 2 _ rfl h2 (by unfold maxLen; omega) _ _ (.int .i64 3) rfl rfl (keyOf_int_mk Try.underlying3 (by decide)) (.lit (.int .i64 (62 : Nat))) [] rfl ?_)
  intro w3 h3 g3
  go_wp2_with (refine wpList_insert_own _ rfl _ _ _ 78 rfl 3 81 (int_keyed Try.underlying3) Try.underlying78 fnRd w.heap.size 3 _ rfl h3 (by unfold maxLen; omega) _ _ (.int .i64 4) rfl rfl (keyOf_int_mk Try.underlying3 (by decide)) (.lit (.int .i64 (64 : Nat))) [] rfl ?_)
  intro w4 h4 g4
  go_wp2_with (refine wpList_insert_own _ rfl _ _ _ 78 rfl 3 81 (int_keyed Try.underlying3) Try.underlying78 fnRd w.heap.size 4 _ rfl h4 (by unfold maxLen; omega) _ _ (.int .i64 5) rfl rfl (keyOf_int_mk Try.underlying3 (by decide)) (.lit (.int .i64 (65 : Nat))) [] rfl ?_)
  intro w5 h5 g5
  go_wp2_with fail
  go_ret
  have s0 := hb0.size
  have s1 := g1.size
  have s2 := g2.size
  have s3 := g3.size
  have s4 := g4.size
  have key : ∀ k, some w.heap.size = some k → w.heap.size ≤ k := fun k hk => by cases hk; exact Nat.le_refl _
  exact ⟨w.heap.size, rfl, h5, ((((hb0.grown g1 (by omega) key).grown g2 (by omega) key).grown g3 (by omega) key).grown g4 (by omega) key).grown g5 (by omega) key, Nat.le_refl _⟩

set_option maxHeartbeats 400000 in
theorem takeText_any (b j : Nat) (d : ByteArray) (m : Int) (w : World) (hd : d.size ≤ 9223372036854775807) (hc : ∃ s, w.cell? ⟨b, j, none⟩ = some (.string s)) (hf : w.frozen? ⟨b, j, none⟩ = false) :
    Calls Try.prog 60 #[.pointer (some ⟨b, j, none⟩), .string d, .int .i64 m] w fun e w' => e = .returned (.bool (textB d m)) ∧ w.setCell ⟨b, j, none⟩ (.string d) = w' := by
  obtain ⟨s, hc⟩ := hc
  have p1 := isText_any d m hd
  go_enter Try.func60, Try.ntmps60
  go_wp2_with fail
  ((with_reducible refine (p1 _).mono ?_); rintro e w1 ⟨rfl, rfl⟩)
  go_wp2_with fail
  go_ret
  exact ⟨rfl, rfl⟩
def numOk (d : ByteArray) : Bool := decide (0 < wholeN d.data.toList)
set_option maxHeartbeats 1000000 in
theorem takeNumber_any (b j : Nat) (d : ByteArray) (w : World) (hd : d.size ≤ maxLen) (hc : ∃ n, w.cell? ⟨b, j, none⟩ = some (.int .i64 n)) (hf : w.frozen? ⟨b, j, none⟩ = false) :
    Calls Try.prog 63 #[.pointer (some ⟨b, j, none⟩), .string d] w fun e w' => e = .returned (.bool (numOk d)) ∧ ∃ (n : Nat) (w1 : World), (numOk d = true → n = wholeN d.data.toList) ∧ Below w.heap.size w w1 ∧ w1.setCell ⟨b, j, none⟩ (.int .i64 n) = w' := by
  obtain ⟨s, hc⟩ := hc
  have hlt := lt_of_cell (a := ⟨b, j, none⟩) hc
  have p1 := take_any d hd
  have he := takeR_err d.data.toList
  have hl : d.data.toList.length = d.size := by simp
  obtain ⟨W, hW⟩ : ∃ W, wholeN d.data.toList = W := ⟨_, rfl⟩
  have hB : numOk d = decide (0 < W) := by unfold numOk; rw [hW]
  rw [hB, hW]
  clear hB
  unfold wholeN at hW
  rw [hl] at hW
  clear hl
  unfold maxLen at hd
  generalize (takeR d.data.toList).1 = n at *
  generalize (takeR d.data.toList).2.1 = k at *
  generalize (takeR d.data.toList).2.2 = x at *
  have HW := Lib.hid hW; clear hW
  rcases he with rfl | rfl | rfl
  · by_cases hk : k = d.size
    · have HE : Hid (W = n) := by have := HW.out; rw [if_pos ⟨rfl, hk⟩] at this; exact this.symm
      have e1 : ((k : Int) == (d.size : Int)) = true := by simp; omega
      clear hk
      by_cases h0 : 0 < n
      · have h0' : 0 < (n : Int) := by omega
        go_enter Try.func63, Try.ntmps63
        go_wp2_with fail
        refine (p1 _).mono ?_; rintro e w1 ⟨rfl, b1⟩; have hc1 := (b1.cell (p := ⟨b, j, none⟩) hlt).trans hc; have hf1 := (b1.frozen (p := ⟨b, j, none⟩) hlt).trans hf
        go_wp2_with fail
        go_ret
        exact ⟨ret_bool (by rw [HE.out]; simp; omega), n, w1, fun _ => HE.out.symm, b1, rfl⟩
      · have h0' : decide (0 < (n : Int)) = false := by simp; omega
        have h0'' : decide (0 < n) = false := by simp; omega
        go_enter Try.func63, Try.ntmps63
        go_wp2_with fail
        refine (p1 _).mono ?_; rintro e w1 ⟨rfl, b1⟩; have hc1 := (b1.cell (p := ⟨b, j, none⟩) hlt).trans hc; have hf1 := (b1.frozen (p := ⟨b, j, none⟩) hlt).trans hf
        go_wp2_with fail
        go_ret
        exact ⟨ret_bool (by rw [HE.out]; simp; omega), n, w1, fun _ => HE.out.symm, b1, rfl⟩
    · have HE : Hid (W = 0) := by have := HW.out; rw [if_neg (fun h => hk h.2)] at this; exact this.symm
      have e1 : ((k : Int) == (d.size : Int)) = false := by simp; omega
      clear hk
      go_enter Try.func63, Try.ntmps63
      go_wp2_with fail
      refine (p1 _).mono ?_; rintro e w1 ⟨rfl, b1⟩; have hc1 := (b1.cell (p := ⟨b, j, none⟩) hlt).trans hc; have hf1 := (b1.frozen (p := ⟨b, j, none⟩) hlt).trans hf
      go_wp2_with fail
      go_ret
      exact ⟨ret_bool (by rw [HE.out]; rfl), n, w1, fun h => (by rw [HE.out] at h; cases h), b1, rfl⟩
  all_goals
    have HE : Hid (W = 0) := by have := HW.out; rw [if_neg (fun h => by omega)] at this; exact this.symm
    go_enter Try.func63, Try.ntmps63
    go_wp2_with fail
    refine (p1 _).mono ?_; rintro e w1 ⟨rfl, b1⟩; have hc1 := (b1.cell (p := ⟨b, j, none⟩) hlt).trans hc; have hf1 := (b1.frozen (p := ⟨b, j, none⟩) hlt).trans hf
    go_wp2_with fail
    go_ret
    exact ⟨ret_bool (by rw [HE.out]; rfl), n, w1, fun h => (by rw [HE.out] at h; cases h), b1, rfl⟩
end Go.Proofs.Ytkhpkjnnkmoeoaa
