import Derived.Test.YtjciojgldibfmaaFrLaw
/-
  The contracts of frame's small functions (stage 6): the two forms, what they answer.
-/
namespace Go.Proofs.Ytjciojgldibfmaa
open Go.RowKit
set_option linter.unusedVariables false

/-- Version 1's form, and version 2's. -/
def fmP : Value := .iface 62 (.agg #[])
def fmF : Value := .iface 63 (.agg #[])

theorem zFlagged (w : World) : (zeroValue 63).run Try.prog w = .ok (.agg #[]) w := by kernel_rfl
@[go_sem] theorem taFF6 (v : Value) (w : World) : (Instr.typeAssert (.iface 63 v) 48 63 true).run Try.prog w = .ok (.tuple #[v, .bool true]) w := by
  have h : Try.prog.concrete 63 = true := by kernel_rfl
  unfold Program.concrete at h
  cases hd : Try.prog.underlying 63 with
  | none => simp [hd] at h
  | some d => cases d <;> first | (simp [hd] at h; done) | simp [Instr.typeAssert, run_underlying hd]
@[go_sem] theorem taPF6 (v : Value) (w : World) : (Instr.typeAssert (.iface 62 v) 48 63 true).run Try.prog w = .ok (.tuple #[.agg #[], .bool false]) w := by
  have h : Try.prog.concrete 63 = true := by kernel_rfl
  have hz := zFlagged w
  unfold Program.concrete at h
  cases hd : Try.prog.underlying 63 with
  | none => simp [hd] at h
  | some d => cases d <;> first | (simp [hd] at h; done) | simp [Instr.typeAssert, run_underlying hd, hz]

set_option maxRecDepth 100000 in
set_option maxHeartbeats 1000000 in
theorem formOf_1 (w : World) : Calls Try.prog 22 #[.int .i64 1] w fun e w' => e = .returned (.tuple #[fmP, .bool true]) ∧ w = w' := by
  unfold fmP
  go_enter Try.func22, Try.ntmps22
  go_wp2_with fail
  go_ret2
  exact ⟨rfl, rfl⟩
set_option maxRecDepth 100000 in
set_option maxHeartbeats 1000000 in
theorem formOf_2 (w : World) : Calls Try.prog 22 #[.int .i64 2] w fun e w' => e = .returned (.tuple #[fmF, .bool true]) ∧ w = w' := by
  unfold fmF
  go_enter Try.func22, Try.ntmps22
  go_wp2_with fail
  go_ret2
  exact ⟨rfl, rfl⟩
set_option maxRecDepth 100000 in
set_option maxHeartbeats 1000000 in
theorem formOf_no (v : Int) (h1 : (v == 1) = false) (h2 : (v == 2) = false) (w : World) : Calls Try.prog 22 #[.int .i64 v] w fun e w' => e = .returned (.tuple #[.nilIface, .bool false]) ∧ w = w' := by
  go_enter Try.func22, Try.ntmps22
  go_wp2_with fail
  go_ret2
  exact ⟨rfl, rfl⟩
set_option maxRecDepth 100000 in
set_option maxHeartbeats 1000000 in
theorem hasFlags_1 (w : World) : Calls Try.prog 32 #[fmP] w fun e w' => e = .returned (.bool false) ∧ Below w.heap.size w w' := by
  unfold fmP
  go_enter Try.func32, Try.ntmps32
  go_wp2_with fail
  go_ret
  exact ⟨rfl, (Below.refl _ _).alloc (Nat.le_refl _) _⟩
set_option maxRecDepth 100000 in
set_option maxHeartbeats 1000000 in
theorem hasFlags_2 (w : World) : Calls Try.prog 32 #[fmF] w fun e w' => e = .returned (.bool true) ∧ Below w.heap.size w w' := by
  unfold fmF
  go_enter Try.func32, Try.ntmps32
  go_wp2_with fail
  go_ret
  exact ⟨rfl, (Below.refl _ _).alloc (Nat.le_refl _) _⟩
set_option maxRecDepth 100000 in
set_option maxHeartbeats 1000000 in
theorem other_1 (w : World) : Calls Try.prog 36 #[fmP] w fun e w' => e = .returned fmF ∧ Below w.heap.size w w' := by
  go_enter Try.func36, Try.ntmps36
  go_wp2_with fail
  ((with_reducible refine (hasFlags_1 _).mono ?_); rintro e W1 ⟨rfl, b1⟩)
  go_wp2_with fail
  go_ret
  exact ⟨rfl, b1⟩
set_option maxRecDepth 100000 in
set_option maxHeartbeats 1000000 in
theorem other_2 (w : World) : Calls Try.prog 36 #[fmF] w fun e w' => e = .returned fmP ∧ Below w.heap.size w w' := by
  go_enter Try.func36, Try.ntmps36
  go_wp2_with fail
  ((with_reducible refine (hasFlags_2 _).mono ?_); rintro e W1 ⟨rfl, b1⟩)
  go_wp2_with fail
  go_ret
  exact ⟨rfl, b1⟩
set_option maxRecDepth 100000 in
set_option maxHeartbeats 1000000 in
theorem mostFlags_1 (w : World) : Calls Try.prog 31 #[fmP] w fun e w' => e = .returned (.int .i64 0) ∧ Below w.heap.size w w' := by
  go_enter Try.func31, Try.ntmps31
  go_wp2_with fail
  ((with_reducible refine (hasFlags_1 _).mono ?_); rintro e W1 ⟨rfl, b1⟩)
  go_wp2_with fail
  go_ret
  exact ⟨rfl, b1⟩
set_option maxRecDepth 100000 in
set_option maxHeartbeats 1000000 in
theorem mostFlags_2 (w : World) : Calls Try.prog 31 #[fmF] w fun e w' => e = .returned (.int .i64 255) ∧ Below w.heap.size w w' := by
  go_enter Try.func31, Try.ntmps31
  go_wp2_with fail
  ((with_reducible refine (hasFlags_2 _).mono ?_); rintro e W1 ⟨rfl, b1⟩)
  go_wp2_with fail
  go_ret
  exact ⟨rfl, b1⟩
set_option maxRecDepth 100000 in
set_option maxHeartbeats 1000000 in
theorem kindAt_1 (w : World) : Calls Try.prog 41 #[fmP] w fun e w' => e = .returned (.int .i64 1) ∧ Below w.heap.size w w' := by
  go_enter Try.func41, Try.ntmps41
  go_wp2_with fail
  ((with_reducible refine (hasFlags_1 _).mono ?_); rintro e W1 ⟨rfl, b1⟩)
  go_wp2_with fail
  go_ret
  exact ⟨rfl, b1⟩
set_option maxRecDepth 100000 in
set_option maxHeartbeats 1000000 in
theorem kindAt_2 (w : World) : Calls Try.prog 41 #[fmF] w fun e w' => e = .returned (.int .i64 2) ∧ Below w.heap.size w w' := by
  go_enter Try.func41, Try.ntmps41
  go_wp2_with fail
  ((with_reducible refine (hasFlags_2 _).mono ?_); rintro e W1 ⟨rfl, b1⟩)
  go_wp2_with fail
  go_ret
  exact ⟨rfl, b1⟩
set_option maxRecDepth 100000 in
set_option maxHeartbeats 1000000 in
theorem letter_1 (w : World) : Calls Try.prog 60 #[.agg #[]] w fun e w' => e = .returned (.int .u8 97) ∧ Below w.heap.size w w' := by
  go_enter Try.func60, Try.ntmps60
  go_wp2_with fail
  go_ret
  exact ⟨rfl, (Below.refl _ _).alloc (Nat.le_refl _) _⟩
set_option maxRecDepth 100000 in
set_option maxHeartbeats 1000000 in
theorem letter_2 (w : World) : Calls Try.prog 64 #[.agg #[]] w fun e w' => e = .returned (.int .u8 98) ∧ Below w.heap.size w w' := by
  go_enter Try.func64, Try.ntmps64
  go_wp2_with fail
  go_ret
  exact ⟨rfl, (Below.refl _ _).alloc (Nat.le_refl _) _⟩
set_option maxRecDepth 100000 in
set_option maxHeartbeats 1000000 in
theorem mostKind_1 (w : World) : Calls Try.prog 61 #[.agg #[]] w fun e w' => e = .returned (.int .i64 9) ∧ Below w.heap.size w w' := by
  go_enter Try.func61, Try.ntmps61
  go_wp2_with fail
  go_ret
  exact ⟨rfl, (Below.refl _ _).alloc (Nat.le_refl _) _⟩
set_option maxRecDepth 100000 in
set_option maxHeartbeats 1000000 in
theorem mostKind_2 (w : World) : Calls Try.prog 65 #[.agg #[]] w fun e w' => e = .returned (.int .i64 255) ∧ Below w.heap.size w w' := by
  go_enter Try.func65, Try.ntmps65
  go_wp2_with fail
  go_ret
  exact ⟨rfl, (Below.refl _ _).alloc (Nat.le_refl _) _⟩

/-- The methods of the forms, by their names. -/
@[go_sem] theorem meth_l1 (k : Nat) (w : World) : (method (k + 1) 62 (.agg #[]) "careen/frame.letter").run Try.prog w = .ok (60, .agg #[]) w := by rfl
@[go_sem] theorem meth_l2 (k : Nat) (w : World) : (method (k + 1) 63 (.agg #[]) "careen/frame.letter").run Try.prog w = .ok (64, .agg #[]) w := by rfl
@[go_sem] theorem meth_k1 (k : Nat) (w : World) : (method (k + 1) 62 (.agg #[]) "careen/frame.mostKind").run Try.prog w = .ok (61, .agg #[]) w := by rfl
@[go_sem] theorem meth_k2 (k : Nat) (w : World) : (method (k + 1) 63 (.agg #[]) "careen/frame.mostKind").run Try.prog w = .ok (65, .agg #[]) w := by rfl
@[go_sem] theorem meth_p1 (k : Nat) (w : World) : (method (k + 1) 62 (.agg #[]) "careen/frame.putSize").run Try.prog w = .ok (62, .agg #[]) w := by rfl
@[go_sem] theorem meth_p2 (k : Nat) (w : World) : (method (k + 1) 63 (.agg #[]) "careen/frame.putSize").run Try.prog w = .ok (66, .agg #[]) w := by rfl
@[go_sem] theorem meth_t1 (k : Nat) (w : World) : (method (k + 1) 62 (.agg #[]) "careen/frame.takeSize").run Try.prog w = .ok (63, .agg #[]) w := by rfl
@[go_sem] theorem meth_t2 (k : Nat) (w : World) : (method (k + 1) 63 (.agg #[]) "careen/frame.takeSize").run Try.prog w = .ok (67, .agg #[]) w := by rfl

/-- Two bytes of a number. -/
theorem byte_hi (d : Nat) (h : d ≤ 4000) : (((UInt8.ofNat (d / 256)).toNat : Nat) : Int) = (d : Int) / 256 := by rw [toNat_ofNat_lt (by omega)]; omega
theorem byte_lo (d : Nat) : (((UInt8.ofNat (d % 256)).toNat : Nat) : Int) = (d : Int) % 256 := by rw [toNat_ofNat_lt (by omega)]; omega

set_option maxRecDepth 100000 in
set_option maxHeartbeats 1000000 in
theorem putSize_1 (d : Nat) (h : d ≤ 4000) (w : World) : Calls Try.prog 62 #[.agg #[], .int .i64 d] w fun e w' => e = .returned (.string (bs [UInt8.ofNat (d / 256), UInt8.ofNat (d % 256)])) ∧ Below w.heap.size w w' := by
  have hcv : ∀ W : World, (convert 43 9 (.slice (some ⟨W.heap.size, 0, none⟩) 2 2)).run Try.prog (W.alloc (.cells #[.int .u8 ((d : Int) / 256), .int .u8 ((d : Int) % 256)] 5)) = .ok (.string (bs [UInt8.ofNat (d / 256), UInt8.ofNat (d % 256)])) (W.alloc (.cells #[.int .u8 ((d : Int) / 256), .int .u8 ((d : Int) % 256)] 5)) := fun W => by
    have h1 := conv_new W [UInt8.ofNat (d / 256), UInt8.ofNat (d % 256)]
    have e : ([UInt8.ofNat (d / 256), UInt8.ofNat (d % 256)].map fun c => Value.int .u8 c.toNat).toArray = #[.int .u8 ((d : Int) / 256), .int .u8 ((d : Int) % 256)] := by
      show #[Value.int .u8 (((UInt8.ofNat (d / 256)).toNat : Nat) : Int), .int .u8 (((UInt8.ofNat (d % 256)).toNat : Nat) : Int)] = _
      rw [byte_hi d h, byte_lo d]
    rw [e] at h1
    exact h1
  have hcv1 := hcv (w.alloc (.cells #[] 62))
  rw [World.size_alloc] at hcv1
  clear hcv
  go_enter Try.func62, Try.ntmps62
  go_wp2_with fail
  go_ret
  exact ⟨rfl, ((Below.refl _ _).alloc (Nat.le_refl _) _).alloc (by simp) _⟩
set_option maxRecDepth 100000 in
set_option maxHeartbeats 1000000 in
theorem putSize_2 (d : Nat) (h : d ≤ 4000) (w : World) : Calls Try.prog 66 #[.agg #[], .int .i64 d] w fun e w' => e = .returned (.string (bs (vb d))) ∧ Below w.heap.size w w' := by
  have q := put_nat d (by omega)
  have hb0 : Below w.heap.size w (w.alloc (.cells #[] 63)) := (Below.refl _ _).alloc (Nat.le_refl _) _
  go_enter Try.func66, Try.ntmps66
  go_wp2_with fail
  ((with_reducible refine (q _).mono ?_); rintro e W1 ⟨rfl, b1⟩)
  go_wp2_with fail
  go_ret
  exact ⟨rfl, bch hb0 b1⟩
theorem i64_or_nat (a b : Nat) (ha : a < 256) (hb : b < 256) : bits .or .i64 ((a : Int) * 256) (b : Int) = (a : Int) * 256 + (b : Int) := by
  have e : (a * 256) ||| b = a * 256 + b := by rw [Nat.or_comm]; exact nat_join8' (a * 256) b (by omega) hb
  have hc : ((a : Int) * 256) = ((a * 256 : Nat) : Int) := by omega
  rw [hc]
  show IntKind.i64.wrap ((BitVec.ofInt 64 ((a * 256 : Nat) : Int) ||| BitVec.ofInt 64 (b : Int)).toNat : Int) = _
  rw [BitVec.toNat_or, BitVec.ofInt_natCast, BitVec.ofInt_natCast, BitVec.toNat_ofNat, BitVec.toNat_ofNat, Nat.mod_eq_of_lt (by omega), Nat.mod_eq_of_lt (by omega), e, IntKind.wrap_i64]
  omega
set_option maxRecDepth 100000 in
set_option maxHeartbeats 1000000 in
theorem takeSize_1c (s : ByteArray) (h : s.size < 2) (w : World) : Calls Try.prog 63 #[.agg #[], .string s] w fun e w' => e = .returned (.tuple #[.int .i64 0, .int .i64 0, .int .i64 10]) ∧ Below w.heap.size w w' := by
  go_enter Try.func63, Try.ntmps63
  go_wp2_with fail
  go_ret3
  exact ⟨rfl, (Below.refl _ _).alloc (Nat.le_refl _) _⟩
set_option maxRecDepth 100000 in
set_option maxHeartbeats 1000000 in
theorem takeSize_1 (s : ByteArray) (a b : Nat) (h : 2 ≤ s.size) (hm : s.size ≤ 140737488355328) (ha : s[0].toNat = a) (hb : s[1].toNat = b) (w : World) : Calls Try.prog 63 #[.agg #[], .string s] w fun e w' => e = .returned (.tuple #[.int .i64 (a * 256 + b : Nat), .int .i64 2, .int .i64 0]) ∧ Below w.heap.size w w' := by
  have la : a < 256 := by rw [← ha]; exact s[0].toNat_lt
  have lb : b < 256 := by rw [← hb]; exact s[1].toNat_lt
  have ho := i64_or_nat a b la lb
  have j0 : (0 : Int) < (s.size : Int) := by omega
  have j1 : (1 : Int) < (s.size : Int) := by omega
  have hb0 : Below w.heap.size w (w.alloc (.cells #[] 62)) := (Below.refl _ _).alloc (Nat.le_refl _) _
  go_enter Try.func63, Try.ntmps63
  go_wp2_with fail
  go_quiet (fail)
  trace_state
  go_wp2_with fail
  go_ret3
  exact ⟨by simp, bdn hb0 _⟩
set_option maxRecDepth 100000 in
set_option maxHeartbeats 1000000 in
theorem takeSize_2 (s : ByteArray) (hm : s.size ≤ 140737488355328) (w : World) : Calls Try.prog 67 #[.agg #[], .string s] w fun e w' => e = .returned (.tuple #[.int .i64 (takeR s.data.toList).1, .int .i64 (takeR s.data.toList).2.1, .int .i64 (takeR s.data.toList).2.2]) ∧ Below w.heap.size w w' := by
  have q := take_any s (by unfold maxLen; omega)
  have hb0 : Below w.heap.size w (w.alloc (.cells #[] 63)) := (Below.refl _ _).alloc (Nat.le_refl _) _
  go_enter Try.func67, Try.ntmps67
  go_wp2_with fail
  ((with_reducible refine (q _).mono ?_); rintro e W1 ⟨rfl, b1⟩)
  go_wp2_with fail
  go_ret3
  exact ⟨rfl, bch hb0 b1⟩
end Go.Proofs.Ytjciojgldibfmaa
