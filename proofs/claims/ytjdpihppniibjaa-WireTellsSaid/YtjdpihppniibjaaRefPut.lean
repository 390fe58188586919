import Derived.Test.YtjdpihppniibjaaRows
import Derived.Test.YtjdpihppniibjaaGMath
import Derived.Test.YtjdpihppniibjaaGPick
import Derived.WalkKit
import Derived.ProofKit
import Derived.Lib.Hide
/-
  The contract of the document's own Put (careenref01.Put): for every number its bytes, or ErrArg; nothing that was in memory changes.
-/
namespace Go.Proofs.Ytjdpihppniibjaa
open Go.RowKit

/-- Bytes as a text. -/
def bs (l : List UInt8) : ByteArray := ⟨l.toArray⟩
theorem bs_append (l m : List UInt8) : bs l ++ bs m = bs (l ++ m) := by
  unfold bs
  rw [ByteArray.mk_append_mk]
theorem bs_size (l : List UInt8) : (bs l).size = l.length := by show l.toArray.size = _; simp

/-- One byte, laid in a new row, as a text. -/
theorem conv_one (W : World) (x : Int) :
    (convert 44 9 (.slice (some ⟨W.heap.size, 0, none⟩) 1 1)).run Try.prog (W.alloc (.cells #[.int .u8 x] 5)) = .ok (.string (bs [UInt8.ofNat x.toNat])) (W.alloc (.cells #[.int .u8 x] 5)) := by
  rw [run_convert_bytes_string _ _ _ 5 _ _ _ Try.underlying44 Try.underlying5 Try.underlying9]
  rw [run_bytesToString _ _ 1 1 [x] (by simp [loadCells, loadCellsFrom, go_sem])]
  rfl

set_option maxRecDepth 100000 in
set_option maxHeartbeats 1000000 in
theorem refput_ok (n : Int) (h1 : 0 ≤ n) (h2 : n ≤ 9007199254740992) (w : World) :
    Calls Try.prog 35 #[.int .i64 n] w fun e w' => e = .returned (.tuple #[.string (bs (vb n.toNat)), .int .i64 0]) ∧ Below w.heap.size w w' := by
  have hcv := conv_one
  go_enter Try.func35, Try.ntmps35
  go_wp2
  go_loopw [4, 0] (fun s i wr => ∃ (pre : List UInt8) (k : Nat), i = .int .i64 k ∧ s = .string (bs pre) ∧ pre ++ vb k = vb n.toNat ∧ k ≤ 9007199254740992 ∧ Below w.heap.size w wr) (fun _ i _ => (intOf i).toNat)
  case atStart => exact ⟨[], n.toNat, by congr 1; omega, rfl, rfl, by omega, Below.refl _ _⟩
  case round =>
    obtain ⟨pre, k, rfl, rfl, hv, hk, hB⟩ := hrel
    have hlen : pre.length + (vb k).length ≤ 8 := by
      have := congrArg List.length hv
      rw [List.length_append] at this
      have := vb_len8 (n := n.toNat) (by omega)
      omega
    have hadd : ∀ (b : UInt8) (W : World), (Op.stringOp .add (bs pre) (bs [b])).run Try.prog W = .ok (.string (bs (pre ++ [b]))) W := fun b W => by
      rw [run_string_add_sum W _ _ (by rw [bs_size, bs_size]; simp; omega), bs_append]
    have hk' : (k : Int) ≤ 9007199254740992 := by omega
    have HV := Lib.hid hv; clear hv
    have HL := Lib.hid hlen; clear hlen
    have HK := Lib.hid hk; clear hk
    by_cases hlt : k < 128
    · go_wp2
      go_ret2
      refine ⟨?_, hB.alloc hB.size _⟩
      have e : pre ++ [UInt8.ofNat k] = vb n.toNat := by rw [← HV.out, vb_small hlt]
      simp [e]
    · go_wp2
      go_roundw
      case rel => exact ⟨_, k / 128, by go_num, rfl, by rw [← HV.out, vb_big hlt]; simp, by have := HK.out; omega, hB.alloc hB.size _⟩
      case measure => simp [intOf]; omega

set_option maxHeartbeats 400000 in
theorem refput_no (n : Int) (h : n < 0 ∨ 9007199254740992 < n) (w : World) :
    Calls Try.prog 35 #[.int .i64 n] w fun e w' => e = .returned (.tuple #[.string (bs []), .int .i64 1]) ∧ Below w.heap.size w w' := by
  rcases h with h | h
  · go_enter Try.func35, Try.ntmps35
    go_wp2
    go_ret2
    exact ⟨rfl, Below.refl _ _⟩
  · have h' : 0 ≤ n := by omega
    go_enter Try.func35, Try.ntmps35
    go_wp2
    go_ret2
    exact ⟨rfl, Below.refl _ _⟩
end Go.Proofs.Ytjdpihppniibjaa
