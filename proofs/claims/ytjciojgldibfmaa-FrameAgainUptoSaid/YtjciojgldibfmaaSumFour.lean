import Derived.Test.YtjciojgldibfmaaSum
import Derived.Test.YtjciojgldibfmaaFs
/-
  The contracts of sum.Bytes and the document's own Bytes: of a number that is a sum its four bytes, of any other one nothing. Nothing that was in memory changes.
-/
namespace Go.Proofs.Ytjciojgldibfmaa
open Go.RowKit

/-- A block of four bytes. -/
def Blk4 (w : World) (b : Nat) (x0 x1 x2 x3 : Int) : Prop := w.heap[b]? = some (.cells #[.int .u8 x0, .int .u8 x1, .int .u8 x2, .int .u8 x3] 76 (0, 0))
theorem Blk4.cells {w : World} {b : Nat} {x0 x1 x2 x3 : Int} (h : Blk4 w b x0 x1 x2 x3) : w.cell? ⟨b, 0, none⟩ = some (.int .u8 x0) ∧ w.cell? ⟨b, 1, none⟩ = some (.int .u8 x1) ∧ w.cell? ⟨b, 2, none⟩ = some (.int .u8 x2) ∧ w.cell? ⟨b, 3, none⟩ = some (.int .u8 x3) :=
  ⟨cell_blk h 0, cell_blk h 1, cell_blk h 2, cell_blk h 3⟩
theorem Blk4.frozen {w : World} {b : Nat} {x0 x1 x2 x3 : Int} (h : Blk4 w b x0 x1 x2 x3) (j : Nat) : w.frozen? ⟨b, j, none⟩ = false := frozen_blk h j
/-- So many bytes of a number, and zeros. -/
def b4 (n k j : Nat) : Int := if j < k then ((n / 256 ^ j % 256 : Nat) : Int) else 0
theorem le4_at (n : Nat) (h : n < 4294967296) : le4 n = [(n % 256).toUInt8, (n / 256 % 256).toUInt8, (n / 65536 % 256).toUInt8, (n / 16777216).toUInt8] := by
  unfold le4
  rw [Nat.mod_eq_of_lt (show n / 16777216 < 256 by omega)]
theorem u8_mod (x : Nat) : (((x % 256).toUInt8.toNat : Nat) : Int) = (x : Int) % 256 := by rw [toU8]; omega
theorem Blk4.put0 {w : World} {b n : Nat} (h : Blk4 w b (b4 n 0 0) (b4 n 0 1) (b4 n 0 2) (b4 n 0 3)) : Blk4 (w.setCell ⟨b, 0, none⟩ (.int .u8 ((n : Int) % 256))) b (b4 n 1 0) (b4 n 1 1) (b4 n 1 2) (b4 n 1 3) := by
  have e : b4 n 1 0 = (n : Int) % 256 := by unfold b4; rw [if_pos (by omega)]; simp
  have h2 : Blk4 (w.setCell ⟨b, 0, none⟩ (.int .u8 ((n : Int) % 256))) b ((n : Int) % 256) (b4 n 0 1) (b4 n 0 2) (b4 n 0 3) := heap_setCell_same w b 0 _ _ _ h
  rw [e]
  exact h2
theorem Blk4.put1 {w : World} {b n : Nat} (h : Blk4 w b (b4 n 1 0) (b4 n 1 1) (b4 n 1 2) (b4 n 1 3)) : Blk4 (w.setCell ⟨b, 1, none⟩ (.int .u8 ((n : Int) / 256 % 256))) b (b4 n 2 0) (b4 n 2 1) (b4 n 2 2) (b4 n 2 3) := by
  have e : b4 n 2 1 = (n : Int) / 256 % 256 := by unfold b4; rw [if_pos (by omega)]; simp
  have h2 : Blk4 (w.setCell ⟨b, 1, none⟩ (.int .u8 ((n : Int) / 256 % 256))) b (b4 n 1 0) ((n : Int) / 256 % 256) (b4 n 1 2) (b4 n 1 3) := heap_setCell_same w b 1 _ _ _ h
  rw [e]
  exact h2
theorem Blk4.put2 {w : World} {b n : Nat} (h : Blk4 w b (b4 n 2 0) (b4 n 2 1) (b4 n 2 2) (b4 n 2 3)) : Blk4 (w.setCell ⟨b, 2, none⟩ (.int .u8 ((n : Int) / 65536 % 256))) b (b4 n 3 0) (b4 n 3 1) (b4 n 3 2) (b4 n 3 3) := by
  have e : b4 n 3 2 = (n : Int) / 65536 % 256 := by unfold b4; rw [if_pos (by omega)]; simp
  have h2 : Blk4 (w.setCell ⟨b, 2, none⟩ (.int .u8 ((n : Int) / 65536 % 256))) b (b4 n 2 0) (b4 n 2 1) ((n : Int) / 65536 % 256) (b4 n 2 3) := heap_setCell_same w b 2 _ _ _ h
  rw [e]
  exact h2
theorem Blk4.put3 {w : World} {b n : Nat} (hn : n < 4294967296) (h : Blk4 w b (b4 n 3 0) (b4 n 3 1) (b4 n 3 2) (b4 n 3 3)) : Blk4 (w.setCell ⟨b, 3, none⟩ (.int .u8 ((n : Int) / 16777216))) b (b4 n 4 0) (b4 n 4 1) (b4 n 4 2) (b4 n 4 3) := by
  have e : b4 n 4 3 = (n : Int) / 16777216 := by unfold b4; rw [if_pos (by omega)]; show ((n / 16777216 % 256 : Nat) : Int) = _; rw [Nat.mod_eq_of_lt (by omega)]; rfl
  have h2 : Blk4 (w.setCell ⟨b, 3, none⟩ (.int .u8 ((n : Int) / 16777216))) b (b4 n 3 0) (b4 n 3 1) (b4 n 3 2) ((n : Int) / 16777216) := heap_setCell_same w b 3 _ _ _ h
  rw [e]
  exact h2
/-- A row of four bytes, as a text. -/
theorem conv_four {W : World} {b n : Nat} (h : Blk4 W b (b4 n 4 0) (b4 n 4 1) (b4 n 4 2) (b4 n 4 3)) :
    (convert 43 9 (.slice (some ⟨b, 0, none⟩) 4 4)).run Try.prog W = .ok (.string (bs (le4 n))) W := by
  obtain ⟨c0, c1, c2, c3⟩ := h.cells
  refine run_convert_bytes_back W _ _ 5 ⟨b, 0, none⟩ 4 (le4 n) Try.underlying43 Try.underlying5 Try.underlying9 (fun j hj => ?_)
  have hj4 : j < 4 := hj
  rcases (show j = 0 ∨ j = 1 ∨ j = 2 ∨ j = 3 by omega) with rfl | rfl | rfl | rfl
  · refine (show W.cell? ⟨b, 0, none⟩ = _ from c0).trans ?_
    show _ = some (Value.int .u8 (((n % 256).toUInt8.toNat : Nat) : Int)); rw [toU8]; simp [b4]
  · refine (show W.cell? ⟨b, 1, none⟩ = _ from c1).trans ?_
    show _ = some (Value.int .u8 (((n / 256 % 256).toUInt8.toNat : Nat) : Int)); rw [toU8]; simp [b4]
  · refine (show W.cell? ⟨b, 2, none⟩ = _ from c2).trans ?_
    show _ = some (Value.int .u8 (((n / 65536 % 256).toUInt8.toNat : Nat) : Int)); rw [toU8]; simp [b4]
  · refine (show W.cell? ⟨b, 3, none⟩ = _ from c3).trans ?_
    show _ = some (Value.int .u8 (((n / 16777216 % 256).toUInt8.toNat : Nat) : Int)); rw [toU8]; simp [b4]

set_option maxHeartbeats 400000 in
theorem bytes_no (n : Int) (h : n < 0 ∨ 4294967295 < n) (w : World) :
    Calls Try.prog 33 #[.int .i64 n] w fun e w' => e = .returned (.string (bs [])) ∧ w = w' := by
  rcases h with h | h
  · go_enter Try.func33, Try.ntmps33
    go_wp2
    go_ret
    exact ⟨rfl, rfl⟩
  · have h' : 0 ≤ n := by omega
    go_enter Try.func33, Try.ntmps33
    go_wp2
    go_ret
    exact ⟨rfl, rfl⟩

set_option maxRecDepth 100000 in
set_option maxHeartbeats 1000000 in
theorem bytes_ok (n : Nat) (hn : n < 4294967296) (w : World) :
    Calls Try.prog 33 #[.int .i64 n] w fun e w' => e = .returned (.string (bs (le4 n))) ∧ Below w.heap.size w w' := by
  go_enter Try.func33, Try.ntmps33
  go_wp2
  go_loopw [11] (fun i wr => ∃ k : Nat, k ≤ 4 ∧ i = .int .i64 k ∧ Blk4 wr w.heap.size (b4 n k 0) (b4 n k 1) (b4 n k 2) (b4 n k 3) ∧ Below w.heap.size w wr) (fun i _ => 4 - (intOf i).toNat)
  case atStart => exact ⟨0, by omega, rfl, World.alloc_heap_new w _, (Below.refl _ _).alloc (Nat.le_refl _) _⟩
  case round =>
    obtain ⟨k, hk, rfl, hb, hB⟩ := hrel
    obtain ⟨c0, c1, c2, c3⟩ := hb.cells
    have f0 := hb.frozen 0
    have f1 := hb.frozen 1
    have f2 := hb.frozen 2
    have f3 := hb.frozen 3
    rcases (show k = 4 ∨ k = 0 ∨ k = 1 ∨ k = 2 ∨ k = 3 by omega) with rfl | rfl | rfl | rfl | rfl
    · have hcv := conv_four hb
      go_wp2_with fail
      go_ret
      exact ⟨rfl, hB⟩
    · go_wp2_with fail
      go_roundw
      case rel => exact ⟨1, by omega, rfl, hb.put0, hB.setCell (p := ⟨w.heap.size, 0, none⟩) (Nat.le_refl _) _⟩
      case measure => simp [intOf]
    · go_wp2_with fail
      go_roundw
      case rel => exact ⟨2, by omega, rfl, hb.put1, hB.setCell (p := ⟨w.heap.size, 1, none⟩) (Nat.le_refl _) _⟩
      case measure => simp [intOf]
    · go_wp2_with fail
      go_roundw
      case rel => exact ⟨3, by omega, rfl, hb.put2, hB.setCell (p := ⟨w.heap.size, 2, none⟩) (Nat.le_refl _) _⟩
      case measure => simp [intOf]
    · go_wp2_with fail
      go_roundw
      case rel => exact ⟨4, by omega, rfl, hb.put3 hn, hB.setCell (p := ⟨w.heap.size, 3, none⟩) (Nat.le_refl _) _⟩
      case measure => simp [intOf]

/-- Bytes of what is a sum, or is none. -/
def bytesR (n : Int) : List UInt8 := if 0 ≤ n ∧ n ≤ 4294967295 then le4 n.toNat else []
theorem bytes_any (n : Int) (w : World) :
    Calls Try.prog 33 #[.int .i64 n] w fun e w' => e = .returned (.string (bs (bytesR n))) ∧ Below w.heap.size w w' := by
  by_cases h : 0 ≤ n ∧ n ≤ 4294967295
  · have := bytes_ok n.toNat (by omega) w
    rw [Int.toNat_of_nonneg h.1] at this
    unfold bytesR
    rw [if_pos h]
    exact this
  · unfold bytesR
    rw [if_neg h]
    refine (bytes_no n (by omega) w).mono ?_
    rintro e w' ⟨rfl, rfl⟩
    exact ⟨rfl, Below.refl _ _⟩

set_option maxHeartbeats 400000 in
theorem refbytes_no (n : Int) (h : n < 0 ∨ 4294967295 < n) (w : World) :
    Calls Try.prog 27 #[.int .i64 n] w fun e w' => e = .returned (.string (bs [])) ∧ w = w' := by
  rcases h with h | h
  · go_enter Try.func27, Try.ntmps27
    go_wp2
    go_ret
    exact ⟨rfl, rfl⟩
  · have h' : 0 ≤ n := by omega
    go_enter Try.func27, Try.ntmps27
    go_wp2
    go_ret
    exact ⟨rfl, rfl⟩

theorem le4_take (n k : Nat) (hk : k < 4) : (le4 n).take (k + 1) = (le4 n).take k ++ [UInt8.ofNat (((n / 256 ^ k : Nat) : Int) % 256).toNat] := by
  have e : ∀ x : Nat, (((x : Nat) : Int) % 256).toNat = x % 256 := fun x => by omega
  rw [e]
  rcases (show k = 0 ∨ k = 1 ∨ k = 2 ∨ k = 3 by omega) with rfl | rfl | rfl | rfl <;> simp [le4]

set_option maxRecDepth 100000 in
set_option maxHeartbeats 1000000 in
theorem refbytes_ok (n : Nat) (hn : n < 4294967296) (w : World) :
    Calls Try.prog 27 #[.int .i64 n] w fun e w' => e = .returned (.string (bs (le4 n))) ∧ Below w.heap.size w w' := by
  have hcv := conv_one
  go_enter Try.func27, Try.ntmps27
  go_wp2
  go_loopw [0, 3, 4] (fun m s i wr => ∃ k q : Nat, k ≤ 4 ∧ i = .int .i64 k ∧ m = .int .i64 q ∧ q = n / 256 ^ k ∧ s = .string (bs ((le4 n).take k)) ∧ Below w.heap.size w wr) (fun _ _ i _ => 4 - (intOf i).toNat)
  case atStart => exact ⟨0, n, by omega, rfl, rfl, by simp, rfl, Below.refl _ _⟩
  case round =>
    obtain ⟨k, q, hk, rfl, rfl, hq, rfl, hB⟩ := hrel
    have hql : q ≤ n := by rw [hq]; exact Nat.div_le_self _ _
    by_cases h4 : k < 4
    · have ht := le4_take n k h4
      rw [← hq] at ht
      have hq2 : q / 256 = n / 256 ^ (k + 1) := by rw [hq, Nat.pow_succ, Nat.div_div_eq_div_mul]
      have hadd : ∀ (b : UInt8) (W : World), (Op.stringOp .add (bs ((le4 n).take k)) (bs [b])).run Try.prog W = .ok (.string (bs ((le4 n).take k ++ [b]))) W := fun b W => by
        rw [run_string_add_sum W _ _ (by rw [bs_size, bs_size]; simp; omega), bs_append]
      have HQ := Lib.hid hq; clear hq
      have HQ2 := Lib.hid hq2; clear hq2
      have HT := Lib.hid ht; clear ht
      go_wp2
      go_roundw
      case rel => exact ⟨k + 1, q / 256, by omega, by go_num, by go_num, HQ2.out, by rw [HT.out, show (((q : Nat) : Int) % 256).toNat = q % 256 from by omega], hB.alloc hB.size _⟩
      case measure => simp [intOf]; omega
    · have hk4 : k = 4 := by omega
      subst hk4
      clear hq
      go_wp2
      go_ret
      exact ⟨rfl, hB⟩
theorem refbytes_any (n : Int) (w : World) :
    Calls Try.prog 27 #[.int .i64 n] w fun e w' => e = .returned (.string (bs (bytesR n))) ∧ Below w.heap.size w w' := by
  by_cases h : 0 ≤ n ∧ n ≤ 4294967295
  · have := refbytes_ok n.toNat (by omega) w
    rw [Int.toNat_of_nonneg h.1] at this
    unfold bytesR
    rw [if_pos h]
    exact this
  · unfold bytesR
    rw [if_neg h]
    refine (refbytes_no n (by omega) w).mono ?_
    rintro e w' ⟨rfl, rfl⟩
    exact ⟨rfl, Below.refl _ _⟩
end Go.Proofs.Ytjciojgldibfmaa
