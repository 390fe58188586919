import Derived.Test.YtndkmepdnekigaaPut
import Derived.RegionIn
import Derived.BigRegionIn
/-
  The contract of varint.Take: for every text what takeR says of its bytes; nothing that was in memory changes. (Its iterator's contract on the way.)
-/
namespace Go.Proofs.Ytndkmepdnekigaa
open Go.RowKit Go.Shelf

attribute [local go_sem] Oper.semAt_some

theorem lead_ge (l : List UInt8) (j : Nat) (h : j < lead l) : ¬ (l[j]?.getD 0).toNat < 128 := by
  induction l generalizing j with
  | nil => simp [lead] at h
  | cons b t ih =>
    unfold lead at h
    split at h
    · omega
    · cases j with
      | zero => rename_i hb; simpa using hb
      | succ j => simpa using ih j (by omega)
theorem lead_at (l : List UInt8) (h : lead l < l.length) : (l[lead l]?.getD 0).toNat < 128 := by
  induction l with
  | nil => simp at h
  | cons b t ih =>
    unfold lead at h ⊢
    split
    · simpa using ‹_›
    · rename_i hb; rw [if_neg hb] at h; simpa using ih (by simpa using h)

/-- How many bytes are looked at. -/
def cntA (s : ByteArray) : Nat := min (lead s.data.toList + 1) (min s.size 8)
/-- A text's byte. -/
def byteA (s : ByteArray) (j : Nat) : UInt8 := s.data.toList[j]?.getD 0
theorem byteA_eq (s : ByteArray) (j : Nat) (h : j < s.size) : byteA s j = s[j] := by
  unfold byteA
  have h' : j < s.data.toList.length := by simpa using h
  rw [List.getElem?_eq_getElem h']; rfl

/-- The byte that was looked at last; 128 before the first. -/
def lastA (s : ByteArray) (j : Nat) : Nat := if j = 0 then 128 else (byteA s (j - 1)).toNat

/-- What a byte is worth at its place. -/
def digA (s : ByteArray) (j : Nat) : Nat := (byteA s j).toNat % 128 * 128 ^ j
theorem shl_dig (s : ByteArray) (j : Nat) (hj : j < 8) (W : World) :
    (Op.shift .shl .i64 (IntKind.i64.wrap (((byteA s j).toNat : Int).tmod 128)) .i64 (IntKind.i64.wrap (7 * (j : Int)))).run Try.prog W = .ok (.int .i64 (digA s j)) W := by
  have hb := (byteA s j).toNat_lt
  unfold digA
  generalize (byteA s j).toNat = b at *
  have e1 : IntKind.i64.wrap (7 * (j : Int)) = 7 * (j : Int) := IntWalk.i64_in _ (by omega)
  have e2 : ((b : Int)).tmod 128 = ((b % 128 : Nat) : Int) := by rw [Int.tmod_eq_emod_of_nonneg (by omega)]; omega
  have e3 : IntKind.i64.wrap ((b % 128 : Nat) : Int) = ((b % 128 : Nat) : Int) := IntWalk.i64_in _ (by omega)
  rw [e1, e2, e3, shift_shl_any _ _ _ _ (by omega)]
  have e4 : ((b % 128 : Nat) : Int) * 2 ^ min (7 * (j : Int)).toNat IntKind.i64.bits = ((b % 128 * 128 ^ j : Nat) : Int) := by
    have : min (7 * (j : Int)).toNat IntKind.i64.bits = 7 * j := by simp [IntKind.bits]; omega
    rw [this, show ((2 : Int) ^ (7 * j)) = ((2 ^ (7 * j) : Nat) : Int) by simp, Nat.pow_mul]
    simp
  have e5 : b % 128 * 128 ^ j < 72057594037927936 := by
    have h1 : b % 128 * 128 ^ j < 128 * 128 ^ j := Nat.mul_lt_mul_of_pos_right (by omega) (Nat.pow_pos (by omega))
    have h2 : 128 ^ (j + 1) ≤ 128 ^ 8 := Nat.pow_le_pow_right (by omega) (by omega)
    rw [Nat.pow_succ] at h2
    have h3 : (128 : Nat) ^ 8 = 72057594037927936 := by decide
    omega
  rw [e4, IntWalk.i64_in _ (by omega)]
  rfl

theorem val_lt (l : List UInt8) : val l < 128 ^ l.length := by
  induction l with
  | nil => simp [val]
  | cons b t ih => simp only [val, List.length_cons, Nat.pow_succ]; omega
theorem val_snoc (l : List UInt8) (b : UInt8) : val (l ++ [b]) = val l + b.toNat % 128 * 128 ^ l.length := by
  induction l with
  | nil => simp [val]
  | cons c t ih => simp only [List.cons_append, val, ih, List.length_cons, Nat.pow_succ, Nat.mul_add]; rw [Nat.add_assoc]; congr 2; rw [Nat.mul_left_comm, Nat.mul_comm 128]
theorem val_step (s : ByteArray) (j : Nat) (h : j < s.size) : val (s.data.toList.take (j + 1)) = val (s.data.toList.take j) + digA s j := by
  have h' : j < s.data.toList.length := by simpa using h
  rw [List.take_succ_eq_append_getElem h', val_snoc, List.length_take, Nat.min_eq_left (by omega)]
  unfold digA byteA
  rw [List.getElem?_eq_getElem h']; rfl
theorem val_take_lt (s : ByteArray) (j : Nat) (h : j ≤ s.size) : val (s.data.toList.take j) < 128 ^ j := by
  have := val_lt (s.data.toList.take j)
  rwa [List.length_take, Nat.min_eq_left (by simpa using h)] at this
theorem or_dig (s : ByteArray) (j : Nat) (h : j < s.size) (h8 : j < 8) : bits .or .i64 (val (s.data.toList.take j)) (digA s j) = (val (s.data.toList.take (j + 1)) : Int) := by
  rw [val_step s j h]
  have h1 := val_take_lt s j (by omega)
  have h2 : digA s j = 2 ^ (7 * j) * ((byteA s j).toNat % 128) := by unfold digA; rw [Nat.pow_mul, Nat.mul_comm]
  have h3 := Nat.two_pow_add_eq_or_of_lt (i := 7 * j) (b := val (s.data.toList.take j)) (by rw [Nat.pow_mul]; exact h1) ((byteA s j).toNat % 128)
  have h4 : 128 ^ (j + 1) ≤ 128 ^ 8 := Nat.pow_le_pow_right (by omega) (by omega)
  have h5 := val_take_lt s (j + 1) (by omega)
  rw [val_step s j h] at h5
  have h6 : (128 : Nat) ^ 8 = 72057594037927936 := by decide
  have h7 : val (s.data.toList.take j) ||| digA s j = val (s.data.toList.take j) + digA s j := by rw [Nat.or_comm, h2, ← h3, Nat.add_comm]
  generalize val (s.data.toList.take j) = a at *
  generalize digA s j = b at *
  show IntKind.i64.wrap ((BitVec.ofInt 64 (a : Int) ||| BitVec.ofInt 64 (b : Int)).toNat : Int) = _
  rw [BitVec.toNat_or, ofInt_u64 a (by omega), ofInt_u64 b (by omega), h7, IntWalk.i64_in _ (by omega)]

/-- What is looked at last decides. -/
theorem take_last (s : ByteArray) :
    (lead s.data.toList < min s.size 8 ∧ cntA s = lead s.data.toList + 1 ∧ lastA s (cntA s) = (s.data.toList[lead s.data.toList]?.getD 0).toNat ∧ lastA s (cntA s) < 128) ∨
    (¬ lead s.data.toList < min s.size 8 ∧ cntA s = min s.size 8 ∧ 128 ≤ lastA s (cntA s)) := by
  by_cases h : lead s.data.toList < min s.size 8
  · have e : cntA s = lead s.data.toList + 1 := by unfold cntA; omega
    refine .inl ⟨h, e, ?_, ?_⟩
    · rw [e]; unfold lastA; rw [if_neg (by omega)]; rfl
    · rw [e]; unfold lastA; rw [if_neg (by omega)]; exact lead_at _ (by have : s.data.toList.length = s.size := by simp
                                                                        omega)
  · have e : cntA s = min s.size 8 := by unfold cntA; omega
    refine .inr ⟨h, e, ?_⟩
    rw [e]; unfold lastA
    split
    · omega
    · have := lead_ge s.data.toList (min s.size 8 - 1) (by omega)
      unfold byteA; omega

end Go.Proofs.Ytndkmepdnekigaa
