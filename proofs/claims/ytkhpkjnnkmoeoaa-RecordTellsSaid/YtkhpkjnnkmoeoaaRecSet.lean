/-
  The contracts of the functions that the map holds: each sets one cell of the record, and tells whether Data may be.
-/
import Derived.Test.YtkhpkjnnkmoeoaaRecMap
namespace Go.Proofs.Ytkhpkjnnkmoeoaa
open Go.RowKit

/-- A record's block. -/
def RcBlk (w : World) (b : Nat) (r : Rcd) (x : Value) : Prop := w.heap[b]? = some (.cells #[.string r.key, .string r.value, .int .i64 r.rev, .int .i64 r.life, .string r.note, x] 24 (0, 0))
theorem RcBlk.kept {w w' : World} {b : Nat} {r : Rcd} {x : Value} {row : Option Nat} (h : RcBlk w b r x) (hg : w.grownBy w' row) (hne : some b ≠ row) : RcBlk w' b r x := Eq.trans (hg.block b (lt_of_blk h) hne) h
theorem RcBlk.below {w w' : World} {b : Nat} {r : Rcd} {x : Value} (h : RcBlk w b r x) (hb : Below w.heap.size w w') : RcBlk w' b r x := Eq.trans (hb.block b (lt_of_blk h)) h
theorem RcBlk.alloc {w : World} {b : Nat} {r : Rcd} {x : Value} (h : RcBlk w b r x) (o : Obj) : RcBlk (w.alloc o) b r x := h.below ((Below.refl _ _).alloc (Nat.le_refl _) o)
theorem RcBlk.cells {w : World} {b : Nat} {r : Rcd} {x : Value} (h : RcBlk w b r x) : w.cell? ⟨b, 0, none⟩ = some (.string r.key) ∧ w.cell? ⟨b, 1, none⟩ = some (.string r.value) ∧ w.cell? ⟨b, 2, none⟩ = some (.int .i64 r.rev) ∧ w.cell? ⟨b, 3, none⟩ = some (.int .i64 r.life) ∧ w.cell? ⟨b, 4, none⟩ = some (.string r.note) ∧ w.cell? ⟨b, 5, none⟩ = some x :=
  ⟨cell_blk h 0, cell_blk h 1, cell_blk h 2, cell_blk h 3, cell_blk h 4, cell_blk h 5⟩
theorem RcBlk.frozen {w : World} {b : Nat} {r : Rcd} {x : Value} (h : RcBlk w b r x) (j : Nat) : w.frozen? ⟨b, j, none⟩ = false := frozen_blk h j
theorem grown_set {w w1 : World} {b j : Nat} {v : Value} (h : Below w.heap.size w w1) : w.grownBy (w1.setCell ⟨b, j, none⟩ v) (some b) :=
  ⟨h.os, h.tape, h.output, by simpa using h.size, fun i hi hne => (heap_setCell_other w1 ⟨b, j, none⟩ i v (fun e => hne (by rw [e]))).trans (h.block i hi)⟩
theorem okD_t1 (d : ByteArray) : okD 1 d = textB d 16 := by rw [Bool.eq_iff_iff, okD_1]; unfold textB; simp; omega
theorem okD_t2 (d : ByteArray) : okD 2 d = textB d 200 := by rw [Bool.eq_iff_iff, okD_2]; unfold textB; simp; omega
theorem okD_t5 (d : ByteArray) : okD 5 d = textB d 40 := by rw [Bool.eq_iff_iff, okD_5]; unfold textB; simp; omega
theorem okD_t3 (d : ByteArray) : okD 3 d = numOk d := by rw [Bool.eq_iff_iff, okD_3]; unfold numOk; simp
theorem okD_t4 (d : ByteArray) : okD 4 d = numOk d := by rw [Bool.eq_iff_iff, okD_4]; unfold numOk; simp
/-- What a setter leaves. -/
def SetPost (b : Nat) (r : Rcd) (x : Value) (t : Int) (d : ByteArray) (w : World) (e : Ending) (w' : World) : Prop :=
  e = .returned (.bool (okD t d)) ∧ (okD t d = true → RcBlk w' b (setR r t d) x) ∧ w.grownBy w' (some b)

set_option maxHeartbeats 1000000 in
theorem set1_any (b : Nat) (r : Rcd) (x : Value) (d : ByteArray) (w : World) (hd : d.size ≤ 9223372036854775807) (h : RcBlk w b r x) :
    Calls Try.prog 59 #[.pointer (some ⟨b, 0, none⟩), .string d] w (SetPost b r x 1 d w) := by
  have p1 := takeText_any b 0 d 16 w hd ⟨_, (h.cells).1⟩ (h.frozen 0)
  rw [← okD_t1] at p1
  have HB := Lib.hid h; clear h
  obtain ⟨q, hq⟩ : ∃ q, okD 1 d = q := ⟨_, rfl⟩
  rw [hq] at p1
  have HQ := Lib.hid hq; clear hq
  go_enter Try.func59, Try.ntmps59
  go_wp2_with fail
  ((with_reducible refine p1.mono ?_); rintro e w1 ⟨rfl, rfl⟩)
  go_wp2_with fail
  go_ret
  exact ⟨ret_bool HQ.out.symm, fun _ => heap_setCell_same w b 0 _ _ _ HB.out, grown_set (Below.refl _ _)⟩

set_option maxHeartbeats 1000000 in
theorem set2_any (b : Nat) (r : Rcd) (x : Value) (d : ByteArray) (w : World) (hd : d.size ≤ 9223372036854775807) (h : RcBlk w b r x) :
    Calls Try.prog 61 #[.pointer (some ⟨b, 0, none⟩), .string d] w (SetPost b r x 2 d w) := by
  have p1 := takeText_any b 1 d 200 w hd ⟨_, (h.cells).2.1⟩ (h.frozen 1)
  rw [← okD_t2] at p1
  have HB := Lib.hid h; clear h
  obtain ⟨q, hq⟩ : ∃ q, okD 2 d = q := ⟨_, rfl⟩
  rw [hq] at p1
  have HQ := Lib.hid hq; clear hq
  go_enter Try.func61, Try.ntmps61
  go_wp2_with fail
  ((with_reducible refine p1.mono ?_); rintro e w1 ⟨rfl, rfl⟩)
  go_wp2_with fail
  go_ret
  exact ⟨ret_bool HQ.out.symm, fun _ => heap_setCell_same w b 1 _ _ _ HB.out, grown_set (Below.refl _ _)⟩

set_option maxHeartbeats 1000000 in
theorem set5_any (b : Nat) (r : Rcd) (x : Value) (d : ByteArray) (w : World) (hd : d.size ≤ 9223372036854775807) (h : RcBlk w b r x) :
    Calls Try.prog 65 #[.pointer (some ⟨b, 0, none⟩), .string d] w (SetPost b r x 5 d w) := by
  have p1 := takeText_any b 4 d 40 w hd ⟨_, (h.cells).2.2.2.2.1⟩ (h.frozen 4)
  rw [← okD_t5] at p1
  have HB := Lib.hid h; clear h
  obtain ⟨q, hq⟩ : ∃ q, okD 5 d = q := ⟨_, rfl⟩
  rw [hq] at p1
  have HQ := Lib.hid hq; clear hq
  go_enter Try.func65, Try.ntmps65
  go_wp2_with fail
  ((with_reducible refine p1.mono ?_); rintro e w1 ⟨rfl, rfl⟩)
  go_wp2_with fail
  go_ret
  exact ⟨ret_bool HQ.out.symm, fun _ => heap_setCell_same w b 4 _ _ _ HB.out, grown_set (Below.refl _ _)⟩

set_option maxHeartbeats 1000000 in
theorem set3_any (b : Nat) (r : Rcd) (x : Value) (d : ByteArray) (w : World) (hd : d.size ≤ maxLen) (h : RcBlk w b r x) :
    Calls Try.prog 62 #[.pointer (some ⟨b, 0, none⟩), .string d] w (SetPost b r x 3 d w) := by
  have p1 := takeNumber_any b 2 d w hd ⟨_, (h.cells).2.2.1⟩ (h.frozen 2)
  rw [← okD_t3] at p1
  have HB := Lib.hid h; clear h
  obtain ⟨q, hq⟩ : ∃ q, okD 3 d = q := ⟨_, rfl⟩
  rw [hq] at p1
  have HQ := Lib.hid hq; clear hq
  go_enter Try.func62, Try.ntmps62
  go_wp2_with fail
  ((with_reducible refine p1.mono ?_); rintro e w1 ⟨rfl, n, w2, hn, b1, rfl⟩)
  have HN := Lib.hid hn; clear hn
  go_wp2_with fail
  go_ret
  refine ⟨ret_bool HQ.out.symm, fun hk => ?_, grown_set b1⟩
  have h2 : RcBlk w2 b r x := HB.out.below b1
  have h3 := HN.out (HQ.out ▸ hk)
  subst h3
  exact heap_setCell_same w2 b 2 _ _ _ h2

set_option maxHeartbeats 1000000 in
theorem set4_any (b : Nat) (r : Rcd) (x : Value) (d : ByteArray) (w : World) (hd : d.size ≤ maxLen) (h : RcBlk w b r x) :
    Calls Try.prog 64 #[.pointer (some ⟨b, 0, none⟩), .string d] w (SetPost b r x 4 d w) := by
  have p1 := takeNumber_any b 3 d w hd ⟨_, (h.cells).2.2.2.1⟩ (h.frozen 3)
  rw [← okD_t4] at p1
  have HB := Lib.hid h; clear h
  obtain ⟨q, hq⟩ : ∃ q, okD 4 d = q := ⟨_, rfl⟩
  rw [hq] at p1
  have HQ := Lib.hid hq; clear hq
  go_enter Try.func64, Try.ntmps64
  go_wp2_with fail
  ((with_reducible refine p1.mono ?_); rintro e w1 ⟨rfl, n, w2, hn, b1, rfl⟩)
  have HN := Lib.hid hn; clear hn
  go_wp2_with fail
  go_ret
  refine ⟨ret_bool HQ.out.symm, fun hk => ?_, grown_set b1⟩
  have h2 : RcBlk w2 b r x := HB.out.below b1
  have h3 := HN.out (HQ.out ▸ hk)
  subst h3
  exact heap_setCell_same w2 b 3 _ _ _ h2
end Go.Proofs.Ytkhpkjnnkmoeoaa
