/-
  The law's own first calls ('awake') of stage 3: they answer true, and nothing that was in memory changes.
-/
import Derived.Test.YtkhpkjnnkmoeoaaRecDecode
import Derived.Test.YtkhpkjnnkmoeoaaRecEncode
import Derived.Test.YtkhpkjnnkmoeoaaRecSame
namespace Go.Proofs.Ytkhpkjnnkmoeoaa
open Go.RowKit
set_option linter.unusedSimpArgs false
set_option linter.unusedVariables false

def rA : Rcd := ⟨⟨#[97]⟩, ⟨#[98]⟩, 1, 0, ⟨#[]⟩, []⟩
theorem rA_right : rightR 1 rA = true := by decide
theorem rA_not : rightR 3 rA = false := by decide
theorem rA_wf : RcWf rA := by refine ⟨?_, ?_, ?_⟩ <;> decide
theorem rA_enc : recE 1 rA = ([1, 1, 97, 2, 1, 98, 3, 1, 1], 0) := by
  have e0 : numD 1 = ⟨#[1]⟩ := by unfold numD; rw [if_neg (by decide), show (1 : Int).toNat = 1 from rfl, vb_small (by omega)]; rfl
  have e1 : fieldsR rA = [(1, ⟨#[97]⟩), (2, ⟨#[98]⟩), (3, ⟨#[1]⟩)] := by
    unfold fieldsR five rA
    rw [e0]; rfl
  have e2 : encL [(1, ⟨#[97]⟩), (2, ⟨#[98]⟩), (3, (⟨#[1]⟩ : ByteArray))] = [1, 1, 97, 2, 1, 98, 3, 1, 1] := by
    show (vb 1 ++ (vb 1 ++ [97])) ++ ((vb 2 ++ (vb 1 ++ [98])) ++ ((vb 3 ++ (vb 1 ++ [1])) ++ [])) = _
    rw [vb_small (n := 1) (by omega), vb_small (n := 2) (by omega), vb_small (n := 3) (by omega)]; rfl
  have e3 := (rec_back (v := 1) (r := rA) rA_right (by rw [e1, e2]; decide)).1
  rw [e1, e2] at e3
  exact e3
def xA : Rcd := ⟨⟨#[97]⟩, ⟨#[98]⟩, 1, 0, ⟨#[]⟩, [(4, ⟨#[7]⟩)]⟩
def yA : Rcd := ⟨⟨#[97]⟩, ⟨#[98]⟩, 1, 7, ⟨#[]⟩, []⟩
theorem dA1 : recD 1 [1, 1, 97, 2, 1, 98, 3, 1, 1, 4, 1, 7] = (xA, 0) := by rfl
theorem dA2 : recD 2 [1, 1, 97, 2, 1, 98, 3, 1, 1, 4, 1, 7] = (yA, 0) := by rfl
theorem dA3 : recD 2 [1, 1, 97, 2, 1, 98, 3, 1, 1, 4, 1, 0] = (zeroR, 21) := by rfl
theorem dA4 : recD 1 [2, 1, 98] = (zeroR, 20) := by rfl
theorem sA1 : sameR rA xA = false := sameR_no (fun h => by have h2 := congrArg (fun r => r.extra.length) h; simp [rA, xA] at h2)
theorem sA2 : sameR rA rA = true := sameR_self _
theorem str_lit {a b c : ByteArray} (h : a ++ b = c) (hs : a.size + b.size ≤ 9223372036854775807) (W : World) : (Op.stringOp .add a b).run Try.prog W = .ok (.string c) W := by rw [← h]; exact str_add hs W
/-- What Decode leaves, written out. -/
def RecLit (k v : ByteArray) (r l : Int) (nt : ByteArray) (ex : List Fld) (err : Int) (w : World) (e : Ending) (w' : World) : Prop :=
  ∃ A n cap, e = .returned (.tuple #[.agg #[.string k, .string v, .int .i64 r, .int .i64 l, .string nt, .slice A n cap], .int .i64 err]) ∧ IsFs w' A n ex ∧ Below w.heap.size w w'
theorem recLit_of {v : Int} {l : List UInt8} {r : Rcd} {x : Nat} (h : recD v l = (r, x)) (hl : l.length ≤ 1000) (w : World) : Calls Try.prog 18 #[.int .i64 v, .string ⟨l.toArray⟩] w (RecLit r.key r.value r.rev r.life r.note r.extra x w) := by
  have h2 := rDecode_any v ⟨l.toArray⟩ (by show l.toArray.size ≤ _; simp; omega) w
  rw [show (⟨l.toArray⟩ : ByteArray).data.toList = l from by simp, h] at h2
  refine h2.mono ?_
  rintro e w' ⟨A, n, cap, rfl, h3, h4, _, h5⟩
  exact ⟨A, n, cap, rfl, h4, h5⟩
theorem decA1 (w : World) : Calls Try.prog 18 #[.int .i64 1, .string ⟨#[1, 1, 97, 2, 1, 98, 3, 1, 1, 4, 1, 7]⟩] w (RecLit ⟨#[97]⟩ ⟨#[98]⟩ 1 0 ⟨#[]⟩ [(4, ⟨#[7]⟩)] 0 w) := recLit_of dA1 (by decide) w
theorem decA2 (w : World) : Calls Try.prog 18 #[.int .i64 2, .string ⟨#[1, 1, 97, 2, 1, 98, 3, 1, 1, 4, 1, 7]⟩] w (RecLit ⟨#[97]⟩ ⟨#[98]⟩ 1 7 ⟨#[]⟩ [] 0 w) := recLit_of dA2 (by decide) w
theorem decA3 (w : World) : Calls Try.prog 18 #[.int .i64 2, .string ⟨#[1, 1, 97, 2, 1, 98, 3, 1, 1, 4, 1, 0]⟩] w (RecLit ⟨#[]⟩ ⟨#[]⟩ 0 0 ⟨#[]⟩ [] 21 w) := recLit_of dA3 (by decide) w
theorem decA4 (w : World) : Calls Try.prog 18 #[.int .i64 1, .string ⟨#[2, 1, 98]⟩] w (RecLit ⟨#[]⟩ ⟨#[]⟩ 0 0 ⟨#[]⟩ [] 20 w) := recLit_of dA4 (by decide) w

set_option maxRecDepth 100000 in
set_option maxHeartbeats 4000000 in
theorem awake3_any (w : World) : Calls Try.prog 9 #[] w fun e w' => e = .returned (.bool true) ∧ Below w.heap.size w w' := by
  have hR : RcBlk (w.alloc (.cells #[.string ⟨#[97]⟩, .string ⟨#[98]⟩, .int .i64 1, .int .i64 0, .string ⟨#[]⟩, .slice none 0 0] 24)) w.heap.size rA (.slice none 0 0) := World.alloc_heap_new w _
  have b0 : Below w.heap.size w (w.alloc (.cells #[.string ⟨#[97]⟩, .string ⟨#[98]⟩, .int .i64 1, .int .i64 0, .string ⟨#[]⟩, .slice none 0 0] 24)) := (Below.refl _ _).alloc (Nat.le_refl _) _
  have p1 : ∀ W, Calls Try.prog 12 #[.int .i64 1, .agg #[.string ⟨#[97]⟩, .string ⟨#[98]⟩, .int .i64 1, .int .i64 0, .string ⟨#[]⟩, .slice none 0 0]] W fun e w' => e = .returned (.tuple #[.string ⟨#[1, 1, 97, 2, 1, 98, 3, 1, 1]⟩, .int .i64 0]) ∧ Below W.heap.size W w' := fun W => by
    have h := rEncode_any 1 rA none 0 0 W rA_wf (isFs_nil _ _)
    rw [rA_enc] at h
    exact h
  have q1 : ∀ W, Calls Try.prog 16 #[.agg #[.string ⟨#[97]⟩, .string ⟨#[98]⟩, .int .i64 1, .int .i64 0, .string ⟨#[]⟩, .slice none 0 0], .agg #[.string ⟨#[97]⟩, .string ⟨#[98]⟩, .int .i64 1, .int .i64 0, .string ⟨#[]⟩, .slice none 0 0]] W fun e w' => e = .returned (.bool true) ∧ Below W.heap.size W w' := fun W => by
    have h := rSame_any rA rA none none 0 0 0 0 W (isFs_nil _ _) (isFs_nil _ _)
    rw [sA2] at h
    exact h
  have q2 : ∀ W A n cap, IsFs W A n [(4, ⟨#[7]⟩)] → Calls Try.prog 16 #[.agg #[.string ⟨#[97]⟩, .string ⟨#[98]⟩, .int .i64 1, .int .i64 0, .string ⟨#[]⟩, .slice none 0 0], .agg #[.string ⟨#[97]⟩, .string ⟨#[98]⟩, .int .i64 1, .int .i64 0, .string ⟨#[]⟩, .slice A n cap]] W fun e w' => e = .returned (.bool false) ∧ Below W.heap.size W w' := fun W A n cap hf => by
    have h := rSame_any rA xA none A 0 n 0 cap W (isFs_nil _ _) hf
    rw [sA1] at h
    exact h
  have q3 : ∀ W, Calls Try.prog 14 #[.int .i64 1, .agg #[.string ⟨#[97]⟩, .string ⟨#[98]⟩, .int .i64 1, .int .i64 0, .string ⟨#[]⟩, .slice none 0 0]] W fun e w' => e = .returned (.bool true) ∧ Below W.heap.size W w' := fun W => by
    have h := rRight_any 1 rA none 0 0 W rA_wf (isFs_nil _ _)
    rw [rA_right] at h
    exact h
  have q4 : ∀ W, Calls Try.prog 14 #[.int .i64 3, .agg #[.string ⟨#[97]⟩, .string ⟨#[98]⟩, .int .i64 1, .int .i64 0, .string ⟨#[]⟩, .slice none 0 0]] W fun e w' => e = .returned (.bool false) ∧ Below W.heap.size W w' := fun W => by
    have h := rRight_any 3 rA none 0 0 W rA_wf (isFs_nil _ _)
    rw [rA_not] at h
    exact h
  have a1 := str_lit (a := ⟨#[1, 1, 97, 2, 1, 98, 3, 1, 1]⟩) (b := ⟨#[4, 1, 7]⟩) (c := ⟨#[1, 1, 97, 2, 1, 98, 3, 1, 1, 4, 1, 7]⟩) rfl (by decide)
  have a2 := str_lit (a := ⟨#[1, 1, 97, 2, 1, 98, 3, 1, 1]⟩) (b := ⟨#[4, 1, 0]⟩) (c := ⟨#[1, 1, 97, 2, 1, 98, 3, 1, 1, 4, 1, 0]⟩) rfl (by decide)
  have Q2 := Lib.hid q2; clear q2
  go_enter Try.func9, Try.ntmps9
  go_wp2_with fail
  ((with_reducible refine (p1 _).mono ?_); rintro e w1 ⟨rfl, b1⟩)
  have hR1 := hR.below b1
  have b01 := bch b0 b1
  clear hR b0 b1 p1
  go_wp2_with fail
  ((with_reducible refine (decA1 _).mono ?_); rintro e w2 ⟨A2, n2, cap2, rfl, hf2, b2⟩)
  have hR2 := (hR1.below b2).alloc (.cells #[.string ⟨#[97]⟩, .string ⟨#[98]⟩, .int .i64 1, .int .i64 0, .string ⟨#[]⟩, .slice A2 n2 cap2] 24)
  have hX2 : RcBlk (w2.alloc (.cells #[.string ⟨#[97]⟩, .string ⟨#[98]⟩, .int .i64 1, .int .i64 0, .string ⟨#[]⟩, .slice A2 n2 cap2] 24)) w2.heap.size xA (.slice A2 n2 cap2) := World.alloc_heap_new w2 _
  have hF2 := hf2.below ((Below.refl _ w2).alloc (Nat.le_refl _) (.cells #[.string ⟨#[97]⟩, .string ⟨#[98]⟩, .int .i64 1, .int .i64 0, .string ⟨#[]⟩, .slice A2 n2 cap2] 24))
  have b02 := (bch b01 b2).alloc (bch b01 b2).size (.cells #[.string ⟨#[97]⟩, .string ⟨#[98]⟩, .int .i64 1, .int .i64 0, .string ⟨#[]⟩, .slice A2 n2 cap2] 24)
  have hn2 : n2 = 1 := hf2.1
  subst hn2
  clear hf2 hR1 b01 b2
  go_wp2_with fail
  ((with_reducible refine (decA2 _).mono ?_); rintro e w3 ⟨A3, n3, cap3, rfl, hf3, b3⟩)
  have hn3 : n3 = 0 := hf3.1
  subst hn3
  have hR3 := (hR2.below b3).alloc (.cells #[.string ⟨#[97]⟩, .string ⟨#[98]⟩, .int .i64 1, .int .i64 7, .string ⟨#[]⟩, .slice A3 0 cap3] 24)
  have hX3 := (hX2.below b3).alloc (.cells #[.string ⟨#[97]⟩, .string ⟨#[98]⟩, .int .i64 1, .int .i64 7, .string ⟨#[]⟩, .slice A3 0 cap3] 24)
  have hY3 : RcBlk (w3.alloc (.cells #[.string ⟨#[97]⟩, .string ⟨#[98]⟩, .int .i64 1, .int .i64 7, .string ⟨#[]⟩, .slice A3 0 cap3] 24)) w3.heap.size yA (.slice A3 0 cap3) := World.alloc_heap_new w3 _
  have hF3 := (hF2.below b3).below ((Below.refl _ w3).alloc (Nat.le_refl _) (.cells #[.string ⟨#[97]⟩, .string ⟨#[98]⟩, .int .i64 1, .int .i64 7, .string ⟨#[]⟩, .slice A3 0 cap3] 24))
  have b03 := (bch b02 b3).alloc (bch b02 b3).size (.cells #[.string ⟨#[97]⟩, .string ⟨#[98]⟩, .int .i64 1, .int .i64 7, .string ⟨#[]⟩, .slice A3 0 cap3] 24)
  clear hf3 hR2 hX2 hF2 b02 b3
  go_wp2_with fail
  ((with_reducible refine (decA3 _).mono ?_); rintro e w4 ⟨A4, n4, cap4, rfl, hf4, b4⟩)
  have hR4 := (hR3.below b4).alloc (.cells #[.string ⟨#[]⟩, .string ⟨#[]⟩, .int .i64 0, .int .i64 0, .string ⟨#[]⟩, .slice A4 n4 cap4] 24)
  have hX4 := (hX3.below b4).alloc (.cells #[.string ⟨#[]⟩, .string ⟨#[]⟩, .int .i64 0, .int .i64 0, .string ⟨#[]⟩, .slice A4 n4 cap4] 24)
  have hY4 := (hY3.below b4).alloc (.cells #[.string ⟨#[]⟩, .string ⟨#[]⟩, .int .i64 0, .int .i64 0, .string ⟨#[]⟩, .slice A4 n4 cap4] 24)
  have hF4 := (hF3.below b4).below ((Below.refl _ w4).alloc (Nat.le_refl _) (.cells #[.string ⟨#[]⟩, .string ⟨#[]⟩, .int .i64 0, .int .i64 0, .string ⟨#[]⟩, .slice A4 n4 cap4] 24))
  have b04 := (bch b03 b4).alloc (bch b03 b4).size (.cells #[.string ⟨#[]⟩, .string ⟨#[]⟩, .int .i64 0, .int .i64 0, .string ⟨#[]⟩, .slice A4 n4 cap4] 24)
  clear hf4 hR3 hX3 hY3 hF3 b03 b4
  go_wp2_with fail
  ((with_reducible refine (decA4 _).mono ?_); rintro e w5 ⟨A5, n5, cap5, rfl, hf5, b5⟩)
  have hR5 := hR4.below b5
  have hX5 := hX4.below b5
  have hY5 := hY4.below b5
  have hF5 := hF4.below b5
  have b05 := (bch b04 b5).alloc (bch b04 b5).size (.cells #[.string ⟨#[]⟩, .string ⟨#[]⟩, .int .i64 0, .int .i64 0, .string ⟨#[]⟩, .slice A5 n5 cap5] 24)
  clear hf5 hR4 hX4 hY4 hF4 b04 b5
  obtain ⟨b, off, hA, hb, hat⟩ := hF5.2.2.2 (by omega)
  subst hA
  have cx : w5.cell? ⟨b, off + 1, none⟩ = some (.string ⟨#[7]⟩) := (hat 0 (by decide)).2
  have hRz := lt_of_blk hR5
  have hXz := lt_of_blk hX5
  have hYz := lt_of_blk hY5
  obtain ⟨r0, r1, r2, r3, r4, r5⟩ := hR5.cells
  obtain ⟨x0, x1, x2, x3, x4, x5⟩ := hX5.cells
  obtain ⟨y0, y1, y2, y3, y4, y5⟩ := hY5.cells
  simp only [rA, xA, yA] at r0 r1 r2 r3 r4 x0 x1 x2 x3 x4 y0 y1 y2 y3 y4
  have HR5 := Lib.hid hR5
  have HX5 := Lib.hid hX5
  have HF5 := Lib.hid hF5
  clear hR5 hX5 hY5 hF5 hat
  go_wp2_with fail
  have hR6 := HR5.out.alloc (.cells #[.string ⟨#[]⟩, .string ⟨#[]⟩, .int .i64 0, .int .i64 0, .string ⟨#[]⟩, .slice A5 n5 cap5] 24)
  have hX6 := HX5.out.alloc (.cells #[.string ⟨#[]⟩, .string ⟨#[]⟩, .int .i64 0, .int .i64 0, .string ⟨#[]⟩, .slice A5 n5 cap5] 24)
  have hF6 := HF5.out.below ((Below.refl _ w5).alloc (Nat.le_refl _) (.cells #[.string ⟨#[]⟩, .string ⟨#[]⟩, .int .i64 0, .int .i64 0, .string ⟨#[]⟩, .slice A5 n5 cap5] 24))
  clear r0 r1 r2 r3 r4 r5 x0 x1 x2 x3 x4 x5 y0 y1 y2 y3 y4 y5 cx hXz hYz hRz HR5 HX5 HF5
  ((with_reducible refine (q1 _).mono ?_); rintro e w7 ⟨rfl, b7⟩)
  have hR7 := hR6.below b7
  have hX7 := hX6.below b7
  have hF7 := hF6.below b7
  have b07 := bch b05 b7
  clear hR6 hX6 hF6 b05 b7
  obtain ⟨r0, r1, r2, r3, r4, r5⟩ := hR7.cells
  obtain ⟨x0, x1, x2, x3, x4, x5⟩ := hX7.cells
  simp only [rA, xA] at r0 r1 r2 r3 r4 x0 x1 x2 x3 x4
  have HR7 := Lib.hid hR7
  have HX7 := Lib.hid hX7
  have HF7 := Lib.hid hF7
  clear hR7 hX7 hF7
  go_wp2_with fail
  ((with_reducible refine (Q2.out _ _ _ _ HF7.out).mono ?_); rintro e w8 ⟨rfl, b8⟩)
  clear r0 r1 r2 r3 r4 r5 x0 x1 x2 x3 x4 x5
  have hR8 := HR7.out.below b8
  have b08 := bch b07 b8
  obtain ⟨r0, r1, r2, r3, r4, r5⟩ := hR8.cells
  simp only [rA] at r0 r1 r2 r3 r4
  have HR8 := Lib.hid hR8
  clear hR8 b07 b8
  go_wp2_with fail
  ((with_reducible refine (q3 _).mono ?_); rintro e w9 ⟨rfl, b9⟩)
  clear r0 r1 r2 r3 r4 r5
  have hR9 := HR8.out.below b9
  have b09 := bch b08 b9
  obtain ⟨r0, r1, r2, r3, r4, r5⟩ := hR9.cells
  simp only [rA] at r0 r1 r2 r3 r4
  clear hR9 b08 b9
  go_wp2_with fail
  ((with_reducible refine (q4 _).mono ?_); rintro e w10 ⟨rfl, b10⟩)
  go_wp2_with fail
  go_ret
  exact ⟨rfl, bch b09 b10⟩
end Go.Proofs.Ytkhpkjnnkmoeoaa
