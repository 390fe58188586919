/-
  The walk of the law RecordBack.
-/
import Derived.Test.YtkhpkjnnkmoeoaaRecMade
import Derived.Test.YtkhpkjnnkmoeoaaRecAwake
import Derived.Test.YtkhpkjnnkmoeoaaRecRefSame
namespace Go.Proofs.Ytkhpkjnnkmoeoaa
open Go.RowKit
set_option linter.unusedVariables false

theorem rcBlk_new (w : World) (r : Rcd) (x : Value) : RcBlk (w.alloc (.cells #[.string r.key, .string r.value, .int .i64 r.rev, .int .i64 r.life, .string r.note, x] 24)) w.heap.size r x := World.alloc_heap_new w _
set_option maxRecDepth 100000 in
set_option maxHeartbeats 8000000 in
theorem recordBack_walk (x0 x1 x2 x3 x4 : Int) (A : Option Addr) (n cap : Nat) (f : Nat → Nat → Int) (B : Option Addr) (m cap2 : Nat) (g : Nat → ByteArray) (w : World) (h0 : (Lit.int .i64 x0).wf = true) (h1 : (Lit.int .i64 x1).wf = true) (h2 : (Lit.int .i64 x2).wf = true) (h3 : (Lit.int .i64 x3).wf = true) (h4 : (Lit.int .i64 x4).wf = true) (hra : IsRaw w A n 2 f) (hst : IsStrs w B m g) :
    Calls Try.prog 4 #[.agg #[.int .i64 x0, .int .i64 x1, .int .i64 x2, .int .i64 x3, .int .i64 x4], .slice A n cap, .slice B m cap2] w fun e w' => e = .returned (.bool true) ∧ Below w.heap.size w w' := by
  have hb0 : Below w.heap.size w (w.alloc (.cells #[.int .i64 x0, .int .i64 x1, .int .i64 x2, .int .i64 x3, .int .i64 x4] 25)) := (Below.refl _ _).alloc (Nat.le_refl _) _
  have harr : Arr5 (w.alloc (.cells #[.int .i64 x0, .int .i64 x1, .int .i64 x2, .int .i64 x3, .int .i64 x4] 25)) w.heap.size x0 x1 x2 x3 x4 := World.alloc_heap_new w _
  go_enter Try.func4, Try.ntmps4
  go_wp2_with fail
  ((with_reducible refine (awake3_any _).mono ?_); rintro e w1 ⟨rfl, b1⟩)
  have ha1 := harr.below b1
  have hb1 := bch hb0 b1
  clear harr hb0 b1
  go_wp2_with fail
  go_loopw [8] (fun i wr => ∃ j : Nat, 1 ≤ j ∧ j ≤ 3 ∧ i = .int .i64 j ∧ Arr5 wr w.heap.size x0 x1 x2 x3 x4 ∧ Below w.heap.size w wr) (fun i _ => 3 - (intOf i).toNat)
  case atStart => exact ⟨1, by omega, by omega, rfl, ha1, hb1⟩
  case round =>
    clear ha1 hb1
    obtain ⟨j, hj1, hj3, rfl, harr, hbw⟩ := hrel
    by_cases hlt : j ≤ 2
    · have hv : (j : Int) = 1 ∨ (j : Int) = 2 := by omega
      have p1 := record_any (j : Int) hv x0 x1 x2 x3 x4 h0 h1 h2 h3 h4 A n cap f B m cap2 g wr (hra.below hbw) (hst.below hbw)
      obtain ⟨c0, c1, c2, c3, c4⟩ := harr.cells
      have HA := Lib.hid harr
      clear harr hv
      go_wp2_with fail
      ((with_reducible refine p1.mono ?_); rintro e w2 ⟨A1, n1, cap1, r, rfl, hc1, hf1, hN, b2⟩)
      clear p1 c0 c1 c2 c3 c4
      have hA2 := (HA.out.below b2).alloc (.cells #[.string r.key, .string r.value, .int .i64 r.rev, .int .i64 r.life, .string r.note, .slice A1 n1 cap1] 24)
      have hr2 := rcBlk_new w2 r (.slice A1 n1 cap1)
      have bb2 : Below w2.heap.size w2 (w2.alloc (.cells #[.string r.key, .string r.value, .int .i64 r.rev, .int .i64 r.life, .string r.note, .slice A1 n1 cap1] 24)) := (Below.refl _ _).alloc (Nat.le_refl _) _
      have hf2 := hf1.below bb2
      have hb2 := bch (bch hbw b2) bb2
      have p2 := rEncode_any (j : Int) r A1 n1 cap1 _ hN.wf hf2
      rw [hN.recE] at p2
      have p3 := rDecode_any (j : Int) (bs (encL (fieldsR r))) (by rw [bs_size]; have := hN.enc; omega)
      rw [bs_data, hN.recD] at p3
      have hwr := hN.wf
      have hrr := hN.right
      have HWR := Lib.hid hwr
      have HRR := Lib.hid hrr
      clear hf1 bb2 b2 hbw HA hN hwr hrr
      generalize bs (encL (fieldsR r)) = S at p2 p3
      obtain ⟨y0, y1, y2, y3, y4, y5⟩ := hr2.cells
      have HR2 := Lib.hid hr2
      have HA2 := Lib.hid hA2
      have HF2 := Lib.hid hf2
      clear hr2 hA2 hf2
      go_wp2_with fail
      ((with_reducible refine p2.mono ?_); rintro e w3 ⟨rfl, b3⟩)
      clear y0 y1 y2 y3 y4 y5 p2
      go_wp2_with fail
      ((with_reducible refine (p3 _).mono ?_); rintro e w4 ⟨A4, n4, cap4, rfl, hc4, hf4, hnew4, b4⟩)
      have hf4' : IsFs w4 A4 n4 r.extra := hf4
      have bb4 : Below w4.heap.size w4 (w4.alloc (.cells #[.string r.key, .string r.value, .int .i64 r.rev, .int .i64 r.life, .string r.note, .slice A4 n4 cap4] 24)) := (Below.refl _ _).alloc (Nat.le_refl _) _
      have hr4 := ((HR2.out.below b3).below b4).below bb4
      have hA4 := ((HA2.out.below b3).below b4).below bb4
      have hF4 := ((HF2.out.below b3).below b4).below bb4
      have hx4 := rcBlk_new w4 r (.slice A4 n4 cap4)
      have hf5 := hf4'.below bb4
      have hb4 := bch (bch (bch hb2 b3) b4) bb4
      have p4 := refSame_any r r A1 A4 n1 n4 cap1 cap4 _ hF4 hf5
      rw [sameR_self] at p4
      obtain ⟨y0, y1, y2, y3, y4, y5⟩ := hr4.cells
      obtain ⟨z0, z1, z2, z3, z4, z5⟩ := hx4.cells
      have hlt4 := lt_of_blk hr4
      have HR4 := Lib.hid hr4
      have HA4 := Lib.hid hA4
      have HF4 := Lib.hid hF4
      clear p3 hf4 hf4' bb4 hb2 b3 b4 hr4 hA4 hF4 hx4 hf5 HR2 HA2 HF2
      go_wp2_with fail
      ((with_reducible refine p4.mono ?_); rintro e w5 ⟨rfl, b5⟩)
      clear y0 y1 y2 y3 y4 y5 z0 z1 z2 z3 z4 z5 p4
      have hr5 := HR4.out.below b5
      have p5 := rRight_any (j : Int) r A1 n1 cap1 w5 HWR.out (HF4.out.below b5)
      rw [HRR.out] at p5
      obtain ⟨y0, y1, y2, y3, y4, y5⟩ := hr5.cells
      clear hr5
      go_wp2_with fail
      ((with_reducible refine p5.mono ?_); rintro e w6 ⟨rfl, b6⟩)
      go_wp2_with fail
      go_roundw
      case rel => exact ⟨j + 1, by omega, by omega, by go_num, (HA4.out.below b5).below b6, bch (bch hb4 b5) b6⟩
      case measure => simp [intOf]; omega
    · go_wp2_with fail
      go_ret
      exact ⟨rfl, hbw⟩
end Go.Proofs.Ytkhpkjnnkmoeoaa
