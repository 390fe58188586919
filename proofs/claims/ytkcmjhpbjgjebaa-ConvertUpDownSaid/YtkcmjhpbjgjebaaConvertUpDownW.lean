import Derived.Test.YtkcmjhpbjgjebaaConLaw
/-
  The walk of the law ConvertUpDown.
-/
namespace Go.Proofs.Ytkcmjhpbjgjebaa
open Go.RowKit
set_option linter.unusedVariables false
set_option linter.unusedSimpArgs false

set_option maxRecDepth 100000 in
set_option maxHeartbeats 8000000 in
theorem convertUpDown_walk (x0 x1 x2 x3 x4 : Int) (A : Option Addr) (n cap : Nat) (f : Nat → Nat → Int) (B : Option Addr) (m cap2 : Nat) (g : Nat → ByteArray) (rc : Rcd) (Aa : Option Addr) (na capa : Nat) (w : World) (h0 : (Lit.int .i64 x0).wf = true) (h1 : (Lit.int .i64 x1).wf = true) (h2 : (Lit.int .i64 x2).wf = true) (h3 : (Lit.int .i64 x3).wf = true) (h4 : (Lit.int .i64 x4).wf = true) (hra : IsRaw w A n 2 f) (hst : IsStrs w B m g) (hfa : IsFs w Aa na rc.extra) (hla : na ≤ capa) (hwa : RcWf rc) :
    Calls Try.prog 5 #[.agg #[.int .i64 x0, .int .i64 x1, .int .i64 x2, .int .i64 x3, .int .i64 x4], .slice A n cap, .slice B m cap2, rcV rc (.slice Aa na capa)] w fun e w' => e = .returned (.bool true) ∧ Below w.heap.size w w' := by
  have hb : Below w.heap.size w ((w.alloc (.cells #[.int .i64 x0, .int .i64 x1, .int .i64 x2, .int .i64 x3, .int .i64 x4] 25)).alloc (.cells #[.string rc.key, .string rc.value, .int .i64 rc.rev, .int .i64 rc.life, .string rc.note, .slice Aa na capa] 24)) := ((Below.refl _ _).alloc (Nat.le_refl _) _).alloc (by simp) _
  have harr : Arr5 ((w.alloc (.cells #[.int .i64 x0, .int .i64 x1, .int .i64 x2, .int .i64 x3, .int .i64 x4] 25)).alloc (.cells #[.string rc.key, .string rc.value, .int .i64 rc.rev, .int .i64 rc.life, .string rc.note, .slice Aa na capa] 24)) w.heap.size x0 x1 x2 x3 x4 := Arr5.alloc (show Arr5 (w.alloc (.cells #[.int .i64 x0, .int .i64 x1, .int .i64 x2, .int .i64 x3, .int .i64 x4] 25)) w.heap.size x0 x1 x2 x3 x4 from World.alloc_heap_new w _) _
  have hra0 : RcBlk ((w.alloc (.cells #[.int .i64 x0, .int .i64 x1, .int .i64 x2, .int .i64 x3, .int .i64 x4] 25)).alloc (.cells #[.string rc.key, .string rc.value, .int .i64 rc.rev, .int .i64 rc.life, .string rc.note, .slice Aa na capa] 24)) (w.heap.size + 1) rc (.slice Aa na capa) := by
    have hx := World.alloc_heap_new (w.alloc (.cells #[.int .i64 x0, .int .i64 x1, .int .i64 x2, .int .i64 x3, .int .i64 x4] 25)) (.cells #[.string rc.key, .string rc.value, .int .i64 rc.rev, .int .i64 rc.life, .string rc.note, .slice Aa na capa] 24)
    rw [show (w.alloc (.cells #[.int .i64 x0, .int .i64 x1, .int .i64 x2, .int .i64 x3, .int .i64 x4] 25)).heap.size = w.heap.size + 1 from by simp] at hx
    exact hx
  go_enter Try.func5, Try.ntmps5
  go_wp2_with fail
  ((with_reducible refine (awake4_any _).mono ?_); rintro e w1 ⟨rfl, b1⟩)
  replace harr := harr.below b1
  replace hra0 := hra0.below b1
  replace hb := bch hb b1
  clear b1
  go_upto_region 2 with fail
  have HS : Hid (∀ W, W = w1.drew → (W.cell? ⟨w.heap.size, 0, none⟩ = some (.int .i64 x0) ∧ W.cell? ⟨w.heap.size, 1, none⟩ = some (.int .i64 x1) ∧ W.cell? ⟨w.heap.size, 2, none⟩ = some (.int .i64 x2) ∧ W.cell? ⟨w.heap.size, 3, none⟩ = some (.int .i64 x3) ∧ W.cell? ⟨w.heap.size, 4, none⟩ = some (.int .i64 x4) ∧ W.cell? ⟨(w.heap.size + 1), 0, none⟩ = some (.string rc.key) ∧ W.cell? ⟨(w.heap.size + 1), 1, none⟩ = some (.string rc.value) ∧ W.cell? ⟨(w.heap.size + 1), 2, none⟩ = some (.int .i64 rc.rev) ∧ W.cell? ⟨(w.heap.size + 1), 3, none⟩ = some (.int .i64 rc.life) ∧ W.cell? ⟨(w.heap.size + 1), 4, none⟩ = some (.string rc.note) ∧ W.cell? ⟨(w.heap.size + 1), 5, none⟩ = some ((.slice Aa na capa)) ∧ Below w.heap.size w W)) := by
    rintro W rfl
    obtain ⟨a0, a1, a2, a3, a4⟩ := harr.cells
    obtain ⟨c0, c1, c2, c3, c4, c5⟩ := hra0.cells
    exact ⟨a0, a1, a2, a3, a4, c0, c1, c2, c3, c4, c5, hb.drew⟩
  have PR : Hid (∀ W, (W.cell? ⟨w.heap.size, 0, none⟩ = some (.int .i64 x0) ∧ W.cell? ⟨w.heap.size, 1, none⟩ = some (.int .i64 x1) ∧ W.cell? ⟨w.heap.size, 2, none⟩ = some (.int .i64 x2) ∧ W.cell? ⟨w.heap.size, 3, none⟩ = some (.int .i64 x3) ∧ W.cell? ⟨w.heap.size, 4, none⟩ = some (.int .i64 x4) ∧ W.cell? ⟨(w.heap.size + 1), 0, none⟩ = some (.string rc.key) ∧ W.cell? ⟨(w.heap.size + 1), 1, none⟩ = some (.string rc.value) ∧ W.cell? ⟨(w.heap.size + 1), 2, none⟩ = some (.int .i64 rc.rev) ∧ W.cell? ⟨(w.heap.size + 1), 3, none⟩ = some (.int .i64 rc.life) ∧ W.cell? ⟨(w.heap.size + 1), 4, none⟩ = some (.string rc.note) ∧ W.cell? ⟨(w.heap.size + 1), 5, none⟩ = some ((.slice Aa na capa)) ∧ Below w.heap.size w W) → Calls Try.prog 9 #[.int .i64 1, .agg #[.int .i64 x0, .int .i64 x1, .int .i64 x2, .int .i64 x3, .int .i64 x4], .slice A n cap, .slice B m cap2] W (RecMade 1 W)) := fun W h => record_any 1 (by decide) x0 x1 x2 x3 x4 h0 h1 h2 h3 h4 A n cap f B m cap2 g W (hra.below h.2.2.2.2.2.2.2.2.2.2.2) (hst.below h.2.2.2.2.2.2.2.2.2.2.2)
  clear harr hra0 hb
  go_region_held3 (fun W => W.cell? ⟨w.heap.size, 0, none⟩ = some (.int .i64 x0) ∧ W.cell? ⟨w.heap.size, 1, none⟩ = some (.int .i64 x1) ∧ W.cell? ⟨w.heap.size, 2, none⟩ = some (.int .i64 x2) ∧ W.cell? ⟨w.heap.size, 3, none⟩ = some (.int .i64 x3) ∧ W.cell? ⟨w.heap.size, 4, none⟩ = some (.int .i64 x4) ∧ W.cell? ⟨(w.heap.size + 1), 0, none⟩ = some (.string rc.key) ∧ W.cell? ⟨(w.heap.size + 1), 1, none⟩ = some (.string rc.value) ∧ W.cell? ⟨(w.heap.size + 1), 2, none⟩ = some (.int .i64 rc.rev) ∧ W.cell? ⟨(w.heap.size + 1), 3, none⟩ = some (.int .i64 rc.life) ∧ W.cell? ⟨(w.heap.size + 1), 4, none⟩ = some (.string rc.note) ∧ W.cell? ⟨(w.heap.size + 1), 5, none⟩ = some ((.slice Aa na capa)) ∧ Below w.heap.size w W) (first | exact HS.out _ rfl | exact ac_keep (by assumption) (by assumption) | exact ac_keep (by assumption) ((Below.refl _ _).alloc (Nat.le_refl _) _)) (first | ((with_reducible refine (PR.out _ (by assumption)).mono ?_); rintro e w2 ⟨A1, n1, cap1, r, rfl, hc1, hf1, hN, bq⟩))
  have hbw2 : Below w.heap.size w w2 := bch (HS.out _ rfl).2.2.2.2.2.2.2.2.2.2.2 bq
  have hrow := rowC2_mk w2 r A1 n1 cap1 rc Aa na capa hN.wf hc1 hf1 hwa hla (hfa.below hbw2)
  have bb2 := (Below.refl w2.heap.size w2).alloc (Nat.le_refl _) (.cells #[.string r.key, .string r.value, .int .i64 r.rev, .int .i64 r.life, .string r.note, .slice A1 n1 cap1, .string rc.key, .string rc.value, .int .i64 rc.rev, .int .i64 rc.life, .string rc.note, .slice Aa na capa] 24)
  obtain ⟨Wr, hWr⟩ : ∃ W, w2.alloc (.cells #[.string r.key, .string r.value, .int .i64 r.rev, .int .i64 r.life, .string r.note, .slice A1 n1 cap1, .string rc.key, .string rc.value, .int .i64 rc.rev, .int .i64 rc.life, .string rc.note, .slice Aa na capa] 24) = W := ⟨_, rfl⟩
  rw [hWr] at hrow bb2
  rw [hWr]
  have hlr : w2.heap.size < Wr.heap.size := by rw [← hWr]; simp
  clear hWr hN hf1 HS PR bq
  go_wp2_with fail
  go_loopw [28] (fun i wy => ∃ (q : Nat) (wq : World), wq = wy ∧ q ≤ 2 ∧ i = .int .i64 q ∧ Below w2.heap.size w2 wq ∧ RowC w2 wq w2.heap.size 2) (fun i _ => 2 - (intOf i).toNat)
  case atStart => exact ⟨0, _, rfl, by omega, rfl, bb2, hrow⟩
  case round =>
    clear bb2 hrow
    obtain ⟨q, wq, rfl, hq, rfl, hb2, hrow⟩ := hrel
    have hb := hb2
    clear hb2
    by_cases hlt2 : q < 2
    · obtain ⟨rq, Aq, nq, cq, ⟨y0, y1, y2, y3, y4, y5⟩, hwq, hcq, hfq⟩ := hrow q hlt2
      go_upto_region 5 with fail
      clear y0 y1 y2 y3 y4 y5
      obtain ⟨W5, hW⟩ : ∃ W, wq.alloc (.cells #[.string rq.key, .string rq.value, .int .i64 rq.rev, .int .i64 rq.life, .string rq.note, .slice Aq nq cq] 24) = W := ⟨_, rfl⟩
      replace hrow := hrow.alloc (.cells #[.string rq.key, .string rq.value, .int .i64 rq.rev, .int .i64 rq.life, .string rq.note, .slice Aq nq cq] 24)
      replace hb := hb.alloc hb.size (.cells #[.string rq.key, .string rq.value, .int .i64 rq.rev, .int .i64 rq.life, .string rq.note, .slice Aq nq cq] 24)
      have hrq : RcBlk W5 wq.heap.size rq (.slice Aq nq cq) := by rw [← hW]; exact World.alloc_heap_new wq _
      rw [hW] at hrow hb
      rw [hW]
      clear hW
      generalize wq.heap.size = b11 at *
      obtain ⟨c0, c1, c2, c3, c4, c5⟩ := hrq.cells
      have p2 := cUp_any rq Aq nq cq W5 hwq (hfq.below hb)
      have PR : Hid (∀ W, Below w2.heap.size w2 W → Calls Try.prog 18 #[.int .i64 1, rcV rq (.slice Aq nq cq)] W fun e w' => e = .returned (.bool (rightR 1 rq)) ∧ Below W.heap.size W w') := fun W hW => rRight_any 1 rq Aq nq cq W hwq (hfq.below hW)
      cases hR : rightR 1 rq with
      | false =>
        rw [upR_arg hR] at p2
        have q1 := fun W hW => PR.out W hW
        rw [hR] at q1
        go_wp2_with fail
        ((with_reducible refine p2.mono ?_); rintro e w6 ⟨A6, n6, c6, rfl, _, _, _, b6⟩)
        clear c0 c1 c2 c3 c4 c5
        clear p2
        replace hrq := hrq.below b6
        replace hrow := hrow.below b6
        replace hb := bch hb b6
        clear b6
        go_upto_region 6 with fail
        obtain ⟨W6, hW⟩ : ∃ W, w6.alloc (.cells #[.string zeroR.key, .string zeroR.value, .int .i64 zeroR.rev, .int .i64 zeroR.life, .string zeroR.note, .slice A6 n6 c6] 24) = W := ⟨_, rfl⟩
        replace hrq := hrq.alloc (.cells #[.string zeroR.key, .string zeroR.value, .int .i64 zeroR.rev, .int .i64 zeroR.life, .string zeroR.note, .slice A6 n6 c6] 24)
        replace hrow := hrow.alloc (.cells #[.string zeroR.key, .string zeroR.value, .int .i64 zeroR.rev, .int .i64 zeroR.life, .string zeroR.note, .slice A6 n6 c6] 24)
        replace hb := hb.alloc hb.size (.cells #[.string zeroR.key, .string zeroR.value, .int .i64 zeroR.rev, .int .i64 zeroR.life, .string zeroR.note, .slice A6 n6 c6] 24)
        rw [hW] at hrq hrow hb
        rw [hW]
        clear hW
        obtain ⟨c0, c1, c2, c3, c4, c5⟩ := hrq.cells
        have q2 := q1 W6 hb
        clear q1
        go_wp2_with fail
        ((with_reducible refine q2.mono ?_); rintro e w7 ⟨rfl, b7⟩)
        replace hrq := hrq.below b7
        replace hrow := hrow.below b7
        replace hb := bch hb b7
        clear b7
        go_wp2_with fail
        go_roundw
        case rel => exact ⟨q + 1, _, rfl, by omega, by go_num, hb, hrow⟩
        case measure => simp [intOf]; omega
      | true =>
        cases hQ : recP 2 (fieldsR rq) with
        | false =>
          rw [upR_known hR hQ] at p2
          have q1 := fun W hW => PR.out W hW
          rw [hR] at q1
          go_wp2_with fail
          ((with_reducible refine p2.mono ?_); rintro e w6 ⟨A6, n6, c6, rfl, _, _, _, b6⟩)
          clear c0 c1 c2 c3 c4 c5
          clear p2
          replace hrq := hrq.below b6
          replace hrow := hrow.below b6
          replace hb := bch hb b6
          clear b6
          go_upto_region 6 with fail
          obtain ⟨W6, hW⟩ : ∃ W, w6.alloc (.cells #[.string zeroR.key, .string zeroR.value, .int .i64 zeroR.rev, .int .i64 zeroR.life, .string zeroR.note, .slice A6 n6 c6] 24) = W := ⟨_, rfl⟩
          replace hrq := hrq.alloc (.cells #[.string zeroR.key, .string zeroR.value, .int .i64 zeroR.rev, .int .i64 zeroR.life, .string zeroR.note, .slice A6 n6 c6] 24)
          replace hrow := hrow.alloc (.cells #[.string zeroR.key, .string zeroR.value, .int .i64 zeroR.rev, .int .i64 zeroR.life, .string zeroR.note, .slice A6 n6 c6] 24)
          replace hb := hb.alloc hb.size (.cells #[.string zeroR.key, .string zeroR.value, .int .i64 zeroR.rev, .int .i64 zeroR.life, .string zeroR.note, .slice A6 n6 c6] 24)
          rw [hW] at hrq hrow hb
          rw [hW]
          clear hW
          obtain ⟨c0, c1, c2, c3, c4, c5⟩ := hrq.cells
          have q2 := q1 W6 hb
          clear q1
          go_wp2_with fail
          ((with_reducible refine q2.mono ?_); rintro e w7 ⟨rfl, b7⟩)
          replace hrq := hrq.below b7
          replace hrow := hrow.below b7
          replace hb := bch hb b7
          clear b7
          go_wp2_with fail
          go_roundw
          case rel => exact ⟨q + 1, _, rfl, by omega, by go_num, hb, hrow⟩
          case measure => simp [intOf]; omega
        | true =>
          obtain ⟨D, hD⟩ : ∃ D, upR rq = (D, 0) := ⟨_, upR_ok hR hQ⟩
          obtain ⟨_, kk2, kk3, kk4, _⟩ := up_down hD
          have hdw := rcwf_right (rightR_iff.1 kk2)
          rw [hD] at p2
          go_wp2_with fail
          ((with_reducible refine p2.mono ?_); rintro e w6 ⟨A6, n6, c6, rfl, hc6, hf6, _, b6⟩)
          replace hf6 : IsFs w6 A6 n6 D.extra := hf6
          clear c0 c1 c2 c3 c4 c5
          clear p2
          replace hrq := hrq.below b6
          replace hrow := hrow.below b6
          replace hb := bch hb b6
          clear b6
          go_upto_region 6 with fail
          obtain ⟨W6, hW⟩ : ∃ W, w6.alloc (.cells #[.string D.key, .string D.value, .int .i64 D.rev, .int .i64 D.life, .string D.note, .slice A6 n6 c6] 24) = W := ⟨_, rfl⟩
          replace hrq := hrq.alloc (.cells #[.string D.key, .string D.value, .int .i64 D.rev, .int .i64 D.life, .string D.note, .slice A6 n6 c6] 24)
          replace hrow := hrow.alloc (.cells #[.string D.key, .string D.value, .int .i64 D.rev, .int .i64 D.life, .string D.note, .slice A6 n6 c6] 24)
          replace hf6 := hf6.below ((Below.refl _ _).alloc (Nat.le_refl _) (.cells #[.string D.key, .string D.value, .int .i64 D.rev, .int .i64 D.life, .string D.note, .slice A6 n6 c6] 24))
          replace hb := hb.alloc hb.size (.cells #[.string D.key, .string D.value, .int .i64 D.rev, .int .i64 D.life, .string D.note, .slice A6 n6 c6] 24)
          have hd : RcBlk W6 w6.heap.size D (.slice A6 n6 c6) := by rw [← hW]; exact World.alloc_heap_new w6 _
          rw [hW] at hrq hrow hf6 hb
          rw [hW]
          clear hW
          generalize w6.heap.size = b12 at *
          obtain ⟨d0, d1, d2, d3, d4, d5⟩ := hd.cells
          have p3 := cDown_any D A6 n6 c6 W6 hdw hf6
          rw [kk3] at p3
          go_wp2_with fail
          ((with_reducible refine p3.mono ?_); rintro e w7 ⟨A7, n7, c7, rfl, hc7, hf7, _, b7⟩)
          replace hf7 : IsFs w7 A7 n7 rq.extra := hf7
          clear d0 d1 d2 d3 d4 d5
          clear p3
          replace hrq := hrq.below b7
          replace hd := hd.below b7
          replace hf6 := hf6.below b7
          replace hrow := hrow.below b7
          replace hb := bch hb b7
          clear b7
          go_upto_region 10 with fail
          obtain ⟨W7, hW⟩ : ∃ W, w7.alloc (.cells #[.string rq.key, .string rq.value, .int .i64 rq.rev, .int .i64 rq.life, .string rq.note, .slice A7 n7 c7] 24) = W := ⟨_, rfl⟩
          replace hrq := hrq.alloc (.cells #[.string rq.key, .string rq.value, .int .i64 rq.rev, .int .i64 rq.life, .string rq.note, .slice A7 n7 c7] 24)
          replace hd := hd.alloc (.cells #[.string rq.key, .string rq.value, .int .i64 rq.rev, .int .i64 rq.life, .string rq.note, .slice A7 n7 c7] 24)
          replace hrow := hrow.alloc (.cells #[.string rq.key, .string rq.value, .int .i64 rq.rev, .int .i64 rq.life, .string rq.note, .slice A7 n7 c7] 24)
          replace hf6 := hf6.below ((Below.refl _ _).alloc (Nat.le_refl _) (.cells #[.string rq.key, .string rq.value, .int .i64 rq.rev, .int .i64 rq.life, .string rq.note, .slice A7 n7 c7] 24))
          replace hf7 := hf7.below ((Below.refl _ _).alloc (Nat.le_refl _) (.cells #[.string rq.key, .string rq.value, .int .i64 rq.rev, .int .i64 rq.life, .string rq.note, .slice A7 n7 c7] 24))
          replace hb := hb.alloc hb.size (.cells #[.string rq.key, .string rq.value, .int .i64 rq.rev, .int .i64 rq.life, .string rq.note, .slice A7 n7 c7] 24)
          have hu : RcBlk W7 w7.heap.size rq (.slice A7 n7 c7) := by rw [← hW]; exact World.alloc_heap_new w7 _
          rw [hW] at hrq hd hrow hf6 hf7 hb
          rw [hW]
          clear hW
          generalize w7.heap.size = b14 at *
          obtain ⟨c0, c1, c2, c3, c4, c5⟩ := hrq.cells
          have p4 := rEncode_any 1 rq Aq nq cq W7 hwq (hfq.below hb)
          have p5 := fun W (hW : IsFs W A6 n6 D.extra) => rEncode_any 2 D A6 n6 c6 W hdw hW
          rw [kk4] at p5
          obtain ⟨⟨E, x⟩, hE⟩ : ∃ E, recE 1 rq = E := ⟨_, rfl⟩
          rw [hE] at p4 p5
          simp only at p4 p5
          generalize bs E = TT at p4 p5
          have P5 := Lib.hid p5
          clear p5
          go_wp2_with fail
          ((with_reducible refine p4.mono ?_); rintro e w8 ⟨rfl, b8⟩)
          clear c0 c1 c2 c3 c4 c5
          clear p4
          replace hrq := hrq.below b8
          replace hd := hd.below b8
          replace hu := hu.below b8
          replace hf6 := hf6.below b8
          replace hf7 := hf7.below b8
          replace hrow := hrow.below b8
          replace hb := bch hb b8
          clear b8
          obtain ⟨d0, d1, d2, d3, d4, d5⟩ := hd.cells
          have p5 := P5.out w8 hf6
          go_wp2_with fail
          ((with_reducible refine p5.mono ?_); rintro e w9 ⟨rfl, b9⟩)
          clear d0 d1 d2 d3 d4 d5
          clear p5 P5
          replace hrq := hrq.below b9
          replace hd := hd.below b9
          replace hu := hu.below b9
          replace hf6 := hf6.below b9
          replace hf7 := hf7.below b9
          replace hrow := hrow.below b9
          replace hb := bch hb b9
          clear b9
          obtain ⟨d0, d1, d2, d3, d4, d5⟩ := hd.cells
          have q1 := rRight_any 2 D A6 n6 c6 w9 hdw hf6
          rw [kk2] at q1
          go_wp2_with fail
          ((with_reducible refine q1.mono ?_); rintro e w10 ⟨rfl, b10⟩)
          clear d0 d1 d2 d3 d4 d5
          clear q1
          replace hrq := hrq.below b10
          replace hd := hd.below b10
          replace hu := hu.below b10
          replace hf6 := hf6.below b10
          replace hf7 := hf7.below b10
          replace hrow := hrow.below b10
          replace hb := bch hb b10
          clear b10
          obtain ⟨u0, u1, u2, u3, u4, u5⟩ := hu.cells
          obtain ⟨c0, c1, c2, c3, c4, c5⟩ := hrq.cells
          have q2 := refSame_any rq rq A7 Aq n7 nq c7 cq w10 hf7 (hfq.below hb)
          rw [sameR_self] at q2
          go_wp2_with fail
          ((with_reducible refine q2.mono ?_); rintro e w20 ⟨rfl, b20⟩)
          clear u0 u1 u2 u3 u4 u5
          clear c0 c1 c2 c3 c4 c5
          clear q2
          replace hrq := hrq.below b20
          replace hd := hd.below b20
          replace hu := hu.below b20
          replace hf6 := hf6.below b20
          replace hf7 := hf7.below b20
          replace hrow := hrow.below b20
          replace hb := bch hb b20
          clear b20
          go_wp2_with fail
          go_roundw
          case rel => exact ⟨q + 1, _, rfl, by omega, by go_num, hb, hrow⟩
          case measure => simp [intOf]; omega
    · have hq2 : q = 2 := by omega
      subst hq2
      go_wp2_with fail
      go_ret
      exact ⟨rfl, bch hbw2 hb⟩

end Go.Proofs.Ytkcmjhpbjgjebaa
