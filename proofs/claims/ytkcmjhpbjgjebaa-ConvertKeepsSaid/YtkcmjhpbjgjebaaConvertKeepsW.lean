import Derived.Test.YtkcmjhpbjgjebaaConLaw
import Derived.Test.YtkcmjhpbjgjebaaConKeepM
import Derived.BigQuiet
/-
  The walk of the law ConvertKeeps.
-/
namespace Go.Proofs.Ytkcmjhpbjgjebaa
open Go.RowKit
set_option linter.unusedVariables false
set_option linter.unusedSimpArgs false

set_option maxRecDepth 100000 in
set_option maxHeartbeats 8000000 in
theorem convertKeeps_walk (x0 x1 x2 x3 x4 : Int) (A : Option Addr) (n cap : Nat) (f : Nat → Nat → Int) (B : Option Addr) (m cap2 : Nat) (g : Nat → ByteArray) (w : World) (h0 : (Lit.int .i64 x0).wf = true) (h1 : (Lit.int .i64 x1).wf = true) (h2 : (Lit.int .i64 x2).wf = true) (h3 : (Lit.int .i64 x3).wf = true) (h4 : (Lit.int .i64 x4).wf = true) (hra : IsRaw w A n 2 f) (hst : IsStrs w B m g) :
    Calls Try.prog 6 #[.agg #[.int .i64 x0, .int .i64 x1, .int .i64 x2, .int .i64 x3, .int .i64 x4], .slice A n cap, .slice B m cap2] w fun e w' => e = .returned (.bool true) ∧ Below w.heap.size w w' := by
  have hb : Below w.heap.size w (w.alloc (.cells #[.int .i64 x0, .int .i64 x1, .int .i64 x2, .int .i64 x3, .int .i64 x4] 25)) := (Below.refl _ _).alloc (Nat.le_refl _) _
  have harr : Arr5 (w.alloc (.cells #[.int .i64 x0, .int .i64 x1, .int .i64 x2, .int .i64 x3, .int .i64 x4] 25)) w.heap.size x0 x1 x2 x3 x4 := World.alloc_heap_new w _
  go_enter Try.func6, Try.ntmps6
  go_wp2_with fail
  ((with_reducible refine (awake4_any _).mono ?_); rintro e w1 ⟨rfl, b1⟩)
  replace harr := harr.below b1
  replace hb := bch hb b1
  clear b1
  go_wp2_with fail
  go_loopw [8] (fun v wy => ∃ (j : Int) (wq : World), wq = wy ∧ (j = 1 ∨ j = 2 ∨ j = 3) ∧ v = .int .i64 j ∧ Below w.heap.size w wq ∧ Arr5 wq w.heap.size x0 x1 x2 x3 x4) (fun v _ => 3 - (intOf v).toNat)
  case atStart => exact ⟨1, _, rfl, .inl rfl, rfl, hb, harr⟩
  case round =>
    clear hb harr
    obtain ⟨j, wq, rfl, hj, rfl, hb, harr⟩ := hrel
    rcases hj with rfl | rfl | rfl
    · have dummy := 0
      have p1 := record_any 1 (by decide) x0 x1 x2 x3 x4 h0 h1 h2 h3 h4 A n cap f B m cap2 g wq (hra.below hb) (hst.below hb)
      obtain ⟨c0, c1, c2, c3, c4⟩ := harr.cells
      go_wp2_with fail
      ((with_reducible refine p1.mono ?_); rintro e w2 ⟨A1, n1, cap1, r, rfl, hc1, hf1, hN, b2⟩)
      clear p1 c0 c1 c2 c3 c4
      replace harr := harr.below b2
      replace hb := bch hb b2
      clear b2
      have hrw := hN.wf
      have hn16 : n1 ≤ 6 := by have := hN.2.1; have := hf1.1; omega
      go_upto_region 6 with fail
      obtain ⟨W2, hW⟩ : ∃ W, w2.alloc (.cells #[.string r.key, .string r.value, .int .i64 r.rev, .int .i64 r.life, .string r.note, .slice A1 n1 cap1] 24) = W := ⟨_, rfl⟩
      replace harr := harr.alloc (.cells #[.string r.key, .string r.value, .int .i64 r.rev, .int .i64 r.life, .string r.note, .slice A1 n1 cap1] 24)
      replace hf1 := hf1.below ((Below.refl _ _).alloc (Nat.le_refl _) (.cells #[.string r.key, .string r.value, .int .i64 r.rev, .int .i64 r.life, .string r.note, .slice A1 n1 cap1] 24))
      replace hb := hb.alloc hb.size (.cells #[.string r.key, .string r.value, .int .i64 r.rev, .int .i64 r.life, .string r.note, .slice A1 n1 cap1] 24)
      have hr : RcBlk W2 w2.heap.size r (.slice A1 n1 cap1) := by rw [← hW]; exact World.alloc_heap_new w2 _
      rw [hW] at harr hf1 hb
      rw [hW]
      clear hW
      generalize w2.heap.size = y9 at *
      obtain ⟨X, x, hX, hx, hK⟩ := up_keeps hN.1
      have hT : toR 1 2 r = (X, x) := (toR_up hN.right (by decide)).trans hX
      have p2 := cTo_any 1 2 r A1 n1 cap1 W2 hrw hf1
      rw [hT] at p2
      obtain ⟨c0, c1, c2, c3, c4, c5⟩ := hr.cells
      go_wp2_with fail
      ((with_reducible refine p2.mono ?_); rintro e w3 ⟨A3, n3, cap3, rfl, hc3, hf3, _, b3⟩)
      replace hf3 : IsFs w3 A3 n3 (X : Rcd).extra := hf3
      clear c0 c1 c2 c3 c4 c5
      clear p2 hT hX
      replace hr := hr.below b3
      replace hf1 := hf1.below b3
      replace harr := harr.below b3
      replace hb := bch hb b3
      clear b3
      go_upto_region 7 with fail
      obtain ⟨W3, hW⟩ : ∃ W, w3.alloc (.cells #[.string X.key, .string X.value, .int .i64 X.rev, .int .i64 X.life, .string X.note, .slice A3 n3 cap3] 24) = W := ⟨_, rfl⟩
      replace hr := hr.alloc (.cells #[.string X.key, .string X.value, .int .i64 X.rev, .int .i64 X.life, .string X.note, .slice A3 n3 cap3] 24)
      replace harr := harr.alloc (.cells #[.string X.key, .string X.value, .int .i64 X.rev, .int .i64 X.life, .string X.note, .slice A3 n3 cap3] 24)
      replace hf1 := hf1.below ((Below.refl _ _).alloc (Nat.le_refl _) (.cells #[.string X.key, .string X.value, .int .i64 X.rev, .int .i64 X.life, .string X.note, .slice A3 n3 cap3] 24))
      replace hf3 := hf3.below ((Below.refl _ _).alloc (Nat.le_refl _) (.cells #[.string X.key, .string X.value, .int .i64 X.rev, .int .i64 X.life, .string X.note, .slice A3 n3 cap3] 24))
      replace hb := hb.alloc hb.size (.cells #[.string X.key, .string X.value, .int .i64 X.rev, .int .i64 X.life, .string X.note, .slice A3 n3 cap3] 24)
      have hx10 : RcBlk W3 w3.heap.size X (.slice A3 n3 cap3) := by rw [← hW]; exact World.alloc_heap_new w3 _
      rw [hW] at hr harr hf1 hf3 hb
      rw [hW]
      clear hW
      generalize w3.heap.size = y10 at *
      have p3 := cTo_any 1 1 r A1 n1 cap1 W3 hrw hf1
      rw [toR_same hN.right] at p3
      obtain ⟨c0, c1, c2, c3, c4, c5⟩ := hr.cells
      go_wp2_with fail
      ((with_reducible refine p3.mono ?_); rintro e w4 ⟨A4, n4, cap4, rfl, hc4, hf4, _, b4⟩)
      replace hf4 : IsFs w4 A4 n4 r.extra := hf4
      clear c0 c1 c2 c3 c4 c5
      clear p3
      replace hr := hr.below b4
      replace hx10 := hx10.below b4
      replace hf1 := hf1.below b4
      replace hf3 := hf3.below b4
      replace harr := harr.below b4
      replace hb := bch hb b4
      clear b4
      go_upto_region 8 with fail
      obtain ⟨W4, hW⟩ : ∃ W, w4.alloc (.cells #[.string r.key, .string r.value, .int .i64 r.rev, .int .i64 r.life, .string r.note, .slice A4 n4 cap4] 24) = W := ⟨_, rfl⟩
      replace hr := hr.alloc (.cells #[.string r.key, .string r.value, .int .i64 r.rev, .int .i64 r.life, .string r.note, .slice A4 n4 cap4] 24)
      replace hx10 := hx10.alloc (.cells #[.string r.key, .string r.value, .int .i64 r.rev, .int .i64 r.life, .string r.note, .slice A4 n4 cap4] 24)
      replace harr := harr.alloc (.cells #[.string r.key, .string r.value, .int .i64 r.rev, .int .i64 r.life, .string r.note, .slice A4 n4 cap4] 24)
      replace hf1 := hf1.below ((Below.refl _ _).alloc (Nat.le_refl _) (.cells #[.string r.key, .string r.value, .int .i64 r.rev, .int .i64 r.life, .string r.note, .slice A4 n4 cap4] 24))
      replace hf3 := hf3.below ((Below.refl _ _).alloc (Nat.le_refl _) (.cells #[.string r.key, .string r.value, .int .i64 r.rev, .int .i64 r.life, .string r.note, .slice A4 n4 cap4] 24))
      replace hf4 := hf4.below ((Below.refl _ _).alloc (Nat.le_refl _) (.cells #[.string r.key, .string r.value, .int .i64 r.rev, .int .i64 r.life, .string r.note, .slice A4 n4 cap4] 24))
      replace hb := hb.alloc hb.size (.cells #[.string r.key, .string r.value, .int .i64 r.rev, .int .i64 r.life, .string r.note, .slice A4 n4 cap4] 24)
      have hy12 : RcBlk W4 w4.heap.size r (.slice A4 n4 cap4) := by rw [← hW]; exact World.alloc_heap_new w4 _
      rw [hW] at hr hx10 harr hf1 hf3 hf4 hb
      rw [hW]
      clear hW
      generalize w4.heap.size = y12 at *
      have q1 := refSame_any r r A4 A1 n4 n1 cap4 cap1 W4 hf4 hf1
      rw [sameR_self] at q1
      obtain ⟨c0, c1, c2, c3, c4, c5⟩ := hr.cells
      obtain ⟨d0, d1, d2, d3, d4, d5⟩ := hy12.cells
      go_wp2_with fail
      ((with_reducible refine q1.mono ?_); rintro e w5 ⟨rfl, b5⟩)
      clear c0 c1 c2 c3 c4 c5
      clear d0 d1 d2 d3 d4 d5
      clear q1
      replace hr := hr.below b5
      replace hx10 := hx10.below b5
      replace hy12 := hy12.below b5
      replace hf1 := hf1.below b5
      replace hf3 := hf3.below b5
      replace hf4 := hf4.below b5
      replace harr := harr.below b5
      replace hb := bch hb b5
      clear b5
      clear hy12 hf4
      rcases hx with rfl | rfl
      · obtain ⟨hXr, P, Q, E, xl, xn, hre, rfl, hP, hQ, hE⟩ := hK rfl
        clear hK
        have hl1 : n1 = P.length + E.length := by have := hf1.1; rw [hre, List.length_append] at this; exact this
        have hl3 : n3 = Q.length + E.length := by have := hf3.1; simp only [List.length_append] at this; exact this
        have h64 : n3 ≤ 64 := by
          have h9 := (rightB_iff.1 (extraB_iff.1 hXr.2.2.2.2.2).1).1
          simp only [List.length_append] at h9
          omega
        rw [hre] at hf1
        try simp only at hf3
        have HC1 := Lib.hid hf1.2.2.2
        have HC3 := Lib.hid hf3.2.2.2
        have HTA : Hid (∀ k, k < P.length → tg (P ++ E) k ≤ 5) := fun k hk => tg_left hk hP
        have HTB : Hid (∀ k, k < Q.length → tg (Q ++ E) k ≤ 5) := fun k hk => tg_left hk hQ
        have HEA : Hid (0 < E.length → 5 < tg (P ++ E) P.length) := fun hk => tg_right hk hE
        have HEB : Hid (0 < E.length → 5 < tg (Q ++ E) Q.length) := fun hk => tg_right hk hE
        have HAP : Hid (∀ k, tg (P ++ E) (P.length + k) = tg E k ∧ dt (P ++ E) (P.length + k) = dt E k) := fun k => ⟨tg_app k, dt_app k⟩
        have HBP : Hid (∀ k, tg (Q ++ E) (Q.length + k) = tg E k ∧ dt (Q ++ E) (Q.length + k) = dt E k) := fun k => ⟨tg_app k, dt_app k⟩
        have HLP : Hid ((P ++ E).length = P.length + E.length) := List.length_append
        have HLQ : Hid ((Q ++ E).length = Q.length + E.length) := List.length_append
        clear hP hQ hE hre hXr hrw hN hf1 hf3
        generalize P ++ E = L1 at *
        generalize Q ++ E = L3 at *
        generalize P.length = a0 at *
        generalize Q.length = b0 at *
        generalize E.length = e0 at *
        have HN1 := Lib.hid hl1
        have HN3 := Lib.hid hl3
        have ha0 : a0 ≤ n1 := by omega
        have hb0 : b0 ≤ n3 := by omega
        have hs1 : (n1 : Int) - (a0 : Int) = (e0 : Int) := by omega
        have hs3 : (n3 : Int) - (b0 : Int) = (e0 : Int) := by omega
        clear hl1 hl3
        by_cases hee : 0 < e0
        · have hxa : a0 < n1 := by have := HN1.out; omega
          have hxb : b0 < n3 := by have := HN3.out; omega
          obtain ⟨bA, oA, hA, hlA, hatA⟩ := HC1.out (by omega)
          obtain ⟨bB, oB, hB, hlB, hatB⟩ := HC3.out (by omega)
          subst hA hB
          have HATA := Lib.hid hatA
          have HATB := Lib.hid hatB
          clear hatA hatB HC1 HC3
          have c5 := hr.cells.2.2.2.2.2
          have d5 := hx10.cells.2.2.2.2.2
          go_wp2_with fail
          go_loopw [14] (fun i wy => ∃ k : Nat, k ≤ a0 ∧ i = .int .i64 k ∧ wy = w5) (fun i _ => a0 - (intOf i).toNat)
          case atStart => exact ⟨0, by omega, rfl, by trivial⟩
          case round =>
            obtain ⟨k, hk, rfl, rfl⟩ := hrel
            by_cases hka : k < a0
            · have hkn : k < n1 := by omega
              have ht := HTA.out k hka
              have c1 := (HATA.out k (by have := HLP.out; have := HN1.out; omega)).1
              generalize tg L1 k = t at *
              go_wp2_with fail
              go_roundw
              case rel => exact ⟨k + 1, by omega, by go_num, by trivial⟩
              case measure => simp [intOf]; omega
            · have hka2 : k = a0 := by omega
              subst hka2
              have ht := HEA.out hee
              have c1 := (HATA.out k (by have := HLP.out; have := HN1.out; omega)).1
              generalize tg L1 k = t at *
              go_upto_region 14 with fail
              clear ht c1
              go_wp2_with fail
              go_loopw [15] (fun i wy => ∃ q : Nat, q ≤ b0 ∧ i = .int .i64 q ∧ wy = wr) (fun i _ => b0 - (intOf i).toNat)
              case atStart => exact ⟨0, by omega, rfl, by trivial⟩
              case round =>
                obtain ⟨q, hq, rfl, rfl⟩ := hrel
                by_cases hqb : q < b0
                · have hqn : q < n3 := by omega
                  have ht := HTB.out q hqb
                  have c1 := (HATB.out q (by have := HLQ.out; have := HN3.out; omega)).1
                  generalize tg L3 q = t at *
                  go_wp2_with fail
                  go_roundw
                  case rel => exact ⟨q + 1, by omega, by go_num, by trivial⟩
                  case measure => simp [intOf]; omega
                · have hqb2 : q = b0 := by omega
                  subst hqb2
                  have ht := HEB.out hee
                  have c1 := (HATB.out q (by have := HLQ.out; have := HN3.out; omega)).1
                  generalize tg L3 q = t at *
                  go_upto_region 19 with fail
                  clear ht c1
                  obtain ⟨c0, c1, c2, c3, c4, _⟩ := hr.cells
                  obtain ⟨d0, d1, d2, d3, d4, _⟩ := hx10.cells
                  go_upto_region 21 with fail
                  clear c0 c1 c2 c3 c4 d0 d1 d2 d3 d4 c5 d5
                  go_wp2_with fail
                  go_loopw [16] (fun i wy => ∃ (p : Nat) (wq : World), wq = wy ∧ p ≤ e0 ∧ i = .int .i64 p ∧ Below wr.heap.size wr wq) (fun i _ => e0 - (intOf i).toNat)
                  case atStart => exact ⟨0, _, rfl, by omega, rfl, Below.refl _ _⟩
                  case round =>
                    obtain ⟨p, wq, rfl, hp, rfl, hbq⟩ := hrel
                    replace hr := hr.below hbq
                    replace hx10 := hx10.below hbq
                    have c5 := hr.cells.2.2.2.2.2
                    have d5 := hx10.cells.2.2.2.2.2
                    by_cases hpe : p < e0
                    · obtain ⟨e1, e2⟩ := HATA.out (k + p) (by have := HLP.out; omega)
                      obtain ⟨e3, e4⟩ := HATB.out (q + p) (by have := HLQ.out; omega)
                      rw [(HAP.out p).1] at e1
                      rw [(HAP.out p).2] at e2
                      rw [(HBP.out p).1] at e3
                      rw [(HBP.out p).2] at e4
                      replace e1 := (hbq.cell (p := ⟨bA, oA + (k + p) * 2, none⟩) hlA).trans e1
                      replace e2 := (hbq.cell (p := ⟨bA, oA + (k + p) * 2 + 1, none⟩) hlA).trans e2
                      replace e3 := (hbq.cell (p := ⟨bB, oB + (q + p) * 2, none⟩) hlB).trans e3
                      replace e4 := (hbq.cell (p := ⟨bB, oB + (q + p) * 2 + 1, none⟩) hlB).trans e4
                      generalize tg E p = te at *
                      generalize dt E p = de at *
                      have hgu := guardFld
                      have heq : ∀ W, (Op.equalIn 10000 44 (.agg #[.int .i64 te, .string de]) (.agg #[.int .i64 te, .string de])).run Try.prog W = .ok true W := fun W => by rw [eqFld]; simp
                      have i1 : (0 : Int) ≤ (k : Int) + (p : Int) := by omega
                      have i2 : (k : Int) + (p : Int) < (n1 : Int) := by omega
                      have i3 : (0 : Int) ≤ (q : Int) + (p : Int) := by omega
                      have i4 : (q : Int) + (p : Int) < (n3 : Int) := by omega
                      have hbw := bch hb hbq
                      go_wp2_with fail
                      go_quiet (fail)
                      go_wp2
                      go_roundw
                      case rel => exact ⟨p + 1, _, rfl, by omega, by go_num, bdn hbq _⟩
                      case measure => simp [intOf]; omega
                    · have hpe2 : p = e0 := by omega
                      subst hpe2
                      have hbw := bch hb hbq
                      have har := harr.below hbq
                      go_wp2_with fail
                      go_roundw
                      case rel => exact ⟨2, _, rfl, by omega, by go_num, hbw, har⟩
                      case measure => simp [intOf]
        · have hxa : ¬ a0 < n1 := by have := HN1.out; omega
          have hxb : ¬ b0 < n3 := by have := HN3.out; omega
          have c5 := hr.cells.2.2.2.2.2
          have d5 := hx10.cells.2.2.2.2.2
          go_wp2_with fail
          go_loopw [14] (fun i wy => ∃ k : Nat, k ≤ a0 ∧ i = .int .i64 k ∧ wy = w5) (fun i _ => a0 - (intOf i).toNat)
          case atStart => exact ⟨0, by omega, rfl, by trivial⟩
          case round =>
            obtain ⟨k, hk, rfl, rfl⟩ := hrel
            by_cases hka : k < a0
            · have hkn : k < n1 := by omega
              have ht := HTA.out k hka
              obtain ⟨bA, oA, hA, hlA, hatA⟩ := HC1.out (by omega)
              subst hA
              have c1 := (hatA k (by have := HLP.out; have := HN1.out; omega)).1
              clear hatA
              generalize tg L1 k = t at *
              go_wp2_with fail
              go_roundw
              case rel => exact ⟨k + 1, by omega, by go_num, by trivial⟩
              case measure => simp [intOf]; omega
            · have hka2 : k = a0 := by omega
              subst hka2
              go_upto_region 14 with fail
              go_wp2_with fail
              go_loopw [15] (fun i wy => ∃ q : Nat, q ≤ b0 ∧ i = .int .i64 q ∧ wy = wr) (fun i _ => b0 - (intOf i).toNat)
              case atStart => exact ⟨0, by omega, rfl, by trivial⟩
              case round =>
                obtain ⟨q, hq, rfl, rfl⟩ := hrel
                by_cases hqb : q < b0
                · have hqn : q < n3 := by omega
                  have ht := HTB.out q hqb
                  obtain ⟨bB, oB, hB, hlB, hatB⟩ := HC3.out (by omega)
                  subst hB
                  have c1 := (hatB q (by have := HLQ.out; have := HN3.out; omega)).1
                  clear hatB
                  generalize tg L3 q = t at *
                  go_wp2_with fail
                  go_roundw
                  case rel => exact ⟨q + 1, by omega, by go_num, by trivial⟩
                  case measure => simp [intOf]; omega
                · have hqb2 : q = b0 := by omega
                  subst hqb2
                  go_upto_region 19 with fail
                  obtain ⟨c0, c1, c2, c3, c4, _⟩ := hr.cells
                  obtain ⟨d0, d1, d2, d3, d4, _⟩ := hx10.cells
                  go_upto_region 21 with fail
                  clear c0 c1 c2 c3 c4 d0 d1 d2 d3 d4 c5 d5
                  go_wp2_with fail
                  go_loopw [16] (fun i wy => ∃ (p : Nat) (wq : World), wq = wy ∧ p ≤ e0 ∧ i = .int .i64 p ∧ Below wr.heap.size wr wq) (fun i _ => e0 - (intOf i).toNat)
                  case atStart => exact ⟨0, _, rfl, by omega, rfl, Below.refl _ _⟩
                  case round =>
                    obtain ⟨p, wq, rfl, hp, rfl, hbq⟩ := hrel
                    replace hr := hr.below hbq
                    replace hx10 := hx10.below hbq
                    have c5 := hr.cells.2.2.2.2.2
                    have d5 := hx10.cells.2.2.2.2.2
                    have hpe2 : p = 0 := by omega
                    have hpe3 : e0 = 0 := by omega
                    subst hpe2 hpe3
                    have hbw := bch hb hbq
                    have har := harr.below hbq
                    go_wp2_with fail
                    go_roundw
                    case rel => exact ⟨2, _, rfl, by omega, by go_num, hbw, har⟩
                    case measure => simp [intOf]
      · clear hK
        go_wp2_with fail
        go_roundw
        case rel => exact ⟨2, _, rfl, by omega, by go_num, hb, harr⟩
        case measure => simp [intOf]
    · have dummy := 0
      have p1 := record_any 2 (by decide) x0 x1 x2 x3 x4 h0 h1 h2 h3 h4 A n cap f B m cap2 g wq (hra.below hb) (hst.below hb)
      obtain ⟨c0, c1, c2, c3, c4⟩ := harr.cells
      go_wp2_with fail
      ((with_reducible refine p1.mono ?_); rintro e w2 ⟨A1, n1, cap1, r, rfl, hc1, hf1, hN, b2⟩)
      clear p1 c0 c1 c2 c3 c4
      replace harr := harr.below b2
      replace hb := bch hb b2
      clear b2
      have hrw := hN.wf
      have hn16 : n1 ≤ 6 := by have := hN.2.1; have := hf1.1; omega
      go_upto_region 6 with fail
      obtain ⟨W2, hW⟩ : ∃ W, w2.alloc (.cells #[.string r.key, .string r.value, .int .i64 r.rev, .int .i64 r.life, .string r.note, .slice A1 n1 cap1] 24) = W := ⟨_, rfl⟩
      replace harr := harr.alloc (.cells #[.string r.key, .string r.value, .int .i64 r.rev, .int .i64 r.life, .string r.note, .slice A1 n1 cap1] 24)
      replace hf1 := hf1.below ((Below.refl _ _).alloc (Nat.le_refl _) (.cells #[.string r.key, .string r.value, .int .i64 r.rev, .int .i64 r.life, .string r.note, .slice A1 n1 cap1] 24))
      replace hb := hb.alloc hb.size (.cells #[.string r.key, .string r.value, .int .i64 r.rev, .int .i64 r.life, .string r.note, .slice A1 n1 cap1] 24)
      have hr : RcBlk W2 w2.heap.size r (.slice A1 n1 cap1) := by rw [← hW]; exact World.alloc_heap_new w2 _
      rw [hW] at harr hf1 hb
      rw [hW]
      clear hW
      generalize w2.heap.size = y9 at *
      obtain ⟨X, hX, hXr, P, Q, E, xl, xn, hre, rfl, hP, hQ, hE⟩ := down_keeps hN.1
      have hT : toR 2 1 r = (⟨r.key, r.value, r.rev, xl, xn, Q ++ E⟩, 0) := (toR_down hN.right (by decide)).trans hX
      have p2 := cTo_any 2 1 r A1 n1 cap1 W2 hrw hf1
      rw [hT] at p2
      obtain ⟨c0, c1, c2, c3, c4, c5⟩ := hr.cells
      go_wp2_with fail
      ((with_reducible refine p2.mono ?_); rintro e w3 ⟨A3, n3, cap3, rfl, hc3, hf3, _, b3⟩)
      replace hf3 : IsFs w3 A3 n3 (⟨r.key, r.value, r.rev, xl, xn, Q ++ E⟩ : Rcd).extra := hf3
      clear c0 c1 c2 c3 c4 c5
      clear p2 hT hX
      replace hr := hr.below b3
      replace hf1 := hf1.below b3
      replace harr := harr.below b3
      replace hb := bch hb b3
      clear b3
      go_upto_region 7 with fail
      obtain ⟨W3, hW⟩ : ∃ W, w3.alloc (.cells #[.string r.key, .string r.value, .int .i64 r.rev, .int .i64 xl, .string xn, .slice A3 n3 cap3] 24) = W := ⟨_, rfl⟩
      replace hr := hr.alloc (.cells #[.string r.key, .string r.value, .int .i64 r.rev, .int .i64 xl, .string xn, .slice A3 n3 cap3] 24)
      replace harr := harr.alloc (.cells #[.string r.key, .string r.value, .int .i64 r.rev, .int .i64 xl, .string xn, .slice A3 n3 cap3] 24)
      replace hf1 := hf1.below ((Below.refl _ _).alloc (Nat.le_refl _) (.cells #[.string r.key, .string r.value, .int .i64 r.rev, .int .i64 xl, .string xn, .slice A3 n3 cap3] 24))
      replace hf3 := hf3.below ((Below.refl _ _).alloc (Nat.le_refl _) (.cells #[.string r.key, .string r.value, .int .i64 r.rev, .int .i64 xl, .string xn, .slice A3 n3 cap3] 24))
      replace hb := hb.alloc hb.size (.cells #[.string r.key, .string r.value, .int .i64 r.rev, .int .i64 xl, .string xn, .slice A3 n3 cap3] 24)
      have hx10 : RcBlk W3 w3.heap.size ⟨r.key, r.value, r.rev, xl, xn, Q ++ E⟩ (.slice A3 n3 cap3) := by rw [← hW]; exact World.alloc_heap_new w3 _
      rw [hW] at hr harr hf1 hf3 hb
      rw [hW]
      clear hW
      generalize w3.heap.size = y10 at *
      have p3 := cTo_any 2 2 r A1 n1 cap1 W3 hrw hf1
      rw [toR_same hN.right] at p3
      obtain ⟨c0, c1, c2, c3, c4, c5⟩ := hr.cells
      go_wp2_with fail
      ((with_reducible refine p3.mono ?_); rintro e w4 ⟨A4, n4, cap4, rfl, hc4, hf4, _, b4⟩)
      replace hf4 : IsFs w4 A4 n4 r.extra := hf4
      clear c0 c1 c2 c3 c4 c5
      clear p3
      replace hr := hr.below b4
      replace hx10 := hx10.below b4
      replace hf1 := hf1.below b4
      replace hf3 := hf3.below b4
      replace harr := harr.below b4
      replace hb := bch hb b4
      clear b4
      go_upto_region 8 with fail
      obtain ⟨W4, hW⟩ : ∃ W, w4.alloc (.cells #[.string r.key, .string r.value, .int .i64 r.rev, .int .i64 r.life, .string r.note, .slice A4 n4 cap4] 24) = W := ⟨_, rfl⟩
      replace hr := hr.alloc (.cells #[.string r.key, .string r.value, .int .i64 r.rev, .int .i64 r.life, .string r.note, .slice A4 n4 cap4] 24)
      replace hx10 := hx10.alloc (.cells #[.string r.key, .string r.value, .int .i64 r.rev, .int .i64 r.life, .string r.note, .slice A4 n4 cap4] 24)
      replace harr := harr.alloc (.cells #[.string r.key, .string r.value, .int .i64 r.rev, .int .i64 r.life, .string r.note, .slice A4 n4 cap4] 24)
      replace hf1 := hf1.below ((Below.refl _ _).alloc (Nat.le_refl _) (.cells #[.string r.key, .string r.value, .int .i64 r.rev, .int .i64 r.life, .string r.note, .slice A4 n4 cap4] 24))
      replace hf3 := hf3.below ((Below.refl _ _).alloc (Nat.le_refl _) (.cells #[.string r.key, .string r.value, .int .i64 r.rev, .int .i64 r.life, .string r.note, .slice A4 n4 cap4] 24))
      replace hf4 := hf4.below ((Below.refl _ _).alloc (Nat.le_refl _) (.cells #[.string r.key, .string r.value, .int .i64 r.rev, .int .i64 r.life, .string r.note, .slice A4 n4 cap4] 24))
      replace hb := hb.alloc hb.size (.cells #[.string r.key, .string r.value, .int .i64 r.rev, .int .i64 r.life, .string r.note, .slice A4 n4 cap4] 24)
      have hy12 : RcBlk W4 w4.heap.size r (.slice A4 n4 cap4) := by rw [← hW]; exact World.alloc_heap_new w4 _
      rw [hW] at hr hx10 harr hf1 hf3 hf4 hb
      rw [hW]
      clear hW
      generalize w4.heap.size = y12 at *
      have q1 := refSame_any r r A4 A1 n4 n1 cap4 cap1 W4 hf4 hf1
      rw [sameR_self] at q1
      obtain ⟨c0, c1, c2, c3, c4, c5⟩ := hr.cells
      obtain ⟨d0, d1, d2, d3, d4, d5⟩ := hy12.cells
      go_wp2_with fail
      ((with_reducible refine q1.mono ?_); rintro e w5 ⟨rfl, b5⟩)
      clear c0 c1 c2 c3 c4 c5
      clear d0 d1 d2 d3 d4 d5
      clear q1
      replace hr := hr.below b5
      replace hx10 := hx10.below b5
      replace hy12 := hy12.below b5
      replace hf1 := hf1.below b5
      replace hf3 := hf3.below b5
      replace hf4 := hf4.below b5
      replace harr := harr.below b5
      replace hb := bch hb b5
      clear b5
      clear hy12 hf4
      have hl1 : n1 = P.length + E.length := by have := hf1.1; rw [hre, List.length_append] at this; exact this
      have hl3 : n3 = Q.length + E.length := by have := hf3.1; simp only [List.length_append] at this; exact this
      have h64 : n3 ≤ 64 := by
        have h9 := (rightB_iff.1 (extraB_iff.1 hXr.2.2.2.2.2).1).1
        simp only [List.length_append] at h9
        omega
      rw [hre] at hf1
      try simp only at hf3
      have HC1 := Lib.hid hf1.2.2.2
      have HC3 := Lib.hid hf3.2.2.2
      have HTA : Hid (∀ k, k < P.length → tg (P ++ E) k ≤ 5) := fun k hk => tg_left hk hP
      have HTB : Hid (∀ k, k < Q.length → tg (Q ++ E) k ≤ 5) := fun k hk => tg_left hk hQ
      have HEA : Hid (0 < E.length → 5 < tg (P ++ E) P.length) := fun hk => tg_right hk hE
      have HEB : Hid (0 < E.length → 5 < tg (Q ++ E) Q.length) := fun hk => tg_right hk hE
      have HAP : Hid (∀ k, tg (P ++ E) (P.length + k) = tg E k ∧ dt (P ++ E) (P.length + k) = dt E k) := fun k => ⟨tg_app k, dt_app k⟩
      have HBP : Hid (∀ k, tg (Q ++ E) (Q.length + k) = tg E k ∧ dt (Q ++ E) (Q.length + k) = dt E k) := fun k => ⟨tg_app k, dt_app k⟩
      have HLP : Hid ((P ++ E).length = P.length + E.length) := List.length_append
      have HLQ : Hid ((Q ++ E).length = Q.length + E.length) := List.length_append
      clear hP hQ hE hre hXr hrw hN hf1 hf3
      generalize P ++ E = L1 at *
      generalize Q ++ E = L3 at *
      generalize P.length = a0 at *
      generalize Q.length = b0 at *
      generalize E.length = e0 at *
      have HN1 := Lib.hid hl1
      have HN3 := Lib.hid hl3
      have ha0 : a0 ≤ n1 := by omega
      have hb0 : b0 ≤ n3 := by omega
      have hs1 : (n1 : Int) - (a0 : Int) = (e0 : Int) := by omega
      have hs3 : (n3 : Int) - (b0 : Int) = (e0 : Int) := by omega
      clear hl1 hl3
      by_cases hee : 0 < e0
      · have hxa : a0 < n1 := by have := HN1.out; omega
        have hxb : b0 < n3 := by have := HN3.out; omega
        obtain ⟨bA, oA, hA, hlA, hatA⟩ := HC1.out (by omega)
        obtain ⟨bB, oB, hB, hlB, hatB⟩ := HC3.out (by omega)
        subst hA hB
        have HATA := Lib.hid hatA
        have HATB := Lib.hid hatB
        clear hatA hatB HC1 HC3
        have c5 := hr.cells.2.2.2.2.2
        have d5 := hx10.cells.2.2.2.2.2
        go_wp2_with fail
        go_loopw [14] (fun i wy => ∃ k : Nat, k ≤ a0 ∧ i = .int .i64 k ∧ wy = w5) (fun i _ => a0 - (intOf i).toNat)
        case atStart => exact ⟨0, by omega, rfl, by trivial⟩
        case round =>
          obtain ⟨k, hk, rfl, rfl⟩ := hrel
          by_cases hka : k < a0
          · have hkn : k < n1 := by omega
            have ht := HTA.out k hka
            have c1 := (HATA.out k (by have := HLP.out; have := HN1.out; omega)).1
            generalize tg L1 k = t at *
            go_wp2_with fail
            go_roundw
            case rel => exact ⟨k + 1, by omega, by go_num, by trivial⟩
            case measure => simp [intOf]; omega
          · have hka2 : k = a0 := by omega
            subst hka2
            have ht := HEA.out hee
            have c1 := (HATA.out k (by have := HLP.out; have := HN1.out; omega)).1
            generalize tg L1 k = t at *
            go_upto_region 14 with fail
            clear ht c1
            go_wp2_with fail
            go_loopw [15] (fun i wy => ∃ q : Nat, q ≤ b0 ∧ i = .int .i64 q ∧ wy = wr) (fun i _ => b0 - (intOf i).toNat)
            case atStart => exact ⟨0, by omega, rfl, by trivial⟩
            case round =>
              obtain ⟨q, hq, rfl, rfl⟩ := hrel
              by_cases hqb : q < b0
              · have hqn : q < n3 := by omega
                have ht := HTB.out q hqb
                have c1 := (HATB.out q (by have := HLQ.out; have := HN3.out; omega)).1
                generalize tg L3 q = t at *
                go_wp2_with fail
                go_roundw
                case rel => exact ⟨q + 1, by omega, by go_num, by trivial⟩
                case measure => simp [intOf]; omega
              · have hqb2 : q = b0 := by omega
                subst hqb2
                have ht := HEB.out hee
                have c1 := (HATB.out q (by have := HLQ.out; have := HN3.out; omega)).1
                generalize tg L3 q = t at *
                go_upto_region 19 with fail
                clear ht c1
                obtain ⟨c0, c1, c2, c3, c4, _⟩ := hr.cells
                obtain ⟨d0, d1, d2, d3, d4, _⟩ := hx10.cells
                go_upto_region 21 with fail
                clear c0 c1 c2 c3 c4 d0 d1 d2 d3 d4 c5 d5
                go_wp2_with fail
                go_loopw [16] (fun i wy => ∃ (p : Nat) (wq : World), wq = wy ∧ p ≤ e0 ∧ i = .int .i64 p ∧ Below wr.heap.size wr wq) (fun i _ => e0 - (intOf i).toNat)
                case atStart => exact ⟨0, _, rfl, by omega, rfl, Below.refl _ _⟩
                case round =>
                  obtain ⟨p, wq, rfl, hp, rfl, hbq⟩ := hrel
                  replace hr := hr.below hbq
                  replace hx10 := hx10.below hbq
                  have c5 := hr.cells.2.2.2.2.2
                  have d5 := hx10.cells.2.2.2.2.2
                  by_cases hpe : p < e0
                  · obtain ⟨e1, e2⟩ := HATA.out (k + p) (by have := HLP.out; omega)
                    obtain ⟨e3, e4⟩ := HATB.out (q + p) (by have := HLQ.out; omega)
                    rw [(HAP.out p).1] at e1
                    rw [(HAP.out p).2] at e2
                    rw [(HBP.out p).1] at e3
                    rw [(HBP.out p).2] at e4
                    replace e1 := (hbq.cell (p := ⟨bA, oA + (k + p) * 2, none⟩) hlA).trans e1
                    replace e2 := (hbq.cell (p := ⟨bA, oA + (k + p) * 2 + 1, none⟩) hlA).trans e2
                    replace e3 := (hbq.cell (p := ⟨bB, oB + (q + p) * 2, none⟩) hlB).trans e3
                    replace e4 := (hbq.cell (p := ⟨bB, oB + (q + p) * 2 + 1, none⟩) hlB).trans e4
                    generalize tg E p = te at *
                    generalize dt E p = de at *
                    have hgu := guardFld
                    have heq : ∀ W, (Op.equalIn 10000 44 (.agg #[.int .i64 te, .string de]) (.agg #[.int .i64 te, .string de])).run Try.prog W = .ok true W := fun W => by rw [eqFld]; simp
                    have i1 : (0 : Int) ≤ (k : Int) + (p : Int) := by omega
                    have i2 : (k : Int) + (p : Int) < (n1 : Int) := by omega
                    have i3 : (0 : Int) ≤ (q : Int) + (p : Int) := by omega
                    have i4 : (q : Int) + (p : Int) < (n3 : Int) := by omega
                    have hbw := bch hb hbq
                    go_wp2_with fail
                    go_quiet (fail)
                    go_wp2
                    go_roundw
                    case rel => exact ⟨p + 1, _, rfl, by omega, by go_num, bdn hbq _⟩
                    case measure => simp [intOf]; omega
                  · have hpe2 : p = e0 := by omega
                    subst hpe2
                    have hbw := bch hb hbq
                    have har := harr.below hbq
                    go_wp2_with fail
                    go_roundw
                    case rel => exact ⟨3, _, rfl, by omega, by go_num, hbw, har⟩
                    case measure => simp [intOf]
      · have hxa : ¬ a0 < n1 := by have := HN1.out; omega
        have hxb : ¬ b0 < n3 := by have := HN3.out; omega
        have c5 := hr.cells.2.2.2.2.2
        have d5 := hx10.cells.2.2.2.2.2
        go_wp2_with fail
        go_loopw [14] (fun i wy => ∃ k : Nat, k ≤ a0 ∧ i = .int .i64 k ∧ wy = w5) (fun i _ => a0 - (intOf i).toNat)
        case atStart => exact ⟨0, by omega, rfl, by trivial⟩
        case round =>
          obtain ⟨k, hk, rfl, rfl⟩ := hrel
          by_cases hka : k < a0
          · have hkn : k < n1 := by omega
            have ht := HTA.out k hka
            obtain ⟨bA, oA, hA, hlA, hatA⟩ := HC1.out (by omega)
            subst hA
            have c1 := (hatA k (by have := HLP.out; have := HN1.out; omega)).1
            clear hatA
            generalize tg L1 k = t at *
            go_wp2_with fail
            go_roundw
            case rel => exact ⟨k + 1, by omega, by go_num, by trivial⟩
            case measure => simp [intOf]; omega
          · have hka2 : k = a0 := by omega
            subst hka2
            go_upto_region 14 with fail
            go_wp2_with fail
            go_loopw [15] (fun i wy => ∃ q : Nat, q ≤ b0 ∧ i = .int .i64 q ∧ wy = wr) (fun i _ => b0 - (intOf i).toNat)
            case atStart => exact ⟨0, by omega, rfl, by trivial⟩
            case round =>
              obtain ⟨q, hq, rfl, rfl⟩ := hrel
              by_cases hqb : q < b0
              · have hqn : q < n3 := by omega
                have ht := HTB.out q hqb
                obtain ⟨bB, oB, hB, hlB, hatB⟩ := HC3.out (by omega)
                subst hB
                have c1 := (hatB q (by have := HLQ.out; have := HN3.out; omega)).1
                clear hatB
                generalize tg L3 q = t at *
                go_wp2_with fail
                go_roundw
                case rel => exact ⟨q + 1, by omega, by go_num, by trivial⟩
                case measure => simp [intOf]; omega
              · have hqb2 : q = b0 := by omega
                subst hqb2
                go_upto_region 19 with fail
                obtain ⟨c0, c1, c2, c3, c4, _⟩ := hr.cells
                obtain ⟨d0, d1, d2, d3, d4, _⟩ := hx10.cells
                go_upto_region 21 with fail
                clear c0 c1 c2 c3 c4 d0 d1 d2 d3 d4 c5 d5
                go_wp2_with fail
                go_loopw [16] (fun i wy => ∃ (p : Nat) (wq : World), wq = wy ∧ p ≤ e0 ∧ i = .int .i64 p ∧ Below wr.heap.size wr wq) (fun i _ => e0 - (intOf i).toNat)
                case atStart => exact ⟨0, _, rfl, by omega, rfl, Below.refl _ _⟩
                case round =>
                  obtain ⟨p, wq, rfl, hp, rfl, hbq⟩ := hrel
                  replace hr := hr.below hbq
                  replace hx10 := hx10.below hbq
                  have c5 := hr.cells.2.2.2.2.2
                  have d5 := hx10.cells.2.2.2.2.2
                  have hpe2 : p = 0 := by omega
                  have hpe3 : e0 = 0 := by omega
                  subst hpe2 hpe3
                  have hbw := bch hb hbq
                  have har := harr.below hbq
                  go_wp2_with fail
                  go_roundw
                  case rel => exact ⟨3, _, rfl, by omega, by go_num, hbw, har⟩
                  case measure => simp [intOf]
    · go_wp2_with fail
      go_ret
      exact ⟨rfl, hb⟩
end Go.Proofs.Ytkcmjhpbjgjebaa
