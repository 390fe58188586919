import Derived.Test.YtndkmepdnekigaaCtRefL
import Derived.Test.YtndkmepdnekigaaCtMathB
import Derived.Deep.RegionHeld3
import Derived.BigQuiet
import Derived.Deep.QuietTactic
import Derived.IntWalk
/-
  The contract of the document's own Balance of controllers (stage 18).
-/
namespace Go.Proofs.Ytndkmepdnekigaa
open Go.RowKit
set_option linter.unusedVariables false
set_option linter.unusedSimpArgs false

theorem loadC_le (l : List PlR) (x : Int) : loadC l x ≤ l.length := List.countP_le_length
set_option maxRecDepth 100000 in
set_option maxHeartbeats 8000000 in
theorem refbal9_any (c : CtR) (A B : Option Addr) (n cap m cm : Nat) (w : World) (hc : IsCt w c A n B m) (hn16 : n * 16 ≤ 140737488351232) (hm24 : m * 24 ≤ 140737488351232) :
    Calls Try.prog 21 #[ctV c A n cap B m cm] w fun e w' => e = .returned (.tuple #[.int .i64 (balC c).1, .int .i64 (balC c).2.1, .bool (balC c).2.2]) ∧ Below w.heap.size w w' := by
  have HN0 := Lib.hid hc.1.1
  have HM0 := Lib.hid hc.2.1
  have HX := Blk.new w (ctB c A n cap B m cm)
  have HB := (Below.refl w.heap.size w).alloc (Nat.le_refl _) (ctB c A n cap B m cm)
  have HC := hc.below HB
  obtain ⟨W, hW⟩ : ∃ W, w.alloc (ctB c A n cap B m cm) = W := ⟨_, rfl⟩
  rw [hW] at HX HB HC
  have HHX := Lib.hid HX; clear HX
  have HHB := Lib.hid HB; clear HB
  have HHC := Lib.hid HC; clear HC
  clear hc
  have q := refright9_any c A B n cap m cm W HHC.out
  have HR : Hid (rightC c = decide (RightC c)) := rfl
  go_enter Try.func21, Try.ntmps21
  go_upto_region 1 with fail
  try rw [hW]
  clear hW
  have z0 := Blk.cell HHX.out 0
  have z1 := Blk.cell HHX.out 1
  have z2 := Blk.cell HHX.out 2
  simp only [List.getElem?_toArray, List.getElem?_cons_zero, List.getElem?_cons_succ] at z0 z1 z2
  go_wp2_with fail
  ((with_reducible refine q.mono ?_); rintro e V1 ⟨rfl, b1⟩)
  have HBW := Lib.hid b1; clear b1 q z0 z1 z2
  cases hr : rightC c with
  | false =>
    have HBAL : Hid (balC c = (0, 0, false)) := by show _ = _; unfold balC; rw [if_pos (by rw [HR.out] at hr; simpa using hr)]
    go_wp2_with fail
    go_ret3
    exact ⟨by rw [HBAL.out]; rfl, bch HHB.out HBW.out⟩
  | true =>
    have hrc : RightC c := by rw [HR.out] at hr; simpa using hr
    clear hr HR
    have HML : Hid (0 < c.mem.length ∧ c.pl.length ≤ 8) := ⟨hrc.2.1.1, hrc.2.2.1.2⟩
    have hn0 : 0 < n := by have := HN0.out; have := HML.out; omega
    have hm8 : m ≤ 8 := by have := HM0.out; have := HML.out; omega
    obtain ⟨MOST, hMO⟩ : ∃ x, x = mostL (loadC c.pl) c.mem.tail (c.mem.headD (0, 0)).1 := ⟨_, rfl⟩
    obtain ⟨LEAST, hLE⟩ : ∃ x, x = leastL (loadC c.pl) c.mem.tail (c.mem.headD (0, 0)).1 := ⟨_, rfl⟩
    have HBAL : Hid (balC c = if loadC c.pl MOST < loadC c.pl LEAST + 2 then (0, 0, false) else match c.pl.findIdx? (freeP MOST) with | some i => ((i : Int), LEAST, true) | none => (0, 0, false)) := by
      show _ = _; rw [hMO, hLE]; unfold balC; rw [if_neg (fun e => e hrc)]; rfl
    have hhd : c.mem.headD (0, 0) = atM9 c.mem 0 := by unfold atM9; cases c.mem <;> rfl
    rw [hhd, ← List.drop_one] at hMO hLE
    have HMO := Lib.hid hMO; clear hMO
    have HLE := Lib.hid hLE; clear hLE hhd hrc
    obtain ⟨f, hf⟩ : ∃ f, loadC c.pl = f := ⟨_, rfl⟩
    have HF := Lib.hid hf
    rw [hf] at HMO HLE HBAL
    clear hf
    have HKP : Hid (∀ V V' : World, (V.cell? ⟨w.heap.size, 0, none⟩ = some (.int .i64 c.level) ∧ V.cell? ⟨w.heap.size, 1, none⟩ = some (.slice A n cap) ∧ V.cell? ⟨w.heap.size, 2, none⟩ = some (.slice B m cm) ∧ Below W.heap.size W V) → Below V.heap.size V V' → (V'.cell? ⟨w.heap.size, 0, none⟩ = some (.int .i64 c.level) ∧ V'.cell? ⟨w.heap.size, 1, none⟩ = some (.slice A n cap) ∧ V'.cell? ⟨w.heap.size, 2, none⟩ = some (.slice B m cm) ∧ Below W.heap.size W V')) := by
      rintro V V' ⟨h0, h1, h2, hb⟩ hb2
      have hx := Blk.below HHX.out (bch hb hb2)
      have c0 := Blk.cell hx 0
      have c1 := Blk.cell hx 1
      have c2 := Blk.cell hx 2
      simp only [List.getElem?_toArray, List.getElem?_cons_zero, List.getElem?_cons_succ] at c0 c1 c2
      exact ⟨c0, c1, c2, bch hb hb2⟩
    have HLD : Hid (∀ (x : Int) (V : World), (V.cell? ⟨w.heap.size, 0, none⟩ = some (.int .i64 c.level) ∧ V.cell? ⟨w.heap.size, 1, none⟩ = some (.slice A n cap) ∧ V.cell? ⟨w.heap.size, 2, none⟩ = some (.slice B m cm) ∧ Below W.heap.size W V) →
        Calls Try.prog 52 #[ctV c A n cap B m cm, .int .i64 x] V fun e w' => e = .returned (.int .i64 (f x : Nat)) ∧ Below V.heap.size V w') := by
      rintro x V ⟨_, _, _, hb⟩
      have q := refload9_any c A B n cap m cm x V (HHC.out.below hb).2 (by omega)
      rw [HF.out] at q
      exact q
    have HFL : Hid (∀ x, f x ≤ 8) := fun x => by rw [← HF.out]; exact Nat.le_trans (loadC_le _ _) HML.out.2
    have hx := Blk.below HHX.out HBW.out
    have z1 := Blk.cell hx 1
    simp only [List.getElem?_toArray, List.getElem?_cons_zero, List.getElem?_cons_succ] at z1
    clear hx
    obtain ⟨b, off, hA, hb, y0, y1⟩ := is2_at (HHC.out.1.below HBW.out) (atM9_get HML.out.1)
    subst hA
    generalize atM9 c.mem 0 = p0 at *
    obtain ⟨n0, b0⟩ := p0
    simp only [Nat.zero_mul, Nat.add_zero] at y0 y1
    go_wp2_with fail
    go_loopw [6, 7, 8] (fun a d i wr => ∃ k : Nat, 1 ≤ k ∧ k ≤ n ∧ i = .int .i64 k ∧ ∃ x y : Int, a = .int .i64 x ∧ d = .int .i64 y ∧ Hid (mostL f (c.mem.drop k) x = MOST ∧ leastL f (c.mem.drop k) y = LEAST) ∧ Hid (Below W.heap.size W wr)) (fun _ _ i _ => n - (intOf i).toNat)
    case atStart => exact ⟨1, Nat.le_refl _, by omega, rfl, n0, n0, rfl, rfl, ⟨HMO.out.symm, HLE.out.symm⟩, HBW.out⟩
    case round =>
      clear HBW HMO HLE z1 y0 y1 hb
      obtain ⟨k, hk1, hk, rfl, x, y, rfl, rfl, HXY, HBW⟩ := hrel
      have hx := Blk.below HHX.out HBW.out
      have z1 := Blk.cell hx 1
      simp only [List.getElem?_toArray, List.getElem?_cons_zero, List.getElem?_cons_succ] at z1
      clear hx
      by_cases hlt : k < n
      · have HK : Hid (k < c.mem.length) := by show k < _; rw [← HN0.out]; exact hlt
        obtain ⟨b2, off2, hA, hb, y0, y1⟩ := is2_at (HHC.out.1.below HBW.out) (atM9_get HK.out)
        obtain ⟨rfl, rfl⟩ : b = b2 ∧ off = off2 := by simpa using hA
        clear hA
        have hdr : c.mem.drop k = atM9 c.mem k :: c.mem.drop (k + 1) := drop_oneJ HK.out
        have hma := HXY.out.1
        have hle := HXY.out.2
        rw [hdr, most_cons] at hma
        rw [hdr, least_cons] at hle
        generalize atM9 c.mem k = pk at *
        obtain ⟨nm, nb⟩ := pk
        simp only at y0 y1 hma hle
        have HMA := Lib.hid hma; have HLE := Lib.hid hle; clear hma hle hdr HXY y1
        go_upto_region 10 with fail
        have hs3 : ∀ V, V = wr.drew → (V.cell? ⟨w.heap.size, 0, none⟩ = some (.int .i64 c.level) ∧ V.cell? ⟨w.heap.size, 1, none⟩ = some (.slice (some ⟨b, off, none⟩) n cap) ∧ V.cell? ⟨w.heap.size, 2, none⟩ = some (.slice B m cm) ∧ Below W.heap.size W V) := by
          rintro V rfl
          have hx := Blk.below HHX.out HBW.out
          have c0 := Blk.cell hx 0
          have c1 := Blk.cell hx 1
          have c2 := Blk.cell hx 2
          simp only [List.getElem?_toArray, List.getElem?_cons_zero, List.getElem?_cons_succ] at c0 c1 c2
          exact ⟨c0, c1, c2, HBW.out.drew⟩
        have HS3 := Lib.hid hs3; clear hs3
        clear HBW z1 y0 hb
        go_region_held3 (fun V => V.cell? ⟨w.heap.size, 0, none⟩ = some (.int .i64 c.level) ∧ V.cell? ⟨w.heap.size, 1, none⟩ = some (.slice (some ⟨b, off, none⟩) n cap) ∧ V.cell? ⟨w.heap.size, 2, none⟩ = some (.slice B m cm) ∧ Below W.heap.size W V) (first | exact HS3.out _ rfl | exact HKP.out _ _ (by assumption) (by assumption)) (first | ((with_reducible refine ((HLD.out _ _ (by assumption)).mono ?_)); rintro e w' ⟨rfl, bq⟩))
        rename_i hH
        clear HS3
        have HBW := Lib.hid hH.2.2.2; clear hH
        have HSTEP : Hid ((f x < f nm → mostL f (c.mem.drop (k + 1)) nm = MOST) ∧ (¬ f x < f nm → mostL f (c.mem.drop (k + 1)) x = MOST) ∧ (f nm < f y → leastL f (c.mem.drop (k + 1)) nm = LEAST) ∧ (¬ f nm < f y → leastL f (c.mem.drop (k + 1)) y = LEAST)) := by
          refine ⟨fun h => ?_, fun h => ?_, fun h => ?_, fun h => ?_⟩
          · have := HMA.out; rwa [if_pos h] at this
          · have := HMA.out; rwa [if_neg h] at this
          · have := HLE.out; rwa [if_pos h] at this
          · have := HLE.out; rwa [if_neg h] at this
        clear HMA HLE
        go_upto_if 40 with fail
        go_cut [6] (fun s wx => ∃ x2 : Int, s = .int .i64 x2 ∧ Hid (mostL f (c.mem.drop (k + 1)) x2 = MOST) ∧ wx = w')
        case first =>
          by_cases g1 : f x < f nm
          · have d1 : decide ((f x : Int) < (f nm : Int)) = true := decide_eq_true (by omega)
            have d1n : decide (f x < f nm) = true := decide_eq_true g1
            have HR1 : Hid (mostL f (c.mem.drop (k + 1)) nm = MOST) := HSTEP.out.1 g1
            go_wp2_with fail
            go_meet
            exact ⟨nm, rfl, HR1.out, rfl⟩
          · have d1 : decide ((f x : Int) < (f nm : Int)) = false := decide_eq_false (by omega)
            have d1n : decide (f x < f nm) = false := decide_eq_false g1
            have HR1 : Hid (mostL f (c.mem.drop (k + 1)) x = MOST) := HSTEP.out.2.1 g1
            go_wp2_with fail
            go_meet
            exact ⟨x, rfl, HR1.out, rfl⟩
        case rest =>
          obtain ⟨x2, rfl, HR1, hwc⟩ := hcut
          rw [← hwc] at HBW
          clear hwc
          go_upto_region 12 with fail
          have hs3 : ∀ V, V = wc.drew → (V.cell? ⟨w.heap.size, 0, none⟩ = some (.int .i64 c.level) ∧ V.cell? ⟨w.heap.size, 1, none⟩ = some (.slice (some ⟨b, off, none⟩) n cap) ∧ V.cell? ⟨w.heap.size, 2, none⟩ = some (.slice B m cm) ∧ Below W.heap.size W V) := by
            rintro V rfl
            have hx := Blk.below HHX.out HBW.out
            have c0 := Blk.cell hx 0
            have c1 := Blk.cell hx 1
            have c2 := Blk.cell hx 2
            simp only [List.getElem?_toArray, List.getElem?_cons_zero, List.getElem?_cons_succ] at c0 c1 c2
            exact ⟨c0, c1, c2, HBW.out.drew⟩
          have HS3 := Lib.hid hs3; clear hs3
          clear HBW
          go_region_held3 (fun V => V.cell? ⟨w.heap.size, 0, none⟩ = some (.int .i64 c.level) ∧ V.cell? ⟨w.heap.size, 1, none⟩ = some (.slice (some ⟨b, off, none⟩) n cap) ∧ V.cell? ⟨w.heap.size, 2, none⟩ = some (.slice B m cm) ∧ Below W.heap.size W V) (first | exact HS3.out _ rfl | exact HKP.out _ _ (by assumption) (by assumption)) (first | ((with_reducible refine ((HLD.out _ _ (by assumption)).mono ?_)); rintro e w' ⟨rfl, bq⟩))
          rename_i hH
          clear HS3
          have HBW := Lib.hid hH.2.2.2; clear hH
          by_cases g2 : f nm < f y
          · have d1 : decide ((f nm : Int) < (f y : Int)) = true := decide_eq_true (by omega)
            have d1n : decide (f nm < f y) = true := decide_eq_true g2
            have HR2 : Hid (leastL f (c.mem.drop (k + 1)) nm = LEAST) := HSTEP.out.2.2.1 g2
            go_wp2_with fail
            go_roundw
            case rel => exact ⟨k + 1, by omega, by omega, by go_num, x2, nm, rfl, rfl, ⟨HR1.out, HR2.out⟩, HBW.out⟩
            case measure => simp [intOf]; omega
          · have d1 : decide ((f nm : Int) < (f y : Int)) = false := decide_eq_false (by omega)
            have d1n : decide (f nm < f y) = false := decide_eq_false g2
            have HR2 : Hid (leastL f (c.mem.drop (k + 1)) y = LEAST) := HSTEP.out.2.2.2 g2
            go_wp2_with fail
            go_roundw
            case rel => exact ⟨k + 1, by omega, by omega, by go_num, x2, y, rfl, rfl, ⟨HR1.out, HR2.out⟩, HBW.out⟩
            case measure => simp [intOf]; omega
      · have hke : k = n := by omega
        subst hke
        have hnil : c.mem.drop k = [] := by rw [HN0.out]; exact List.drop_length
        have hxy := HXY.out
        rw [hnil] at hxy
        obtain ⟨rfl, rfl⟩ : x = MOST ∧ y = LEAST := hxy
        clear hnil HXY
        have HFM := HFL.out x
        have HFY := HFL.out y
        have HLX : Hid (∀ (V : World), (V.cell? ⟨w.heap.size, 0, none⟩ = some (.int .i64 c.level) ∧ V.cell? ⟨w.heap.size, 1, none⟩ = some (.slice (some ⟨b, off, none⟩) k cap) ∧ V.cell? ⟨w.heap.size, 2, none⟩ = some (.slice B m cm) ∧ Below W.heap.size W V) →
            Calls Try.prog 52 #[ctV c (some ⟨b, off, none⟩) k cap B m cm, .int .i64 x] V fun e w' => e = .returned (.int .i64 (f x : Nat)) ∧ Below V.heap.size V w') := HLD.out x
        have HLY : Hid (∀ (V : World), (V.cell? ⟨w.heap.size, 0, none⟩ = some (.int .i64 c.level) ∧ V.cell? ⟨w.heap.size, 1, none⟩ = some (.slice (some ⟨b, off, none⟩) k cap) ∧ V.cell? ⟨w.heap.size, 2, none⟩ = some (.slice B m cm) ∧ Below W.heap.size W V) →
            Calls Try.prog 52 #[ctV c (some ⟨b, off, none⟩) k cap B m cm, .int .i64 y] V fun e w' => e = .returned (.int .i64 (f y : Nat)) ∧ Below V.heap.size V w') := HLD.out y
        clear HLD HFL HF
        generalize f x = fx at *
        generalize f y = fy at *
        go_wp2_with fail
        go_loopw [10] (fun i wr => ∃ q : Nat, q ≤ m ∧ i = .int .i64 q ∧ Hid (∀ j, j < q → freeP x (atP9 c.pl j) = false) ∧ Hid (Below W.heap.size W wr)) (fun i _ => m - (intOf i).toNat)
        case atStart => exact ⟨0, Nat.zero_le _, rfl, fun j hj => absurd hj (Nat.not_lt_zero _), HBW.out⟩
        case round =>
          clear HBW z1
          obtain ⟨q, hq, rfl, HQ, HBW⟩ := hrel
          by_cases hql : q < m
          · have HK : Hid (q < c.pl.length) := by show q < _; rw [← HM0.out]; exact hql
            obtain ⟨b3, off3, hB, hb3, y0, y1, y2⟩ := is3_at (HHC.out.2.below HBW.out) (atP9_get HK.out)
            subst hB
            have hqi : (q : Int) < (m : Int) := by omega
            have hqd : decide ((q : Int) < (m : Int)) = true := decide_eq_true hqi
            have hqn : decide (q < m) = true := decide_eq_true hql
            go_upto_region 15 with fail
            have hs3 : ∀ V, V = wr.drew → (V.cell? ⟨w.heap.size, 0, none⟩ = some (.int .i64 c.level) ∧ V.cell? ⟨w.heap.size, 1, none⟩ = some (.slice (some ⟨b, off, none⟩) k cap) ∧ V.cell? ⟨w.heap.size, 2, none⟩ = some (.slice (some ⟨b3, off3, none⟩) m cm) ∧ Below W.heap.size W V) := by
              rintro V rfl
              have hx := Blk.below HHX.out HBW.out
              have c0 := Blk.cell hx 0
              have c1 := Blk.cell hx 1
              have c2 := Blk.cell hx 2
              simp only [List.getElem?_toArray, List.getElem?_cons_zero, List.getElem?_cons_succ] at c0 c1 c2
              exact ⟨c0, c1, c2, HBW.out.drew⟩
            have HS3 := Lib.hid hs3; clear hs3
            clear HBW y0 y1 y2 hb3
            go_region_held3 (fun V => V.cell? ⟨w.heap.size, 0, none⟩ = some (.int .i64 c.level) ∧ V.cell? ⟨w.heap.size, 1, none⟩ = some (.slice (some ⟨b, off, none⟩) k cap) ∧ V.cell? ⟨w.heap.size, 2, none⟩ = some (.slice (some ⟨b3, off3, none⟩) m cm) ∧ Below W.heap.size W V) (first | exact HS3.out _ rfl | exact HKP.out _ _ (by assumption) (by assumption)) (first | ((with_reducible refine ((HLX.out _ (by assumption)).mono ?_)); rintro e w' ⟨rfl, bq⟩) | ((with_reducible refine ((HLY.out _ (by assumption)).mono ?_)); rintro e w' ⟨rfl, bq⟩))
            rename_i hH
            clear HS3
            have HBW := Lib.hid hH.2.2.2; clear hH
            have hx := Blk.below HHX.out HBW.out
            have z2 := Blk.cell hx 2
            simp only [List.getElem?_toArray, List.getElem?_cons_zero, List.getElem?_cons_succ] at z2
            clear hx
            obtain ⟨b4, off4, hB, hb4, y0, y1, y2⟩ := is3_at (HHC.out.2.below HBW.out) (atP9_get HK.out)
            obtain ⟨rfl, rfl⟩ : b3 = b4 ∧ off3 = off4 := by simpa using hB
            have HFR : Hid (freeP x (atP9 c.pl q) = ((atP9 c.pl q).1 == x && (atP9 c.pl q).2.2 == 0)) := rfl
            have HNX : Hid (freeP x (atP9 c.pl q) = false → ∀ j, j < q + 1 → freeP x (atP9 c.pl j) = false) := fun h j hj => by
              rcases Nat.lt_succ_iff_lt_or_eq.1 hj with h2 | rfl
              · exact HQ.out j h2
              · exact h
            have HFD : Hid (freeP x (atP9 c.pl q) = true → ¬ fx < fy + 2 → balC c = ((q : Int), y, true)) := fun h h2 => by
              show _ = _
              rw [HBAL.out, if_neg h2, find_at HK.out h HQ.out]
            generalize atP9 c.pl q = pq at *
            obtain ⟨ow, ep, tz⟩ := pq
            simp only at y0 y1 y2 HFR
            clear hB hb4
            have hw1 : IntKind.i64.wrap ((fx : Int) - (fy : Int)) = (fx : Int) - (fy : Int) := IntWalk.i64_in _ (by omega)
            by_cases g1 : fx < fy + 2
            · have d1 : decide ((2 : Int) ≤ (fx : Int) - (fy : Int)) = false := decide_eq_false (by omega)
              have HBAL2 : Hid (balC c = (0, 0, false)) := by show _ = _; rw [HBAL.out, if_pos g1]
              clear HBAL HFD HNX HFR
              have HBAL := HBAL2; clear HBAL2
              go_wp2_with fail
              go_ret3
              exact ⟨by rw [HBAL.out]; rfl, bch HHB.out HBW.out⟩
            · have d1 : decide ((2 : Int) ≤ (fx : Int) - (fy : Int)) = true := decide_eq_true (by omega)
              by_cases g2 : ow = x
              · have e2 : (ow == x) = true := by simpa using g2
                by_cases g3 : tz = 0
                · have e3 : (tz == 0) = true := by simpa using g3
                  have HBAL2 : Hid (balC c = ((q : Int), y, true)) := HFD.out (by rw [HFR.out, e2, e3]; rfl) g1
                  clear HBAL HFD HNX HFR g2 g3
                  have HBAL := HBAL2; clear HBAL2
                  go_wp2_with fail
                  go_ret3
                  exact ⟨by rw [HBAL.out]; rfl, bch HHB.out HBW.out⟩
                · have e3 : (tz == 0) = false := by simpa using g3
                  have HQ2 := Lib.hid (HNX.out (by rw [HFR.out, e3]; simp))
                  clear HFD HNX HFR g2 g3
                  go_wp2_with fail
                  go_roundw
                  case rel => exact ⟨q + 1, by omega, by go_num, HQ2.out, HBW.out⟩
                  case measure => simp [intOf]; omega
              · have e2 : (ow == x) = false := by simpa using g2
                have HQ2 := Lib.hid (HNX.out (by rw [HFR.out, e2]; rfl))
                clear HFD HNX HFR g2
                go_wp2_with fail
                go_roundw
                case rel => exact ⟨q + 1, by omega, by go_num, HQ2.out, HBW.out⟩
                case measure => simp [intOf]; omega
          · have HBAL2 : Hid (balC c = (0, 0, false)) := by
              show _ = _
              rw [HBAL.out]
              split
              · rfl
              · rw [find_no (fun j hj => HQ.out j (by have := HM0.out; omega))]
            clear HBAL
            have HBAL := HBAL2; clear HBAL2
            have hqd : decide ((q : Int) < (m : Int)) = false := decide_eq_false (by omega)
            have hqn : decide (q < m) = false := decide_eq_false hql
            have hx := Blk.below HHX.out HBW.out
            have z2 := Blk.cell hx 2
            simp only [List.getElem?_toArray, List.getElem?_cons_zero, List.getElem?_cons_succ] at z2
            clear hx
            go_upto_region 15 with fail
            go_quiet (fail)
            go_wp2_with fail
            go_ret3
            exact ⟨by rw [HBAL.out]; rfl, bdn (bch HHB.out HBW.out) _⟩
end Go.Proofs.Ytndkmepdnekigaa
