import Derived.Test.YtndkmepdnekigaaCtRef
import Derived.Test.YtndkmepdnekigaaCtRightB
/-
  The contract of the document's own Right of controllers (stage 18).
-/
namespace Go.Proofs.Ytndkmepdnekigaa
open Go.RowKit
set_option linter.unusedVariables false

theorem ba9 (w : World) (o : Obj) : Below w.heap.size w (w.alloc o) := (Below.refl _ _).alloc (Nat.le_refl _) o
set_option maxRecDepth 100000 in
set_option maxHeartbeats 8000000 in
theorem refright9_any (c : CtR) (A B : Option Addr) (n cap m cm : Nat) (w : World) (hc : IsCt w c A n B m) :
    Calls Try.prog 17 #[ctV c A n cap B m cm] w fun e w' => e = .returned (.bool (rightC c)) ∧ Below w.heap.size w w' := by
  have hn := hc.1.1
  have hm := hc.2.1
  have hnm := hc.1.2.1
  have hmm := hc.2.2.1
  unfold maxLen at hnm hmm
  have HX := Blk.new w (ctB c A n cap B m cm)
  have HB := (Below.refl w.heap.size w).alloc (Nat.le_refl _) (ctB c A n cap B m cm)
  have HC := hc.below HB
  obtain ⟨W, hW⟩ : ∃ W, w.alloc (ctB c A n cap B m cm) = W := ⟨_, rfl⟩
  rw [hW] at HX HB HC
  have HHX := Lib.hid HX; clear HX
  have HHB := Lib.hid HB; clear HB
  have HHC := Lib.hid HC; clear HC
  clear hc
  have HN := Lib.hid hn; clear hn
  have HM := Lib.hid hm; clear hm
  have HYES : Hid (RightC c → rightC c = true) := fun h => decide_eq_true h
  have HNO : Hid (¬ RightC c → rightC c = false) := fun h => decide_eq_false h
  have HIFF := Lib.hid (rightC_iff (c := c))
  generalize RightC c = RP at *
  generalize rightC c = R at *
  obtain ⟨lv, ml, pl⟩ := c
  simp only at HIFF HHC HN HM
  have b0 := HHB
  have z0 := Blk.cell HHX.out 0
  have z1 := Blk.cell HHX.out 1
  have z2 := Blk.cell HHX.out 2
  simp only [List.getElem?_toArray, List.getElem?_cons_zero, List.getElem?_cons_succ] at z0 z1 z2
  have HBB := HHB
  by_cases h1 : ¬ (lv = 1 ∨ lv = 2)
  · have HE : Hid (R = false) := HNO.out (fun h => h1 (HIFF.out.1 h).1)
    have e1 : (lv != 1) = true := by simp; omega
    have e2 : (lv != 2) = true := by simp; omega
    clear h1
    go_enter Try.func17, Try.ntmps17
    go_upto_region 1 with fail
    try rw [hW]
    go_wp2_with fail
    go_ret
    exact ⟨ret_bool HE.out.symm, HBB.out⟩
  by_cases h2 : n < 1
  · have HE : Hid (R = false) := HNO.out (fun h => by have := (HIFF.out.1 h).2.1; have := HN.out; have := HM.out; omega)
    rcases (by omega : lv = 1 ∨ lv = 2) with rfl | rfl
    · go_enter Try.func17, Try.ntmps17
      go_upto_region 1 with fail
      try rw [hW]
      go_wp2_with fail
      go_ret
      exact ⟨ret_bool HE.out.symm, HBB.out⟩
    · go_enter Try.func17, Try.ntmps17
      go_upto_region 1 with fail
      try rw [hW]
      go_wp2_with fail
      go_ret
      exact ⟨ret_bool HE.out.symm, HBB.out⟩
  by_cases h3 : 8 < n
  · have HE : Hid (R = false) := HNO.out (fun h => by have := (HIFF.out.1 h).2.1; have := HN.out; have := HM.out; omega)
    rcases (by omega : lv = 1 ∨ lv = 2) with rfl | rfl
    · go_enter Try.func17, Try.ntmps17
      go_upto_region 1 with fail
      try rw [hW]
      go_wp2_with fail
      go_ret
      exact ⟨ret_bool HE.out.symm, HBB.out⟩
    · go_enter Try.func17, Try.ntmps17
      go_upto_region 1 with fail
      try rw [hW]
      go_wp2_with fail
      go_ret
      exact ⟨ret_bool HE.out.symm, HBB.out⟩
  by_cases h4 : m < 1
  · have HE : Hid (R = false) := HNO.out (fun h => by have := (HIFF.out.1 h).2.2.1; have := HN.out; have := HM.out; omega)
    rcases (by omega : lv = 1 ∨ lv = 2) with rfl | rfl
    · go_enter Try.func17, Try.ntmps17
      go_upto_region 1 with fail
      try rw [hW]
      go_wp2_with fail
      go_ret
      exact ⟨ret_bool HE.out.symm, HBB.out⟩
    · go_enter Try.func17, Try.ntmps17
      go_upto_region 1 with fail
      try rw [hW]
      go_wp2_with fail
      go_ret
      exact ⟨ret_bool HE.out.symm, HBB.out⟩
  by_cases h5 : 8 < m
  · have HE : Hid (R = false) := HNO.out (fun h => by have := (HIFF.out.1 h).2.2.1; have := HN.out; have := HM.out; omega)
    rcases (by omega : lv = 1 ∨ lv = 2) with rfl | rfl
    · go_enter Try.func17, Try.ntmps17
      go_upto_region 1 with fail
      try rw [hW]
      go_wp2_with fail
      go_ret
      exact ⟨ret_bool HE.out.symm, HBB.out⟩
    · go_enter Try.func17, Try.ntmps17
      go_upto_region 1 with fail
      try rw [hW]
      go_wp2_with fail
      go_ret
      exact ⟨ret_bool HE.out.symm, HBB.out⟩
  have hlv : lv = 1 ∨ lv = 2 := Classical.byContradiction h1
  go_enter Try.func17, Try.ntmps17
  go_upto_region 1 with fail
  try rw [hW]
  clear hW
  go_cut [39] (fun s wx => s = .bool false ∧ wx = W)
  case first =>
    have a1 : ¬ ((n : Int) < 1) := by omega
    have a2 : ¬ (8 < (n : Int)) := by omega
    have a3 : ¬ ((m : Int) < 1) := by omega
    have a4 : ¬ (8 < (m : Int)) := by omega
    rcases hlv with rfl | rfl
    all_goals
      go_wp2_with fail
      go_meet
      exact ⟨by first | rfl | simp [a1, a2, a3, a4], rfl⟩
  case rest =>
    obtain ⟨rfl, rfl⟩ := hcut
    have HBASE : Hid ((lv = 1 ∨ lv = 2) ∧ (1 ≤ ml.length ∧ ml.length ≤ 8) ∧ (1 ≤ pl.length ∧ pl.length ≤ 8)) := ⟨hlv, by have := HN.out; omega, by have := HM.out; omega⟩
    clear z0 z1 z2 h1 hlv HBB b0
    have hnm2 : n ≤ 8 := by omega
    have hmm2 : m ≤ 8 := by omega
    clear hnm hmm h2 h3 h4 h5
    go_wp2_with fail
    go_loopw [3, 4] (fun la i wr => ∃ k : Nat, k ≤ n ∧ i = .int .i64 k ∧ la = .int .i64 (lastM ml k) ∧ Hid (Below wc.heap.size wc wr) ∧ Hid (∀ j, j < k → okM lv ml j)) (fun _ i _ => n - (intOf i).toNat)
    case atStart => exact ⟨0, by omega, rfl, rfl, Below.refl _ _, fun j hj => by omega⟩
    case round =>
      obtain ⟨k, hk, rfl, rfl, hbw, hok⟩ := hrel
      have z0 := Blk.cell (Blk.below HHX.out hbw.out) 0
      have z1 := Blk.cell (Blk.below HHX.out hbw.out) 1
      have z2 := Blk.cell (Blk.below HHX.out hbw.out) 2
      simp only [List.getElem?_toArray, List.getElem?_cons_zero, List.getElem?_cons_succ] at z0 z1 z2
      by_cases hlt : k < n
      · have HK : Hid (k < ml.length) := by show k < _; rw [← HN.out]; exact hlt
        obtain ⟨b, off, hA, hb, y0, y1⟩ := is2_at (HHC.out.1.below hbw.out) (atM9_get HK.out)
        subst hA
        have HBAD : Hid (¬ okM lv ml k → R = false) := fun h => HNO.out (fun h2 => h ((HIFF.out.1 h2).2.2.2.1 k HK.out))
        have HOKI : Hid (okM lv ml k ↔ lastM ml k < (atM9 ml k).1 ∧ (atM9 ml k).1 ≤ 100 ∧ binB lv (atM9 ml k).2 = true) := Iff.rfl
        have HNX : Hid (lastM ml (k + 1) = (atM9 ml k).1) := rfl
        generalize lastM ml k = la at *
        generalize atM9 ml k = z at *
        obtain ⟨mn, mb⟩ := z
        simp only at y0 y1
        go_upto_region 8 with fail
        have HM2 := Blk.new wr (.cells #[.int .i64 mn, .int .i64 mb] 45)
        have HX2 := Blk.below (Blk.below HHX.out hbw.out) (ba9 wr (.cells #[.int .i64 mn, .int .i64 mb] 45))
        have HB2 := hbw.out.alloc hbw.out.size (.cells #[.int .i64 mn, .int .i64 mb] 45)
        obtain ⟨W2, hW2⟩ : ∃ W, wr.alloc (.cells #[.int .i64 mn, .int .i64 mb] 45) = W := ⟨_, rfl⟩
        rw [hW2] at HM2 HX2 HB2
        rw [hW2]
        clear hW2 z0 z1 z2 y0 y1
        have x0 := Blk.cell HM2 0
        have x1 := Blk.cell HM2 1
        have z0 := Blk.cell HX2 0
        simp only [List.getElem?_toArray, List.getElem?_cons_zero, List.getElem?_cons_succ] at x0 x1 z0
        have HBB := Lib.hid (bch HHB.out HB2)
        have HB2' := Lib.hid HB2
        clear HM2 HX2 HB2
        by_cases g1 : mn ≤ la
        · have HE : Hid (R = false) := HBAD.out (fun h => by have := (HOKI.out.1 h).1; omega)
          clear HBAD HOKI
          go_wp2_with fail
          go_ret
          exact ⟨ret_bool HE.out.symm, HBB.out⟩
        by_cases g2 : 100 < mn
        · have HE : Hid (R = false) := HBAD.out (fun h => by have := (HOKI.out.1 h).2.1; omega)
          clear HBAD HOKI
          go_wp2_with fail
          go_ret
          exact ⟨ret_bool HE.out.symm, HBB.out⟩
        have q := refbin_any lv mb W2
        cases hbin : binB lv mb with
        | false =>
          have HE : Hid (R = false) := HBAD.out (fun h => by have := (HOKI.out.1 h).2.2; rw [hbin] at this; cases this)
          rw [hbin] at q
          clear HBAD HOKI hbin
          go_wp2_with fail
          ((with_reducible refine q.mono ?_); rintro e V ⟨rfl, rfl⟩)
          go_wp2_with fail
          go_ret
          exact ⟨ret_bool HE.out.symm, HBB.out⟩
        | true =>
          have HOKN : Hid (∀ j, j < k + 1 → okM lv ml j) := fun j hj => by
            rcases Nat.lt_or_ge j k with h7 | h7
            · exact hok.out j h7
            · rw [show j = k by omega]; exact HOKI.out.2 ⟨by omega, by omega, hbin⟩
          rw [hbin] at q
          clear HBAD HOKI hbin
          go_wp2_with fail
          ((with_reducible refine q.mono ?_); rintro e V ⟨rfl, rfl⟩)
          go_wp2_with fail
          go_roundw
          case rel => exact ⟨k + 1, by omega, by go_num, by rw [HNX.out], HB2'.out, HOKN⟩
          case measure => simp [intOf]; omega
      · have hke : k = n := by omega
        subst hke
        obtain ⟨wo, rfl⟩ : ∃ x, x = wr := ⟨_, rfl⟩
        have HMEM : Hid (∀ j, j < ml.length → okM lv ml j) := fun j hj => hok.out j (by rw [HN.out]; exact hj)
        have HX3 := Lib.hid (Blk.below HHX.out hbw.out)
        have HC3 := Lib.hid (HHC.out.below hbw.out)
        have HB3 := Lib.hid (bch HHB.out hbw.out)
        go_wp2_with fail
        clear hok hbw HHX HHC HHB z0 z1 z2 hlt hk
        go_loopw [6] (fun i wr => ∃ q : Nat, q ≤ m ∧ i = .int .i64 q ∧ Hid (Below wo.heap.size wo wr) ∧ Hid (∀ j, j < q → PlOk ml (atP9 pl j))) (fun i _ => m - (intOf i).toNat)
        case atStart => exact ⟨0, by omega, rfl, Below.refl _ _, fun j hj => by omega⟩
        case round =>
          obtain ⟨q, hq, rfl, hbw, hok⟩ := hrel
          have z0 := Blk.cell (Blk.below HX3.out hbw.out) 0
          have z1 := Blk.cell (Blk.below HX3.out hbw.out) 1
          have z2 := Blk.cell (Blk.below HX3.out hbw.out) 2
          simp only [List.getElem?_toArray, List.getElem?_cons_zero, List.getElem?_cons_succ] at z0 z1 z2
          by_cases hlt : q < m
          · have HQ : Hid (q < pl.length) := by show q < _; rw [← HM.out]; exact hlt
            obtain ⟨b, off, hA, hb, y0, y1, y2⟩ := is3_at (HC3.out.2.below hbw.out) (atP9_get HQ.out)
            subst hA
            have HBAD : Hid (¬ PlOk ml (atP9 pl q) → R = false) := fun h => HNO.out (fun h2 => h ((HIFF.out.1 h2).2.2.2.2 q HQ.out))
            have HOKI : Hid (PlOk ml (atP9 pl q) ↔ ¬ memI ml (atP9 pl q).1 < 0 ∧ 1 ≤ (atP9 pl q).2.1 ∧ (atP9 pl q).2.1 ≤ 9007199254740992 ∧ ((atP9 pl q).2.2 = 0 ∨ (¬ memI ml (atP9 pl q).2.2 < 0 ∧ (atP9 pl q).2.2 ≠ (atP9 pl q).1))) := by
              show _ ↔ _
              unfold PlOk
              rw [memI_no, memI_no, Classical.not_not, Classical.not_not]
            have HQS : Hid (∀ j, j < q + 1 → PlOk ml (atP9 pl q) → PlOk ml (atP9 pl j)) := fun j hj he => by
              rcases Nat.lt_or_ge j q with h7 | h7
              · exact hok.out j h7
              · rw [show j = q by omega]; exact he
            generalize PlOk ml (atP9 pl q) = PK at *
            generalize atP9 pl q = z at *
            obtain ⟨ow, ep, tz⟩ := z
            simp only at y0 y1 y2 HOKI
            go_upto_region 15 with fail
            have HM2 := Blk.new wr (.cells #[.int .i64 ow, .int .i64 ep, .int .i64 tz] 48)
            have HX4 := Blk.below (Blk.below HX3.out hbw.out) (ba9 wr (.cells #[.int .i64 ow, .int .i64 ep, .int .i64 tz] 48))
            have HC4 := (HC3.out.below hbw.out).below (ba9 wr (.cells #[.int .i64 ow, .int .i64 ep, .int .i64 tz] 48))
            have HB4 := hbw.out.alloc hbw.out.size (.cells #[.int .i64 ow, .int .i64 ep, .int .i64 tz] 48)
            obtain ⟨W2, hW2⟩ : ∃ W, wr.alloc (.cells #[.int .i64 ow, .int .i64 ep, .int .i64 tz] 48) = W := ⟨_, rfl⟩
            rw [hW2] at HM2 HX4 HB4 HC4
            rw [hW2]
            clear hW2 z0 z1 z2 y0 y1 y2
            have x0 := Blk.cell HM2 0
            have x1 := Blk.cell HM2 1
            have x2 := Blk.cell HM2 2
            have z0 := Blk.cell HX4 0
            have z1 := Blk.cell HX4 1
            have z2 := Blk.cell HX4 2
            simp only [List.getElem?_toArray, List.getElem?_cons_zero, List.getElem?_cons_succ] at x0 x1 x2 z0 z1 z2
            have qm := fun x => refmember_any ⟨lv, ml, pl⟩ A (some ⟨b, off, none⟩) k cap m cm x W2 HC4.1
            simp only at qm
            have HM4 := Lib.hid HM2
            have HX5 := Lib.hid HX4
            have HC5 := Lib.hid HC4
            have HB5 := Lib.hid HB4
            clear HM2 HX4 HC4 HB4
            have q1 := qm ow
            generalize hmo : memI ml ow = mo at *
            by_cases g1 : mo < 0
            · have HE : Hid (R = false) := HBAD.out (fun h => (HOKI.out.1 h).1 g1)
              clear HBAD HOKI hmo
              go_wp2_with fail
              ((with_reducible refine q1.mono ?_); rintro e V ⟨rfl, b7⟩)
              have HBB := Lib.hid (bch HB3.out (bch HB5.out b7))
              go_wp2_with fail
              go_ret
              exact ⟨ret_bool HE.out.symm, HBB.out⟩
            have hmo0 : ¬ mo < 0 := g1
            go_wp2_with fail
            ((with_reducible refine q1.mono ?_); rintro e V ⟨rfl, b7⟩)
            clear x0 x1 x2 z0 z1 z2 q1
            have hv1 := Blk.below HM4.out b7
            have x0 := Blk.cell hv1 0
            have x1 := Blk.cell hv1 1
            have x2 := Blk.cell hv1 2
            have hv2 := Blk.below HX5.out b7
            have z0 := Blk.cell hv2 0
            have z1 := Blk.cell hv2 1
            have z2 := Blk.cell hv2 2
            simp only [List.getElem?_toArray, List.getElem?_cons_zero, List.getElem?_cons_succ] at x0 x1 x2 z0 z1 z2
            have HBV := Lib.hid (bch HB5.out b7)
            have HBB := Lib.hid (bch HB3.out HBV.out)
            have qt := refmember_any ⟨lv, ml, pl⟩ A (some ⟨b, off, none⟩) k cap m cm tz V (HC5.out.below b7).1
            have HV1 := Lib.hid hv1; clear hv1
            clear hv2 b7 qm
            by_cases g2 : ep < 1
            · have HE : Hid (R = false) := HBAD.out (fun h => by have := (HOKI.out.1 h).2.1; omega)
              clear HBAD HOKI hmo
              go_wp2_with fail
              go_ret
              exact ⟨ret_bool HE.out.symm, HBB.out⟩
            by_cases g3 : 9007199254740992 < ep
            · have HE : Hid (R = false) := HBAD.out (fun h => by have := (HOKI.out.1 h).2.2.1; omega)
              clear HBAD HOKI hmo
              go_wp2_with fail
              go_ret
              exact ⟨ret_bool HE.out.symm, HBB.out⟩
            by_cases g4 : tz = 0
            · have HNX : Hid (∀ j, j < q + 1 → PlOk ml (atP9 pl j)) := fun j hj => HQS.out j hj (HOKI.out.2 ⟨g1, by omega, by omega, .inl g4⟩)
              subst g4
              clear HBAD HOKI hmo HQS
              go_wp2_with fail
              go_roundw
              case rel => exact ⟨q + 1, by omega, by go_num, HBV.out, HNX⟩
              case measure => simp [intOf]; omega
            have e4 : (tz != 0) = true := by simpa using g4
            simp only at qt
            generalize hmt : memI ml tz = mt at *
            by_cases g5 : mt < 0
            · have HE : Hid (R = false) := HBAD.out (fun h => by have h9 := (HOKI.out.1 h).2.2.2; omega)
              clear HBAD HOKI hmo hmt g4
              go_wp2_with fail
              ((with_reducible refine qt.mono ?_); rintro e V2 ⟨rfl, b8⟩)
              have HBC := Lib.hid (bch HBB.out b8)
              go_wp2_with fail
              go_ret
              exact ⟨ret_bool HE.out.symm, HBC.out⟩
            by_cases g6 : tz = ow
            · have HE : Hid (R = false) := HBAD.out (fun h => by rcases (HOKI.out.1 h).2.2.2 with h8 | h8; exact g4 h8; exact h8.2 g6)
              subst g6
              clear HBAD HOKI hmo hmt g4
              go_wp2_with fail
              ((with_reducible refine qt.mono ?_); rintro e V2 ⟨rfl, b8⟩)
              have HBC := Lib.hid (bch HBB.out b8)
              clear x0 x1 x2 z0 z1 z2
              have hw1 := Blk.below HV1.out b8
              have x0 := Blk.cell hw1 0
              have x2 := Blk.cell hw1 2
              simp only [List.getElem?_toArray, List.getElem?_cons_zero, List.getElem?_cons_succ] at x0 x2
              go_wp2_with fail
              go_ret
              exact ⟨ret_bool HE.out.symm, HBC.out⟩
            · have HNX : Hid (∀ j, j < q + 1 → PlOk ml (atP9 pl j)) := fun j hj => HQS.out j hj (HOKI.out.2 ⟨g1, by omega, by omega, .inr ⟨by omega, g6⟩⟩)
              have e6 : (tz == ow) = false := by simpa using g6
              clear HBAD HOKI hmo hmt g4 HQS g6
              go_wp2_with fail
              ((with_reducible refine qt.mono ?_); rintro e V2 ⟨rfl, b8⟩)
              have HBC := Lib.hid (bch HBV.out b8)
              clear x0 x1 x2 z0 z1 z2
              have hw1 := Blk.below HV1.out b8
              have x0 := Blk.cell hw1 0
              have x2 := Blk.cell hw1 2
              simp only [List.getElem?_toArray, List.getElem?_cons_zero, List.getElem?_cons_succ] at x0 x2
              go_wp2_with fail
              go_roundw
              case rel => exact ⟨q + 1, by omega, by go_num, HBC.out, HNX⟩
              case measure => simp [intOf]; omega
          · have hqe : q = m := by omega
            subst hqe
            have HE : Hid (R = true) := HYES.out (HIFF.out.2 ⟨HBASE.out.1, HBASE.out.2.1, HBASE.out.2.2, HMEM.out, fun j hj => hok.out j (by rw [HM.out]; exact hj)⟩)
            have HBB := Lib.hid (bch HB3.out hbw.out)
            go_wp2_with fail
            go_ret
            exact ⟨ret_bool HE.out.symm, HBB.out⟩
end Go.Proofs.Ytndkmepdnekigaa
