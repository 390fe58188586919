import Derived.Test.YtcifcpggiifjeaaSesRef
/-
  The contracts of the document's own Stamp and Same of sessions (stage 10).
-/
namespace Go.Proofs.Ytcifcpggiifjeaa
open Go.RowKit
set_option linter.unusedVariables false

set_option maxRecDepth 100000 in
set_option maxHeartbeats 4000000 in
theorem refstampS_any (s : Sn) (A : Option Addr) (n cap : Nat) (w : World) (hw : SnWf s) (h : IsNs w A n s.ahead) (h100 : n ≤ 100) :
    Calls Try.prog 15 #[snV s (.slice A n cap)] w (SnPost w (stampS s).1 fun v => .tuple #[v, .int .i64 (stampS s).2.1, .int .i64 (stampS s).2.2]) := by
  obtain ⟨R, hR⟩ : ∃ R, stampS s = R := ⟨_, rfl⟩
  rw [hR]
  unfold stampS at hR
  have hm0 := SnBlk.new w s (.slice A n cap)
  have hb0 : Below w.heap.size w (w.alloc (.cells #[.int .i64 s.next, .int .i64 s.seen, .slice A n cap] 24)) := (Below.refl _ _).alloc (Nat.le_refl _) _
  have hs0 : (w.alloc (.cells #[.int .i64 s.next, .int .i64 s.seen, .slice A n cap] 24)).heap.size = w.heap.size + 1 := by simp
  have hr1 : SnBlk ((w.alloc (.cells #[.int .i64 s.next, .int .i64 s.seen, .slice A n cap] 24)).alloc (.cells #[.int .i64 0, .int .i64 0, .slice none 0 0] 24)) (w.heap.size + 1) zeroS (.slice none 0 0) := by
    have h := SnBlk.new (w.alloc (.cells #[.int .i64 s.next, .int .i64 s.seen, .slice A n cap] 24)) zeroS (.slice none 0 0)
    rw [hs0] at h
    exact h
  have hb1 : Below w.heap.size w ((w.alloc (.cells #[.int .i64 s.next, .int .i64 s.seen, .slice A n cap] 24)).alloc (.cells #[.int .i64 0, .int .i64 0, .slice none 0 0] 24)) := hb0.alloc hb0.size _
  have hm1 := hm0.below ((Below.refl _ _).alloc (Nat.le_refl _) (.cells #[.int .i64 0, .int .i64 0, .slice none 0 0] 24))
  have hs1 : w.heap.size + 1 < ((w.alloc (.cells #[.int .i64 s.next, .int .i64 s.seen, .slice A n cap] 24)).alloc (.cells #[.int .i64 0, .int .i64 0, .slice none 0 0] 24)).heap.size := by simp
  unfold snV
  obtain ⟨W1, hW1⟩ : ∃ W, (w.alloc (.cells #[.int .i64 s.next, .int .i64 s.seen, .slice A n cap] 24)).alloc (.cells #[.int .i64 0, .int .i64 0, .slice none 0 0] 24) = W := ⟨_, rfl⟩
  rw [hW1] at hr1 hb1 hm1 hs1
  have HNS := Lib.hid (h.below hb1)
  have HM1 := Lib.hid hm1; clear hm1 hm0
  have HR1 := Lib.hid hr1; clear hr1
  have HB1 := Lib.hid hb1; clear hb1 hb0
  have HS1 := Lib.hid hs1; clear hs1 hs0
  have q1 := refrightS_any s A n cap W1 hw HNS.out
  unfold snV at q1
  obtain ⟨c0, c1, c2⟩ := HM1.out.cells
  have hnb := wf_bounds hw.1
  clear h hw
  cases hr : rightS s with
  | false =>
    rw [if_pos (fun h => by rw [rightS_iff.2 h] at hr; cases hr)] at hR
    have HR := Lib.hid hR.symm
    rw [hr] at q1
    clear hR hr
    go_enter Try.func15, Try.ntmps15
    go_wp2_with fail
    ((with_reducible refine q1.mono ?_); rintro e W2 ⟨rfl, b2⟩)
    have HB2 := Lib.hid b2; clear b2
    clear c0 c1 c2 hW1
    obtain ⟨c0, c1, c2⟩ := (HM1.out.below HB2.out).cells
    go_wp2_with fail
    ((with_reducible refine (refownS_any s A n cap _ (HNS.out.below HB2.out) h100).mono ?_); rintro e W9 ⟨A9, n9, cap9, rfl, hcap9, hns9, hnew9, b9⟩)
    have HB9 := Lib.hid (bch (bch HB1.out HB2.out) b9)
    have HR9 := Lib.hid ((HR1.out.below HB2.out).below b9)
    have HS9 : W2.heap.size ≤ W2.heap.size := Nat.le_refl _
    have hsz2 : w.heap.size + 1 < W2.heap.size := by have := HS1.out; have := (HB2.out).size; omega
    clear c0 c1 c2
    simp only [id, snV]
    obtain ⟨z0, z1, z2⟩ := (HR9.out).cells
    simp only [zeroS] at z0 z1 z2
    have g0 := (HR9.out).frozen 0
    have g1 := (HR9.out).frozen 1
    have g2 := (HR9.out).frozen 2
    have hfin := (HR9.out).put s (.slice A9 n9 cap9)
    obtain ⟨e0, e1, e2⟩ := hfin.cells
    try simp only at e0 e1 e2
    have HFB := Lib.hid (below_sn3 (g := w.heap.size + 1) (HB9.out) (by omega) (.int .i64 (s).next) (.int .i64 (s).seen) (.slice A9 n9 cap9))
    have HFN := Lib.hid ((((hns9).set (g := w.heap.size + 1) (j := 0) (u := .int .i64 (s).next) (hnew9) (by omega)).set (g := w.heap.size + 1) (j := 1) (u := .int .i64 (s).seen) (hnew9) (by omega)).set (g := w.heap.size + 1) (j := 2) (u := (.slice A9 n9 cap9)) (hnew9) (by omega))
    have HFW := Lib.hid ((hnew9).mono (C := w.heap.size) (by omega))
    go_wp2_with fail
    refine bodyPost_ret (v := .tuple #[snV s (.slice A9 n9 cap9), .int .i64 0, .int .i64 1]) (by simp [snV, results, Try.results15, go_sem, e0, e1, e2]) rfl ⟨_, _, _, by rw [HR.out]; rfl, hcap9, by rw [HR.out]; exact HFN.out, HFW.out, HFB.out⟩
  | true =>
    have hrr := rightS_iff.1 hr
    rw [if_neg (fun h => h hrr)] at hR
    rw [hr] at q1
    by_cases hM : s.next = 9007199254740992
    · rw [if_pos hM] at hR
      have HR := Lib.hid hR.symm
      have eM : (s.next == 9007199254740992) = true := by simpa using hM
      clear hR hr hM hrr
      go_enter Try.func15, Try.ntmps15
      go_wp2_with fail
      ((with_reducible refine q1.mono ?_); rintro e W2 ⟨rfl, b2⟩)
      have HB2 := Lib.hid b2; clear b2
      clear c0 c1 c2 hW1
      obtain ⟨c0, c1, c2⟩ := (HM1.out.below HB2.out).cells
      go_wp2_with fail
      ((with_reducible refine (refownS_any s A n cap _ (HNS.out.below HB2.out) h100).mono ?_); rintro e W9 ⟨A9, n9, cap9, rfl, hcap9, hns9, hnew9, b9⟩)
      have HB9 := Lib.hid (bch (bch HB1.out HB2.out) b9)
      have HR9 := Lib.hid ((HR1.out.below HB2.out).below b9)
      have HS9 : W2.heap.size ≤ W2.heap.size := Nat.le_refl _
      have hsz2 : w.heap.size + 1 < W2.heap.size := by have := HS1.out; have := (HB2.out).size; omega
      clear c0 c1 c2
      simp only [id, snV]
      obtain ⟨z0, z1, z2⟩ := (HR9.out).cells
      simp only [zeroS] at z0 z1 z2
      have g0 := (HR9.out).frozen 0
      have g1 := (HR9.out).frozen 1
      have g2 := (HR9.out).frozen 2
      have hfin := (HR9.out).put s (.slice A9 n9 cap9)
      obtain ⟨e0, e1, e2⟩ := hfin.cells
      try simp only at e0 e1 e2
      have HFB := Lib.hid (below_sn3 (g := w.heap.size + 1) (HB9.out) (by omega) (.int .i64 (s).next) (.int .i64 (s).seen) (.slice A9 n9 cap9))
      have HFN := Lib.hid ((((hns9).set (g := w.heap.size + 1) (j := 0) (u := .int .i64 (s).next) (hnew9) (by omega)).set (g := w.heap.size + 1) (j := 1) (u := .int .i64 (s).seen) (hnew9) (by omega)).set (g := w.heap.size + 1) (j := 2) (u := (.slice A9 n9 cap9)) (hnew9) (by omega))
      have HFW := Lib.hid ((hnew9).mono (C := w.heap.size) (by omega))
      go_wp2_with fail
      refine bodyPost_ret (v := .tuple #[snV s (.slice A9 n9 cap9), .int .i64 0, .int .i64 50]) (by simp [snV, results, Try.results15, go_sem, e0, e1, e2]) rfl ⟨_, _, _, by rw [HR.out]; rfl, hcap9, by rw [HR.out]; exact HFN.out, HFW.out, HFB.out⟩
    · rw [if_neg hM] at hR
      have HR := Lib.hid hR.symm
      have eM : (s.next == 9007199254740992) = false := by simpa using hM
      have hn1 := hrr.1
      clear hR hr hM hrr
      go_enter Try.func15, Try.ntmps15
      go_wp2_with fail
      ((with_reducible refine q1.mono ?_); rintro e W2 ⟨rfl, b2⟩)
      have HB2 := Lib.hid b2; clear b2
      clear c0 c1 c2 hW1
      obtain ⟨c0, c1, c2⟩ := (HM1.out.below HB2.out).cells
      go_wp2_with fail
      ((with_reducible refine (refownS_any s A n cap _ (HNS.out.below HB2.out) h100).mono ?_); rintro e W9 ⟨A9, n9, cap9, rfl, hcap9, hns9, hnew9, b9⟩)
      have HB9 := Lib.hid (bch (bch HB1.out HB2.out) b9)
      have HR9 := Lib.hid ((HR1.out.below HB2.out).below b9)
      have HS9 : W2.heap.size ≤ W2.heap.size := Nat.le_refl _
      have hsz2 : w.heap.size + 1 < W2.heap.size := by have := HS1.out; have := (HB2.out).size; omega
      clear c0 c1 c2
      simp only [id, snV]
      go_upto_region 7 with fail
      have hm3 := SnBlk.new W9 s (.slice A9 n9 cap9)
      have hb3 : Below W9.heap.size W9 (W9.alloc (.cells #[.int .i64 s.next, .int .i64 s.seen, .slice A9 n9 cap9] 24)) := (Below.refl _ _).alloc (Nat.le_refl _) _
      obtain ⟨W3, hW3⟩ : ∃ W, W9.alloc (.cells #[.int .i64 s.next, .int .i64 s.seen, .slice A9 n9 cap9] 24) = W := ⟨_, rfl⟩
      rw [hW3] at hm3 hb3
      rw [hW3]
      clear hW3
      have hbox := ((HM1.out.below HB2.out).below b9).below hb3
      have hgt : w.heap.size + 1 < W9.heap.size := by have := b9.size; omega
      have HBOX := Lib.hid hbox; clear hbox
      have HRS := Lib.hid (HR9.out.below hb3)
      have HM3 := Lib.hid hm3; clear hm3
      have HB3 := Lib.hid hb3; clear hb3
      obtain ⟨c0, c1, c2⟩ := HM3.out.cells
      have f0 := HM3.out.frozen 0
      go_upto_region 8 with fail
      have hm4 := HM3.out.putNext (s.next + 1)
      have hx4 := HBOX.out.far (g := W9.heap.size) (by omega) 0 (.int .i64 (s.next + 1))
      have hr4 := HRS.out.far (g := W9.heap.size) (by omega) 0 (.int .i64 (s.next + 1))
      have hb4 := HB3.out.setCell (p := ⟨W9.heap.size, 0, none⟩) (Nat.le_refl _) (.int .i64 (s.next + 1))
      obtain ⟨W4, hW4⟩ : ∃ W, W3.setCell ⟨W9.heap.size, 0, none⟩ (.int .i64 (s.next + 1)) = W := ⟨_, rfl⟩
      rw [hW4] at hm4 hx4 hr4 hb4
      rw [hW4]
      clear hW4 c0 c1 c2 f0
      have hns4 := hns9.below hb4
      have hbf := bch HB9.out hb4
      have hnew4 := hnew9
      clear hb4 hns9 hnew9 HM3 HBOX HRS HB3 HM1 HR1 HB1 HNS HB2 HR9 HB9 b9
      generalize W9.heap.size = g3 at hm4 hgt ⊢
      have HRS := Lib.hid hr4; clear hr4
      have HM4 := Lib.hid hm4; clear hm4
      have HX4 := Lib.hid hx4; clear hx4
      refine wp_region_noPanic ?_
      refine wp_region_held_drew (S := (fun W => SnBlk W g3 ⟨s.next + 1, s.seen, s.ahead⟩ (.slice A9 n9 cap9) ∧ SnBlk W w.heap.size s (.slice A n cap) ∧ Below w.heap.size w W)) (by kernel_rfl) (⟨HM4.out.drew, HX4.out.drew, hbf.drew⟩) (fun hHeld => ?_)
      obtain ⟨W5, hW5⟩ : ∃ W, W4.drew = W := ⟨_, rfl⟩
      have hrs : SnBlk W5 (w.heap.size + 1) zeroS (.slice none 0 0) := by rw [← hW5]; exact HRS.out.drew
      have hns5 : IsNs W5 A9 n9 s.ahead := by rw [← hW5]; exact hns4
      rw [hW5] at hHeld ⊢
      clear hW5
      refine wpAnyH_take (i := 0) (v := ?_) rfl (by kernel_rfl) (by kernel_rfl) (by kernel_rfl) (fun _ _ _ h => h) (Or.inl ⟨by rfl, ?_⟩) (by assumption) ?_
      rotate_left
      · (intro w hSw; (try dsimp only at hSw); obtain ⟨x0, x1, x2⟩ := hSw.1.cells; try simp only at x0 x1 x2; go_simp; (try with_reducible rfl))
      simp only [Act.put, List.getElem_toArray, List.getElem_cons_zero, List.setIfInBounds_toArray, List.set_cons_zero, List.set_cons_succ]
      refine wpAnyH_take (i := 1) (v := ?_) rfl (by kernel_rfl) (by kernel_rfl) (by kernel_rfl) (fun _ _ _ h => h) (Or.inl ⟨by rfl, ?_⟩) (by assumption) ?_
      rotate_left
      · (intro w hSw; (try dsimp only at hSw); go_simp; (try with_reducible rfl))
      simp only [Act.put, List.getElem_toArray, List.getElem_cons_zero, List.getElem_cons_succ, List.setIfInBounds_toArray, List.set_cons_zero, List.set_cons_succ]
      refine wpAnyH_take (i := 2) (v := ?_) rfl (by kernel_rfl) (by kernel_rfl) (by kernel_rfl) (fun _ _ _ h => h) (Or.inl ⟨by rfl, ?_⟩) (by assumption) ?_
      rotate_left
      · (intro w hSw; (try dsimp only at hSw); obtain ⟨x0, x1, x2⟩ := hSw.2.1.cells; go_simp; (try with_reducible rfl))
      simp only [Act.put, List.getElem_toArray, List.getElem_cons_zero, List.getElem_cons_succ, List.setIfInBounds_toArray, List.set_cons_zero, List.set_cons_succ]
      obtain ⟨z0, z1, z2⟩ := hrs.cells
      simp only [zeroS] at z0 z1 z2
      have g0 := hrs.frozen 0
      have g1 := hrs.frozen 1
      have g2 := hrs.frozen 2
      have HRS5 := Lib.hid hrs; clear hrs
      refine wpAnyH_ready (rs := [3]) (by kernel_rfl) (by simp) ?_
      refine AllReadyH.cons rfl (fun K hK => ?_) AllReadyH.nil
      rw [if_pos (by rfl)]
      go_simp
      refine hK.out _ _ (⟨((hHeld.1.far (g := w.heap.size + 1) (by omega) _ _).far (by omega) _ _).far (by omega) _ _, ((hHeld.2.1.far (g := w.heap.size + 1) (by omega) _ _).far (by omega) _ _).far (by omega) _ _, below_sn3 hHeld.2.2 (by omega) _ _ _⟩) (fun hHeld2 => ?_)
      clear hK K hHeld
      have hHeld := hHeld2; clear hHeld2
      refine wpAnyH_take (i := 4) (v := ?_) rfl (by kernel_rfl) (by kernel_rfl) (by kernel_rfl) (fun _ _ _ h => h) (Or.inl ⟨by rfl, ?_⟩) (by assumption) ?_
      rotate_left
      · (intro w hSw; (try dsimp only at hSw); go_simp; (try with_reducible rfl))
      simp only [Act.put, List.getElem_toArray, List.getElem_cons_zero, List.getElem_cons_succ, List.setIfInBounds_toArray, List.set_cons_zero, List.set_cons_succ]
      refine wpAnyH_take (i := 5) (v := ?_) rfl (by kernel_rfl) (by kernel_rfl) (by kernel_rfl) (fun _ _ _ h => h) (Or.inl ⟨by rfl, ?_⟩) (by assumption) ?_
      rotate_left
      · (intro w hSw; (try dsimp only at hSw); go_simp; (try with_reducible rfl))
      simp only [Act.put, List.getElem_toArray, List.getElem_cons_zero, List.getElem_cons_succ, List.setIfInBounds_toArray, List.set_cons_zero, List.set_cons_succ]
      refine wpAnyH_done (by kernel_rfl) ?_ _
      refine NoPanic.normal ?_
      have hfin := HRS5.out.put ⟨s.next + 1, s.seen, s.ahead⟩ (.slice A9 n9 cap9)
      obtain ⟨e0, e1, e2⟩ := hfin.cells
      simp only at e0 e1 e2
      have hbe := hHeld.2.2
      have HFN := Lib.hid (((hns5.set (g := w.heap.size + 1) (j := 0) (u := .int .i64 (s.next + 1)) hnew4 (by omega)).set (g := w.heap.size + 1) (j := 1) (u := .int .i64 s.seen) hnew4 (by omega)).set (g := w.heap.size + 1) (j := 2) (u := .slice A9 n9 cap9) hnew4 (by omega))
      clear z0 z1 z2 hHeld hns5
      go_wp2_with fail
      refine bodyPost_ret (v := .tuple #[.agg #[.int .i64 (s.next + 1), .int .i64 s.seen, .slice A9 n9 cap9], .int .i64 s.next, .int .i64 0]) (by simp [results, Try.results15, go_sem, e0, e1, e2]) rfl ⟨_, _, _, by rw [HR.out]; rfl, hcap9, by rw [HR.out]; exact HFN.out, hnew4.mono (by omega), hbe⟩

set_option maxRecDepth 100000 in
set_option maxHeartbeats 4000000 in
theorem refsameS_any (a b : Sn) (A B : Option Addr) (n m cap cap2 : Nat) (w : World) (ha : IsNs w A n a.ahead) (hb : IsNs w B m b.ahead) :
    Calls Try.prog 13 #[snV a (.slice A n cap), snV b (.slice B m cap2)] w fun e w' => e = .returned (.bool (eqS a b)) ∧ Below w.heap.size w w' := by
  obtain ⟨an, as_, al⟩ := a
  obtain ⟨bn, bs_, bl⟩ := b
  simp only at *
  obtain ⟨R, hR⟩ : ∃ R, eqS ⟨an, as_, al⟩ ⟨bn, bs_, bl⟩ = R := ⟨_, rfl⟩
  rw [hR]
  have HNO : Hid (¬ (an = bn ∧ as_ = bs_ ∧ al = bl) → R = false) := fun h => by rw [← hR]; exact decide_eq_false h
  have HYES : Hid (an = bn ∧ as_ = bs_ ∧ al = bl → R = true) := fun h => by rw [← hR]; exact decide_eq_true h
  clear hR
  have hm0 := SnBlk.new w ⟨an, as_, al⟩ (.slice A n cap)
  simp only at hm0
  have hm1 := hm0.below ((Below.refl _ _).alloc (Nat.le_refl _) (.cells #[.int .i64 bn, .int .i64 bs_, .slice B m cap2] 24))
  have hs0 : (w.alloc (.cells #[.int .i64 an, .int .i64 as_, .slice A n cap] 24)).heap.size = w.heap.size + 1 := by simp
  have hn1 : SnBlk ((w.alloc (.cells #[.int .i64 an, .int .i64 as_, .slice A n cap] 24)).alloc (.cells #[.int .i64 bn, .int .i64 bs_, .slice B m cap2] 24)) (w.heap.size + 1) ⟨bn, bs_, bl⟩ (.slice B m cap2) := by
    have h := SnBlk.new (w.alloc (.cells #[.int .i64 an, .int .i64 as_, .slice A n cap] 24)) ⟨bn, bs_, bl⟩ (.slice B m cap2)
    rw [hs0] at h
    exact h
  have hb1 : Below w.heap.size w ((w.alloc (.cells #[.int .i64 an, .int .i64 as_, .slice A n cap] 24)).alloc (.cells #[.int .i64 bn, .int .i64 bs_, .slice B m cap2] 24)) := ((Below.refl _ _).alloc (Nat.le_refl _) _).alloc (by simp) _
  obtain ⟨W1, hW1⟩ : ∃ W, (w.alloc (.cells #[.int .i64 an, .int .i64 as_, .slice A n cap] 24)).alloc (.cells #[.int .i64 bn, .int .i64 bs_, .slice B m cap2] 24) = W := ⟨_, rfl⟩
  rw [hW1] at hm1 hn1 hb1
  have HA := Lib.hid (ha.below hb1); clear ha
  have HB := Lib.hid (hb.below hb1); clear hb
  have HM := Lib.hid hm1; clear hm1 hm0
  have HN := Lib.hid hn1; clear hn1 hs0
  have HB1 := Lib.hid hb1; clear hb1
  obtain ⟨c0, c1, c2⟩ := HM.out.cells
  obtain ⟨d0, d1, d2⟩ := HN.out.cells
  simp only at c0 c1 c2 d0 d1 d2
  by_cases h1 : an = bn
  · by_cases h2 : as_ = bs_
    · by_cases h3 : n = m
      · have e1 : (an != bn) = false := by simpa using h1
        have e2 : (as_ != bs_) = false := by simpa using h2
        have e3 : ((n : Int) != (m : Int)) = false := by simp; omega
        have HBASE : Hid (an = bn ∧ as_ = bs_) := ⟨h1, h2⟩
        have HLA : Hid (n = al.length) := HA.out.1
        have hnm := HA.out.2.1
        unfold maxLen at hnm
        have HLB : Hid (m = bl.length) := HB.out.1
        have H3 := Lib.hid h3
        clear h1 h2 h3
        go_enter Try.func13, Try.ntmps13
        go_wp2_with fail
        clear c0 c1 c2 d0 d1 d2 hW1
        go_loopw [5] (fun i wr => ∃ k : Nat, k ≤ n ∧ i = .int .i64 k ∧ Hid (Below W1.heap.size W1 wr) ∧ Hid (al.take k = bl.take k)) (fun i _ => n - (intOf i).toNat)
        case atStart => exact ⟨0, by omega, rfl, Below.refl _ _, rfl⟩
        case round =>
          obtain ⟨k, hk, rfl, hbw, heq⟩ := hrel
          obtain ⟨c0, c1, c2⟩ := (HM.out.below hbw.out).cells
          obtain ⟨d0, d1, d2⟩ := (HN.out.below hbw.out).cells
          simp only at c0 c1 c2 d0 d1 d2
          by_cases hlt : k < n
          · have hltm : k < m := by have := H3.out; omega
            obtain ⟨b1, o1, hA, hb1, hc1⟩ := HA.out.2.2.2 (by omega)
            obtain ⟨b2, o2, hB, hb2, hc2⟩ := HB.out.2.2.2 (by omega)
            subst hA hB
            have HKA : Hid (k < al.length) := by have := HLA.out; show k < al.length; omega
            have HKB : Hid (k < bl.length) := by have := HLB.out; show k < bl.length; omega
            have x0 := (hbw.out.cell (p := ⟨b1, o1 + k, none⟩) hb1).trans (hc1 k HKA.out)
            have y0 := (hbw.out.cell (p := ⟨b2, o2 + k, none⟩) hb2).trans (hc2 k HKB.out)
            clear hc1 hc2
            have HTA : Hid (al.take (k + 1) = al.take k ++ [al.getD k 0]) := by
              show _ = _
              rw [List.take_succ_eq_append_getElem HKA.out, List.getD_eq_getElem?_getD, List.getElem?_eq_getElem HKA.out]; rfl
            have HTB : Hid (bl.take (k + 1) = bl.take k ++ [bl.getD k 0]) := by
              show _ = _
              rw [List.take_succ_eq_append_getElem HKB.out, List.getD_eq_getElem?_getD, List.getElem?_eq_getElem HKB.out]; rfl
            have HNE : Hid (al.getD k 0 ≠ bl.getD k 0 → R = false) := fun h => HNO.out (fun h2 => h (by rw [h2.2.2]))
            generalize al.getD k 0 = p at *
            generalize bl.getD k 0 = q at *
            by_cases hpq : p = q
            · have e4 : (p != q) = false := by simpa using hpq
              have HNX : Hid (al.take (k + 1) = bl.take (k + 1)) := by show _ = _; rw [HTA.out, HTB.out, heq.out, hpq]
              clear hpq HTA HTB HNE
              go_wp2_with fail
              go_quiet (fail)
              go_wp2_with fail
              go_roundw
              case rel => exact ⟨k + 1, by omega, by go_num, bdn hbw.out _, HNX⟩
              case measure => simp [intOf]; omega
            · have e4 : (p != q) = true := by simpa using hpq
              have HE := Lib.hid (HNE.out hpq)
              clear hpq HTA HTB HNE
              go_wp2_with fail
              go_quiet (fail)
              go_wp2_with fail
              go_ret
              exact ⟨ret_bool HE.out.symm, bdn (bch HB1.out hbw.out) _⟩
          · have hke : n = k := by omega
            have HE : Hid (R = true) := HYES.out ⟨HBASE.out.1, HBASE.out.2, by
              have h : al.take k = bl.take k := heq.out
              rwa [List.take_of_length_le (by have := HLA.out; omega), List.take_of_length_le (by have := HLB.out; have := H3.out; omega)] at h⟩
            clear hke
            go_wp2_with fail
            go_ret
            exact ⟨ret_bool HE.out.symm, bch HB1.out hbw.out⟩
      · have HE : Hid (R = false) := HNO.out (fun h => h3 (by rw [HA.out.1, HB.out.1, h.2.2]))
        have e1 : (an != bn) = false := by simpa using h1
        have e2 : (as_ != bs_) = false := by simpa using h2
        have e3 : ((n : Int) != (m : Int)) = true := by simp; omega
        clear h1 h2 h3 HNO HYES
        go_enter Try.func13, Try.ntmps13
        go_wp2_with fail
        go_ret
        exact ⟨ret_bool HE.out.symm, HB1.out⟩
    · have HE : Hid (R = false) := HNO.out (fun h => h2 h.2.1)
      have e1 : (an != bn) = false := by simpa using h1
      have e2 : (as_ != bs_) = true := by simpa using h2
      clear h1 h2 HNO HYES
      go_enter Try.func13, Try.ntmps13
      go_wp2_with fail
      go_ret
      exact ⟨ret_bool HE.out.symm, HB1.out⟩
  · have HE : Hid (R = false) := HNO.out (fun h => h1 h.1)
    have e1 : (an != bn) = true := by simpa using h1
    clear h1 HNO HYES
    go_enter Try.func13, Try.ntmps13
    go_wp2_with fail
    go_ret
    exact ⟨ret_bool HE.out.symm, HB1.out⟩
end Go.Proofs.Ytcifcpggiifjeaa
