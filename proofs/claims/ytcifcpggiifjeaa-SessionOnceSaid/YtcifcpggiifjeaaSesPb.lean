import Derived.Test.YtcifcpggiifjeaaSesPa
import Derived.Test.YtcifcpggiifjeaaSesRefB
/-
  The contracts of the program's own functions of stage 10: rise, Right, New, Stamp, cut, Take.
-/
namespace Go.Proofs.Ytcifcpggiifjeaa
open Go.RowKit
set_option linter.unusedVariables false
set_option linter.unusedSimpArgs false

set_option maxRecDepth 100000 in
set_option maxHeartbeats 2000000 in
theorem rise_any (A : Option Addr) (n c : Nat) (l : List Int) (low high : Int) (w : World) (h : IsNs w A n l) :
    Calls Try.prog 24 #[.slice A n c, .int .i64 low, .int .i64 high] w fun e w' => e = .returned (.bool (riseB l low high)) ∧ Below w.heap.size w w' := by
  have HN : Hid (n = l.length) := h.1
  have hm := h.2.1
  unfold maxLen at hm
  have HC := Lib.hid h.2.2.2; clear h
  obtain ⟨R, hR⟩ : ∃ R, riseB l low high = R := ⟨_, rfl⟩
  rw [hR]
  unfold riseB at hR
  have HR := Lib.hid hR; clear hR
  go_enter Try.func24, Try.ntmps24
  go_wp2_with fail
  go_loopw [1, 11] (fun s i wr => ∃ k : Nat, k ≤ n ∧ s = .int .i64 (lastS low l k) ∧ i = .int .i64 k ∧ Hid (∀ j, j < k → lastS low l j < l.getD j 0 ∧ l.getD j 0 ≤ high) ∧ Below w.heap.size w wr) (fun _ i _ => n - (intOf i).toNat)
  case atStart => exact ⟨0, by omega, rfl, rfl, fun j hj => by omega, Below.refl _ _⟩
  case round =>
    obtain ⟨k, hk, rfl, rfl, hok, hb⟩ := hrel
    have HB := Lib.hid hb; clear hb
    by_cases hlt : k < n
    · obtain ⟨b, off, hA, hbl, hcc⟩ := HC.out (by omega)
      subst hA
      have c0 := (HB.out.cell (p := ⟨b, off + k, none⟩) hbl).trans (hcc k (by have := HN.out; omega))
      have HNX : Hid (lastS low l (k + 1) = l.getD k 0) := by show lastS low l (k + 1) = _; simp [lastS]
      clear hcc
      by_cases g : lastS low l k < l.getD k 0 ∧ l.getD k 0 ≤ high
      · have HOK : Hid (∀ j, j < k + 1 → lastS low l j < l.getD j 0 ∧ l.getD j 0 ≤ high) := fun j hj => by
          rcases Nat.lt_or_ge j k with h2 | h2
          · exact hok.out j h2
          · rw [show j = k by omega]; exact g
        generalize l.getD k 0 = x at *
        generalize lastS low l k = y at *
        have d1 : decide (x ≤ y) = false := decide_eq_false (by omega)
        have d2 : decide (high < x) = false := decide_eq_false (by omega)
        have g1 : ¬ (x ≤ y) := by omega
        have g2 : ¬ (high < x) := by omega
        clear g hok
        go_wp2_with fail
        go_roundw
        case rel => exact ⟨k + 1, by omega, by rw [HNX.out], by go_num, HOK, by first | exact HB.out | exact HB.out.drew | exact bdn HB.out _⟩
        case measure => simp [intOf]; omega
      · have HNO : Hid (R = false) := by
          show R = false
          rw [← HR.out]
          exact decide_eq_false fun h => g (h k (by have := HN.out; omega))
        generalize l.getD k 0 = x at *
        generalize lastS low l k = y at *
        clear hok HNX
        by_cases g1 : x ≤ y
        · have d1 : decide (x ≤ y) = true := decide_eq_true g1
          clear g
          go_wp2_with fail
          go_ret
          exact ⟨ret_bool HNO.out.symm, by first | exact HB.out | exact HB.out.drew | exact bdn HB.out _⟩
        · have d1 : decide (x ≤ y) = false := decide_eq_false g1
          have g2 : high < x := by omega
          have d2 : decide (high < x) = true := decide_eq_true g2
          clear g
          go_wp2_with fail
          go_ret
          exact ⟨ret_bool HNO.out.symm, by first | exact HB.out | exact HB.out.drew | exact bdn HB.out _⟩
    · have hke : k = n := by omega
      have HYE : Hid (R = true) := by
        show R = true
        rw [← HR.out]
        exact decide_eq_true fun j hj => hok.out j (by have := HN.out; omega)
      subst hke
      clear hok
      go_wp2_with fail
      go_ret
      exact ⟨ret_bool HYE.out.symm, by first | exact HB.out | exact HB.out.drew | exact bdn HB.out _⟩

set_option maxRecDepth 100000 in
set_option maxHeartbeats 4000000 in
theorem rightC : RightQ := fun s A n cap w hw hcap h => by
  have hm0 := SnBlk.new w s (.slice A n cap)
  have hb0 : Below w.heap.size w (w.alloc (.cells #[.int .i64 s.next, .int .i64 s.seen, .slice A n cap] 24)) := (Below.refl _ _).alloc (Nat.le_refl _) _
  obtain ⟨R, hR⟩ : ∃ R, rightS s = R := ⟨_, rfl⟩
  rw [hR]
  unfold snV
  obtain ⟨W0, hW0⟩ : ∃ W, w.alloc (.cells #[.int .i64 s.next, .int .i64 s.seen, .slice A n cap] 24) = W := ⟨_, rfl⟩
  rw [hW0] at hm0 hb0
  have HNS := Lib.hid (h.below hb0); clear h
  have HM0 := Lib.hid hm0; clear hm0
  have HB0 := Lib.hid hb0; clear hb0
  have b1 := wf_bounds hw.1
  have b2 := wf_bounds hw.2
  obtain ⟨c0, c1, c2⟩ := HM0.out.cells
  by_cases h1 : 1 ≤ s.next ∧ s.next ≤ 9007199254740992
  · have d1 : decide (1 ≤ s.next) = true := decide_eq_true h1.1
    have d2 : decide (s.next ≤ 9007199254740992) = true := decide_eq_true h1.2
    by_cases h2 : 0 ≤ s.seen ∧ s.seen ≤ 9007199254740992
    · have d3 : decide (0 ≤ s.seen) = true := decide_eq_true h2.1
      have d4 : decide (s.seen ≤ 9007199254740992) = true := decide_eq_true h2.2
      have qr := fun W (hh : IsNs W A n s.ahead) => rise_any A n cap s.ahead (s.seen + 1) (min (s.seen + 64) 9007199254740992) W hh
      rw [← right_rise h1 h2, hR] at qr
      have hw1 : IntKind.i64.wrap (s.seen + 1) = s.seen + 1 := IntWalk.i64_in _ (by omega)
      have hw2 : IntKind.i64.wrap (s.seen + 64) = s.seen + 64 := IntWalk.i64_in _ (by omega)
      have HRR := Lib.hid hR; clear hR
      go_enter Try.func16, Try.ntmps16
      go_wp2_with fail
      ((with_reducible refine (qr _ HNS.out).mono ?_); rintro e W1 ⟨rfl, b1⟩)
      have HB1 := Lib.hid (bch HB0.out b1); clear b1 qr
      go_wp2_with fail
      go_ret
      exact ⟨ret_bool rfl, HB1.out⟩
    · have HE : Hid (R = false) := by
        show R = false
        rw [← hR]
        exact rightS_no fun h => h2 h.2.1
      clear hR
      by_cases h3 : 0 ≤ s.seen
      · have h4 : ¬ (s.seen ≤ 9007199254740992) := fun h => h2 ⟨h3, h⟩
        have d3 : decide (0 ≤ s.seen) = true := decide_eq_true h3
        have d4 : decide (s.seen ≤ 9007199254740992) = false := decide_eq_false h4
        clear h2
        go_enter Try.func16, Try.ntmps16
        go_wp2_with fail
        go_ret
        exact ⟨ret_bool HE.out.symm, HB0.out⟩
      · have d3 : decide (0 ≤ s.seen) = false := decide_eq_false h3
        clear h2
        go_enter Try.func16, Try.ntmps16
        go_wp2_with fail
        go_ret
        exact ⟨ret_bool HE.out.symm, HB0.out⟩
  · have HE : Hid (R = false) := by
      show R = false
      rw [← hR]
      exact rightS_no fun h => h1 h.1
    clear hR
    by_cases h3 : 1 ≤ s.next
    · have h4 : ¬ (s.next ≤ 9007199254740992) := fun h => h1 ⟨h3, h⟩
      have d3 : decide (1 ≤ s.next) = true := decide_eq_true h3
      have d4 : decide (s.next ≤ 9007199254740992) = false := decide_eq_false h4
      clear h1
      go_enter Try.func16, Try.ntmps16
      go_wp2_with fail
      go_ret
      exact ⟨ret_bool HE.out.symm, HB0.out⟩
    · have d3 : decide (1 ≤ s.next) = false := decide_eq_false h3
      clear h1
      go_enter Try.func16, Try.ntmps16
      go_wp2_with fail
      go_ret
      exact ⟨ret_bool HE.out.symm, HB0.out⟩

set_option maxRecDepth 100000 in
set_option maxHeartbeats 2000000 in
theorem newC : NewQ := fun w => by
  have hr := SnBlk.new w zeroS (.slice none 0 0)
  have hb : Below w.heap.size w (w.alloc (.cells #[.int .i64 0, .int .i64 0, .slice none 0 0] 24)) := (Below.refl _ _).alloc (Nat.le_refl _) _
  simp only [zeroS] at hr
  obtain ⟨W0, hW0⟩ : ∃ W, w.alloc (.cells #[.int .i64 0, .int .i64 0, .slice none 0 0] 24) = W := ⟨_, rfl⟩
  rw [hW0] at hr hb
  obtain ⟨z0, z1, z2⟩ := hr.cells
  simp only at z0 z1 z2
  have g0 := hr.frozen 0
  have g1 := hr.frozen 1
  have g2 := hr.frozen 2
  have hfin := hr.put newS (.slice none 0 0)
  obtain ⟨e0, e1, e2⟩ := hfin.cells
  simp only [newS] at e0 e1 e2
  have HFB := Lib.hid (below_sn3 (g := w.heap.size) hb (Nat.le_refl _) (.int .i64 1) (.int .i64 0) (.slice none 0 0))
  clear hfin hr hb
  go_enter Try.func9, Try.ntmps9
  go_wp2_with fail
  refine bodyPost_ret (v := .agg #[.int .i64 1, .int .i64 0, .slice none 0 0]) (by simp [newS, snV, results, Try.results9, go_sem, e0, e1, e2]) rfl ⟨none, 0, 0, rfl, Nat.le_refl _, isNs_nil _ _, fun h => by omega, HFB.out⟩

set_option maxRecDepth 100000 in
set_option maxHeartbeats 4000000 in
theorem stampC : StampQ := fun s A n cap w hw hcap h h100 => by
  obtain ⟨R, hR⟩ : ∃ R, stampS s = R := ⟨_, rfl⟩
  rw [hR]
  unfold stampS at hR
  have HAP : Hid (ApartN (w.heap.size + 1) A n) := h.apart (by omega)
  have HA0 : Hid (ApartN w.heap.size A n) := h.apart (Nat.le_refl _)
  have hm0 := SnBlk.new w s (.slice A n cap)
  have hb0 : Below w.heap.size w (w.alloc (.cells #[.int .i64 s.next, .int .i64 s.seen, .slice A n cap] 24)) := (Below.refl _ _).alloc (Nat.le_refl _) _
  have hs0 : (w.alloc (.cells #[.int .i64 s.next, .int .i64 s.seen, .slice A n cap] 24)).heap.size = w.heap.size + 1 := by simp
  have hr1 : SnBlk ((w.alloc (.cells #[.int .i64 s.next, .int .i64 s.seen, .slice A n cap] 24)).alloc (.cells #[.int .i64 0, .int .i64 0, .slice none 0 0] 24)) (w.heap.size + 1) zeroS (.slice none 0 0) := by
    have h := SnBlk.new (w.alloc (.cells #[.int .i64 s.next, .int .i64 s.seen, .slice A n cap] 24)) zeroS (.slice none 0 0)
    rw [hs0] at h
    exact h
  have hb1 : Below w.heap.size w ((w.alloc (.cells #[.int .i64 s.next, .int .i64 s.seen, .slice A n cap] 24)).alloc (.cells #[.int .i64 0, .int .i64 0, .slice none 0 0] 24)) := hb0.alloc hb0.size _
  have hm1 := hm0.below ((Below.refl _ _).alloc (Nat.le_refl _) (.cells #[.int .i64 0, .int .i64 0, .slice none 0 0] 24))
  have hs1 : w.heap.size + 1 < ((w.alloc (.cells #[.int .i64 s.next, .int .i64 s.seen, .slice A n cap] 24)).alloc (.cells #[.int .i64 0, .int .i64 0, .slice none 0 0] 24)).heap.size := by simp
  unfold snV
  obtain ⟨W1, hW1⟩ : ∃ W, (w.alloc (.cells #[.int .i64 s.next, .int .i64 s.seen, .slice A n cap] 24)).alloc (.cells #[.int .i64 0, .int .i64 0, .slice none 0 0] 24) = W := ⟨_, rfl⟩
  rw [hW1] at hr1 hb1 hm1 hs1
  have HNS := Lib.hid (h.below hb1)
  have HM1 := Lib.hid hm1; clear hm1 hm0
  have HR1 := Lib.hid hr1; clear hr1
  have HB1 := Lib.hid hb1; clear hb1 hb0
  have HS1 := Lib.hid hs1; clear hs1 hs0
  have q1 := rightC s A n cap W1 hw hcap HNS.out
  unfold snV at q1
  obtain ⟨c0, c1, c2⟩ := HM1.out.cells
  have hnb := wf_bounds hw.1
  clear h hw
  cases hr : rightS s with
  | false =>
    rw [if_pos (fun h => by rw [rightS_iff.2 h] at hr; cases hr)] at hR
    have HR := Lib.hid hR.symm
    rw [hr] at q1
    clear hR hr
    go_enter Try.func14, Try.ntmps14
    go_wp2_with fail
    ((with_reducible refine q1.mono ?_); rintro e W2 ⟨rfl, b2⟩)
    have HM2 := Lib.hid (HM1.out.below b2)
    have HR2 := Lib.hid (HR1.out.below b2)
    have HN2 := Lib.hid (HNS.out.below b2)
    have HB2 := Lib.hid (bch HB1.out b2)
    have hsz2 : w.heap.size + 1 < W2.heap.size := by have := HS1.out; have := b2.size; omega
    clear c0 c1 c2 hW1 b2 q1 HM1 HR1 HNS HB1 HS1
    obtain ⟨c0, c1, c2⟩ := HM2.out.cells
    go_upto_region 2 with fail
    obtain ⟨z0, z1, z2⟩ := (HR2.out).cells
    simp only [zeroS] at z0 z1 z2
    have g0 := (HR2.out).frozen 0
    have g1 := (HR2.out).frozen 1
    have g2 := (HR2.out).frozen 2
    have hfin := (HR2.out).put s (.slice A n cap)
    obtain ⟨e0, e1, e2⟩ := hfin.cells
    try simp only at e0 e1 e2
    have HFB := Lib.hid (below_sn3 (g := w.heap.size + 1) (HB2.out) (by omega) (.int .i64 (s).next) (.int .i64 (s).seen) (.slice A n cap))
    have HFN := Lib.hid ((((HN2.out).far (g := w.heap.size + 1) (j := 0) (u := .int .i64 (s).next) (HAP.out)).far (g := w.heap.size + 1) (j := 1) (u := .int .i64 (s).seen) (HAP.out)).far (g := w.heap.size + 1) (j := 2) (u := (.slice A n cap)) (HAP.out))
    go_wp2_with fail
    refine bodyPost_ret (v := .tuple #[.agg #[.int .i64 (s).next, .int .i64 (s).seen, (.slice A n cap)], .int .i64 0, .int .i64 1]) (by simp [snV, results, Try.results14, go_sem, e0, e1, e2]) rfl ⟨_, _, _, by rw [HR.out]; rfl, hcap, by rw [HR.out]; exact HFN.out, .inr ⟨rfl, rfl⟩, HFB.out⟩
  | true =>
    have hrr := rightS_iff.1 hr
    rw [if_neg (fun h => h hrr)] at hR
    rw [hr] at q1
    by_cases hM : s.next = 9007199254740992
    · rw [if_pos hM] at hR
      have HR := Lib.hid hR.symm
      have eM : (s.next == 9007199254740992) = true := by simpa using hM
      clear hR hr hM hrr
      go_enter Try.func14, Try.ntmps14
      go_wp2_with fail
      ((with_reducible refine q1.mono ?_); rintro e W2 ⟨rfl, b2⟩)
      have HM2 := Lib.hid (HM1.out.below b2)
      have HR2 := Lib.hid (HR1.out.below b2)
      have HN2 := Lib.hid (HNS.out.below b2)
      have HB2 := Lib.hid (bch HB1.out b2)
      have hsz2 : w.heap.size + 1 < W2.heap.size := by have := HS1.out; have := b2.size; omega
      clear c0 c1 c2 hW1 b2 q1 HM1 HR1 HNS HB1 HS1
      obtain ⟨c0, c1, c2⟩ := HM2.out.cells
      go_upto_region 4 with fail
      obtain ⟨z0, z1, z2⟩ := (HR2.out).cells
      simp only [zeroS] at z0 z1 z2
      have g0 := (HR2.out).frozen 0
      have g1 := (HR2.out).frozen 1
      have g2 := (HR2.out).frozen 2
      have hfin := (HR2.out).put s (.slice A n cap)
      obtain ⟨e0, e1, e2⟩ := hfin.cells
      try simp only at e0 e1 e2
      have HFB := Lib.hid (below_sn3 (g := w.heap.size + 1) (HB2.out) (by omega) (.int .i64 (s).next) (.int .i64 (s).seen) (.slice A n cap))
      have HFN := Lib.hid ((((HN2.out).far (g := w.heap.size + 1) (j := 0) (u := .int .i64 (s).next) (HAP.out)).far (g := w.heap.size + 1) (j := 1) (u := .int .i64 (s).seen) (HAP.out)).far (g := w.heap.size + 1) (j := 2) (u := (.slice A n cap)) (HAP.out))
      go_wp2_with fail
      refine bodyPost_ret (v := .tuple #[.agg #[.int .i64 (s).next, .int .i64 (s).seen, (.slice A n cap)], .int .i64 0, .int .i64 50]) (by simp [snV, results, Try.results14, go_sem, e0, e1, e2]) rfl ⟨_, _, _, by rw [HR.out]; rfl, hcap, by rw [HR.out]; exact HFN.out, .inr ⟨rfl, rfl⟩, HFB.out⟩
    · rw [if_neg hM] at hR
      have HR := Lib.hid hR.symm
      have eM : (s.next == 9007199254740992) = false := by simpa using hM
      have hn1 := hrr.1
      clear hR hr hM hrr
      go_enter Try.func14, Try.ntmps14
      go_wp2_with fail
      ((with_reducible refine q1.mono ?_); rintro e W2 ⟨rfl, b2⟩)
      have HM2 := Lib.hid (HM1.out.below b2)
      have HR2 := Lib.hid (HR1.out.below b2)
      have HN2 := Lib.hid (HNS.out.below b2)
      have HB2 := Lib.hid (bch HB1.out b2)
      have hsz2 : w.heap.size + 1 < W2.heap.size := by have := HS1.out; have := b2.size; omega
      clear c0 c1 c2 hW1 b2 q1 HM1 HR1 HNS HB1 HS1
      obtain ⟨c0, c1, c2⟩ := HM2.out.cells
      have f0 := HM2.out.frozen 0
      have f2 := HM2.out.frozen 2
      have hwn : IntKind.i64.wrap (s.next + 1) = s.next + 1 := IntWalk.i64_in _ (by omega)
      go_upto_region 7 with fail
      have hm3 := HM2.out.putNext (s.next + 1)
      have hr3 := HR2.out.far (g := w.heap.size) (by omega) 0 (.int .i64 (s.next + 1))
      have hb3 := HB2.out.setCell (p := ⟨w.heap.size, 0, none⟩) (Nat.le_refl _) (.int .i64 (s.next + 1))
      have hap0 : ApartN w.heap.size A n := HA0.out
      have hn3 := HN2.out.far (g := w.heap.size) (j := 0) (u := .int .i64 (s.next + 1)) hap0
      have hs3 : w.heap.size + 1 < (W2.setCell ⟨w.heap.size, 0, none⟩ (.int .i64 (s.next + 1))).heap.size := by simpa using hsz2
      obtain ⟨W3, hW3⟩ : ∃ W, W2.setCell ⟨w.heap.size, 0, none⟩ (.int .i64 (s.next + 1)) = W := ⟨_, rfl⟩
      rw [hW3] at hm3 hr3 hb3 hn3 hs3 ⊢
      clear hW3 c0 c1 c2 f0 f2 hwn HM2 HR2 HB2 HN2 hsz2 hap0
      have HR3 := Lib.hid hr3; clear hr3
      have HB3 := Lib.hid hb3; clear hb3
      have HM3 := Lib.hid hm3; clear hm3
      have qc := clone_any A n cap s.ahead W3 hn3 (by omega)
      clear hn3
      obtain ⟨c0, c1, c2⟩ := HM3.out.cells
      simp only at c0 c1 c2
      go_wp2_with fail
      ((with_reducible refine qc.mono ?_); rintro e W4 ⟨A9, n9, cap9, rfl, hcap9, hns9, hnew9, b4⟩)
      clear qc c0 c1 c2
      have hm4 := HM3.out.below b4
      have hr4 := HR3.out.below b4
      have hb4 := bch HB3.out b4
      have hs4 : w.heap.size + 1 < W4.heap.size := by have := b4.size; omega
      have hnewB : NewN (w.heap.size + 2) A9 n9 := hnew9.mono (by omega)
      clear HM3 HR3 HB3 b4
      have HM4 := Lib.hid hm4; clear hm4
      have f2 := HM4.out.frozen 2
      obtain ⟨c0, c1, c2⟩ := HM4.out.cells
      simp only at c0 c1 c2
      go_upto_region 8 with fail
      have hm5 := HM4.out.putAhead s.ahead (.slice A9 n9 cap9)
      have hr5 := hr4.far (g := w.heap.size) (by omega) 2 (.slice A9 n9 cap9)
      have hb5 := hb4.setCell (p := ⟨w.heap.size, 2, none⟩) (Nat.le_refl _) (.slice A9 n9 cap9)
      have hn5 := hns9.set (g := w.heap.size) (j := 2) (u := .slice A9 n9 cap9) hnewB (by omega)
      have hap5 : ApartN (w.heap.size + 1) A9 n9 := fun hn b off e => by have := hnewB hn b off e; omega
      obtain ⟨W5, hW5⟩ : ∃ W, W4.setCell ⟨w.heap.size, 2, none⟩ (.slice A9 n9 cap9) = W := ⟨_, rfl⟩
      rw [hW5] at hm5 hr5 hb5 hn5 ⊢
      clear hW5 c0 c1 c2 f2 HM4 hr4 hb4 hns9 hnew9
      obtain ⟨c0, c1, c2⟩ := hm5.cells
      simp only at c0 c1 c2
      have HR5 := Lib.hid hr5; clear hr5
      have HB5 := Lib.hid hb5; clear hb5
      have HN5 := Lib.hid hn5; clear hn5
      have HAP5 := Lib.hid hap5; clear hap5
      have HNW5 : Hid (NewN w.heap.size A9 n9) := hnewB.mono (by omega)
      clear hnewB
      obtain ⟨z0, z1, z2⟩ := (HR5.out).cells
      simp only [zeroS] at z0 z1 z2
      have g0 := (HR5.out).frozen 0
      have g1 := (HR5.out).frozen 1
      have g2 := (HR5.out).frozen 2
      have hfin := (HR5.out).put (⟨s.next + 1, s.seen, s.ahead⟩ : Sn) (.slice A9 n9 cap9)
      obtain ⟨e0, e1, e2⟩ := hfin.cells
      try simp only at e0 e1 e2
      have HFB := Lib.hid (below_sn3 (g := w.heap.size + 1) (HB5.out) (by omega) (.int .i64 (s.next + 1)) (.int .i64 s.seen) (.slice A9 n9 cap9))
      have HFN := Lib.hid ((((HN5.out).far (g := w.heap.size + 1) (j := 0) (u := .int .i64 (s.next + 1)) (HAP5.out)).far (g := w.heap.size + 1) (j := 1) (u := .int .i64 s.seen) (HAP5.out)).far (g := w.heap.size + 1) (j := 2) (u := (.slice A9 n9 cap9)) (HAP5.out))
      go_wp2_with fail
      refine bodyPost_ret (v := .tuple #[.agg #[.int .i64 (s.next + 1), .int .i64 s.seen, (.slice A9 n9 cap9)], .int .i64 s.next, .int .i64 0]) (by simp [snV, results, Try.results14, go_sem, e0, e1, e2]) rfl ⟨_, _, _, by rw [HR.out]; rfl, hcap9, by rw [HR.out]; exact HFN.out, .inl HNW5.out, HFB.out⟩

def sliceN : Value → Nat
  | .slice _ m _ => m
  | _ => 0
theorem getD_drop (l : List Int) (k i : Nat) : (l.drop k).getD i 0 = l.getD (k + i) 0 := by
  rw [List.getD_eq_getElem?_getD, List.getD_eq_getElem?_getD, List.getElem?_drop]
theorem getD_take (l : List Int) {k i : Nat} (h : i < k) : (l.take k).getD i 0 = l.getD i 0 := by
  rw [List.getD_eq_getElem?_getD, List.getD_eq_getElem?_getD, List.getElem?_take_of_lt h]
theorem slice_ns_from {w : World} {A : Option Addr} {n cap : Nat} {l : List Int} (h : IsNs w A n l) {k : Nat} (hk : k ≤ n) (hc : n ≤ cap) :
    ∃ A', (∀ W, (Instr.slice 22 (.slice A n cap) (some (.int .i64 (k : Int))) none none).run Try.prog W = .ok (.slice A' (n - k) (cap - k)) W) ∧ IsNs w A' (n - k) (l.drop k) ∧ (∀ B, NewN B A n → NewN B A' (n - k)) ∧
      (if cap = k then A else Option.map (fun x => x.add k) A) = A' := by
  obtain ⟨h1, h2, h3, h4⟩ := h
  refine ⟨if cap = k then A else A.map (·.add k), fun W => ?_, ⟨by rw [List.length_drop]; omega, by omega, fun f hf => h3 f (List.mem_of_mem_drop hf), fun hp => ?_⟩, fun B hB hp b off he => ?_, rfl⟩
  · rw [run_slice_l W 22 A n cap Try.underlying22 .i64 (k : Int) (by omega) (by omega), show Try.prog.elem 22 = 3 from by kernel_rfl, Try.sizeOf3]
    show Result.ok (Value.slice (if cap = k then A else Option.map (fun x => x.add (k * 1)) A) (n - k) (cap - k)) W = _
    rw [Nat.mul_one]
  · rw [if_neg (by omega)]
    obtain ⟨b, off, rfl, hb, hat⟩ := h4 (by omega)
    rcases Nat.eq_zero_or_pos k with rfl | hk0
    · refine ⟨b, off, rfl, hb, fun i hi => ?_⟩
      rw [List.length_drop] at hi
      rw [getD_drop, Nat.zero_add]
      exact hat i (by omega)
    · refine ⟨b, off + k, by simp [Addr.add]; omega, hb, fun i hi => ?_⟩
      rw [List.length_drop] at hi
      rw [getD_drop]
      have := hat (k + i) (by omega)
      rw [show off + (k + i) = off + k + i by omega] at this
      exact this
  · rw [if_neg (by omega)] at he
    obtain ⟨b2, off2, rfl, _⟩ := h4 (by omega)
    have h5 := hB (by omega) b2 off2 rfl
    have : b = b2 := by
      rcases Nat.eq_zero_or_pos k with rfl | hk0
      · simp [Addr.add] at he; exact he.1.symm
      · simp [Addr.add] at he; split at he <;> simp at he <;> omega
    omega
theorem IsNs.take {w : World} {A : Option Addr} {n : Nat} {l : List Int} (h : IsNs w A n l) {k : Nat} (hk : k ≤ n) : IsNs w A k (l.take k) := by
  obtain ⟨h1, h2, h3, h4⟩ := h
  refine ⟨by rw [List.length_take]; omega, by omega, fun f hf => h3 f (List.mem_of_mem_take hf), fun hp => ?_⟩
  obtain ⟨b, off, rfl, hb, hat⟩ := h4 (by omega)
  refine ⟨b, off, rfl, hb, fun i hi => ?_⟩
  rw [List.length_take] at hi
  rw [getD_take _ (by omega)]
  exact hat i (by omega)

set_option maxRecDepth 100000 in
set_option maxHeartbeats 4000000 in
theorem cut_any (A : Option Addr) (n cap : Nat) (l : List Int) (a : Int) (B : Nat) (w : World) (h : IsNs w A n l) (hcap : n ≤ cap) (h100 : n ≤ 100) (ha : 0 ≤ a ∧ a ≤ 9007199254740992) (hB : NewN B A n) :
    Calls Try.prog 19 #[.int .i64 a, .slice A n cap] w fun e w' => ∃ A' m c, e = .returned (.tuple #[.int .i64 (cutS a l).1, .slice A' m c]) ∧ m ≤ c ∧ IsNs w A' m (cutS a l).2 ∧ NewN B A' m ∧ Below w.heap.size w w' := by
  obtain ⟨T, hT⟩ : ∃ T, cutS a l = T := ⟨_, rfl⟩
  rw [hT]
  have HT : Hid (cutS a l = T) := hT
  clear hT
  have HNS := Lib.hid h; clear h
  have HNW := Lib.hid hB; clear hB
  have HA := Lib.hid ha; clear ha
  go_enter Try.func19, Try.ntmps19
  go_wp2_with fail
  go_step3
  go_wp2_with fail
  go_step3
  go_wp2_with fail
  go_loopw [0, 1] (fun s v wr => ∃ (x : Int) (A' : Option Addr) (m c : Nat) (l' : List Int), s = .int .i64 x ∧ v = .slice A' m c ∧ m ≤ c ∧ m ≤ 100 ∧ IsNs w A' m l' ∧ NewN B A' m ∧ cutS x l' = T ∧ 0 ≤ x ∧ x + m ≤ 9007199254741092 ∧ Below w.heap.size w wr) (fun _ v _ => sliceN v)
  case atStart => exact ⟨a, A, n, cap, l, rfl, rfl, hcap, h100, HNS.out, HNW.out, HT.out, HA.out.1, by have := HA.out.2; omega, Below.refl _ _⟩
  case round =>
    clear HT HNS HNW HA hcap h100
    obtain ⟨x, A1, m, c1, l1, rfl, rfl, hcap, h100, hns, hnw, ht, hx0, hx1, hb⟩ := hrel
    have HB := Lib.hid hb; clear hb
    have HNW := Lib.hid hnw; clear hnw
    have HTT : Hid (cutS x l1 = T) := ht
    clear ht
    have HL : Hid (m = l1.length) := hns.1
    by_cases h0 : 0 < m
    · obtain ⟨A2, hsl, hns2, hnw2, _⟩ := slice_ns_from hns (k := 1) h0 hcap
      have hsl1 : ∀ W, (Instr.slice 22 (.slice A1 m c1) (some (.int .i64 1)) none none).run Try.prog W = .ok (.slice A2 (m - 1) (c1 - 1)) W := hsl
      clear hsl
      obtain ⟨b, off, hA, hbl, hat⟩ := hns.2.2.2 h0
      subst hA
      have c0 := (HB.out.cell (p := ⟨b, off, none⟩) hbl).trans (hat 0 (by have := HL.out; omega))
      have HN2 := Lib.hid hns2; clear hns2
      have HNS := Lib.hid hns; clear hns hat
      have HNW2 := Lib.hid (hnw2 B HNW.out); clear hnw2
      have hwx : IntKind.i64.wrap (x + 1) = x + 1 := IntWalk.i64_in _ (by omega)
      have hm0 : ¬ ((m : Int) ≤ 0) := by omega
      have hm1 : (0 : Int) < (m : Int) := by omega
      by_cases he : l1.getD 0 0 = x + 1
      · have HG : Hid (cutS (x + 1) (l1.drop 1) = T) := by
          show _ = T
          rw [← HTT.out]
          have := cut_go (a := x) (l := l1) (j := 0) (by have := HL.out; omega) he
          rw [List.drop_zero] at this
          exact this.symm
        have he2 : (l1.getD 0 0 == x + 1) = true := by simpa using he
        generalize l1.getD 0 0 = y at *
        clear he
        have hmi : (1 : Int) ≤ (m : Int) := by omega
        go_wp2_with fail
        go_roundw
        case rel => exact ⟨x + 1, A2, m - 1, c1 - 1, l1.drop 1, rfl, rfl, by omega, by omega, HN2.out, HNW2.out, HG.out, by omega, by omega, by first | exact HB.out | exact HB.out.drew | exact bdn HB.out _⟩
        case measure => simp [sliceN]; omega
      · have HG : Hid (T = (x, l1)) := by
          show T = _
          rw [← HTT.out]
          have := cut_stop (a := x) (l := l1) (j := 0) (by have := HL.out; omega) he
          rw [List.drop_zero] at this
          exact this
        have he2 : (l1.getD 0 0 == x + 1) = false := by simpa using he
        generalize l1.getD 0 0 = y at *
        clear he
        go_wp2_with fail
        go_ret2
        exact ⟨_, m, c1, by rw [HG.out]; rfl, hcap, by rw [HG.out]; exact HNS.out, HNW.out, by first | exact HB.out | exact HB.out.drew | exact bdn HB.out _⟩
    · have hm : m = 0 := by omega
      subst hm
      have HG : Hid (T = (x, [])) := by show T = _; rw [← HTT.out]; exact cut_no HL.out.symm
      clear hns
      go_wp2_with fail
      rw [Exit.noGoto_ret]
      go_ret2
      exact ⟨A1, 0, c1, by rw [HG.out]; rfl, hcap, by rw [HG.out]; exact isNs_nil _ _, HNW.out, by first | exact HB.out | exact HB.out.drew | exact bdn HB.out _⟩
end Go.Proofs.Ytcifcpggiifjeaa
