import Derived.Test.YtcifcpggiifjeaaSesRefB
/-
  The contract of the document's own Take of sessions (stage 10).
-/
namespace Go.Proofs.Ytcifcpggiifjeaa
open Go.RowKit
set_option linter.unusedVariables false

set_option maxRecDepth 100000 in
set_option maxHeartbeats 8000000 in
theorem reftakeS_any (s : Sn) (A : Option Addr) (n cap : Nat) (q : Int) (w : World) (hw : SnWf s) (h : IsNs w A n s.ahead) (h100 : n ≤ 100) (hqw : (Lit.int .i64 q).wf = true) :
    Calls Try.prog 12 #[snV s (.slice A n cap), .int .i64 q] w (SnPost w (takeS s q).1 fun v => .tuple #[v, .bool (takeS s q).2.1, .int .i64 (takeS s q).2.2]) := by
  obtain ⟨R, hR⟩ : ∃ R, takeS s q = R := ⟨_, rfl⟩
  rw [hR]
  have HI := Lib.hid h.2.2.1
  have HLEN := Lib.hid h.1
  have hm0 := SnBlk.new w s (.slice A n cap)
  have hb0 : Below w.heap.size w (w.alloc (.cells #[.int .i64 s.next, .int .i64 s.seen, .slice A n cap] 24)) := (Below.refl _ _).alloc (Nat.le_refl _) _
  have hs0 : (w.alloc (.cells #[.int .i64 s.next, .int .i64 s.seen, .slice A n cap] 24)).heap.size = w.heap.size + 1 := by simp
  have hr1 : SnBlk ((w.alloc (.cells #[.int .i64 s.next, .int .i64 s.seen, .slice A n cap] 24)).alloc (.cells #[.int .i64 0, .int .i64 0, .slice none 0 0] 24)) (w.heap.size + 1) zeroS (.slice none 0 0) := by
    have h := SnBlk.new (w.alloc (.cells #[.int .i64 s.next, .int .i64 s.seen, .slice A n cap] 24)) zeroS (.slice none 0 0)
    rw [hs0] at h
    exact h
  have hb1 : Below w.heap.size w ((w.alloc (.cells #[.int .i64 s.next, .int .i64 s.seen, .slice A n cap] 24)).alloc (.cells #[.int .i64 0, .int .i64 0, .slice none 0 0] 24)) := hb0.alloc hb0.size _
  have hm1 := hm0.below ((Below.refl _ _).alloc (Nat.le_refl _) (.cells #[.int .i64 0, .int .i64 0, .slice none 0 0] 24))
  have hs1 : w.heap.size + 1 < ((w.alloc (.cells #[.int .i64 s.next, .int .i64 s.seen, .slice A n cap] 24)).alloc (.cells #[.int .i64 0, .int .i64 0, .slice none 0 0] 24)).heap.size := by simp
  unfold snV
  obtain ⟨W1, hW1⟩ : ∃ W, (w.alloc (.cells #[.int .i64 s.next, .int .i64 s.seen, .slice A n cap] 24)).alloc (.cells #[.int .i64 0, .int .i64 0, .slice none 0 0] 24) = W := ⟨_, rfl⟩
  rw [hW1] at hr1 hb1 hm1 hs1
  have HNS := Lib.hid (h.below hb1)
  have HM1 := Lib.hid hm1; clear hm1 hm0
  have HR1 := Lib.hid hr1; clear hr1
  have HB1 := Lib.hid hb1; clear hb1 hb0
  have HS1 := Lib.hid hs1; clear hs1 hs0
  have q1 := refrightS_any s A n cap W1 hw HNS.out
  unfold snV at q1
  obtain ⟨c0, c1, c2⟩ := HM1.out.cells
  have hnb := wf_bounds hw.1
  clear h hw
  cases hr : rightS s with
  | false =>
    rw [takeS_arg (.inl (fun h => by rw [rightS_iff.2 h] at hr; cases hr))] at hR
    have HR := Lib.hid hR.symm
    rw [hr] at q1
    clear hR hr
    go_enter Try.func12, Try.ntmps12
    go_wp2_with fail
    ((with_reducible refine q1.mono ?_); rintro e W2 ⟨rfl, b2⟩)
    have HB2 := Lib.hid b2; clear b2
    clear c0 c1 c2 hW1
    obtain ⟨c0, c1, c2⟩ := (HM1.out.below HB2.out).cells
    go_wp2_with fail
    ((with_reducible refine (refownS_any s A n cap _ (HNS.out.below HB2.out) h100).mono ?_); rintro e W9 ⟨A9, n9, cap9, rfl, hcap9, hns9, hnew9, b9⟩)
    have HB9 := Lib.hid (bch (bch HB1.out HB2.out) b9)
    have HR9 := Lib.hid ((HR1.out.below HB2.out).below b9)
    have HS9 : W2.heap.size ≤ W2.heap.size := Nat.le_refl _
    have hsz2 : w.heap.size + 1 < W2.heap.size := by have := HS1.out; have := (HB2.out).size; omega
    clear c0 c1 c2
    simp only [id, snV]
    obtain ⟨z0, z1, z2⟩ := (HR9.out).cells
    simp only [zeroS] at z0 z1 z2
    have g0 := (HR9.out).frozen 0
    have g1 := (HR9.out).frozen 1
    have g2 := (HR9.out).frozen 2
    have hfin := (HR9.out).put s (.slice A9 n9 cap9)
    obtain ⟨e0, e1, e2⟩ := hfin.cells
    try simp only at e0 e1 e2
    have HFB := Lib.hid (below_sn3 (g := w.heap.size + 1) (HB9.out) (by omega) (.int .i64 (s).next) (.int .i64 (s).seen) (.slice A9 n9 cap9))
    have HFN := Lib.hid ((((hns9).set (g := w.heap.size + 1) (j := 0) (u := .int .i64 (s).next) (hnew9) (by omega)).set (g := w.heap.size + 1) (j := 1) (u := .int .i64 (s).seen) (hnew9) (by omega)).set (g := w.heap.size + 1) (j := 2) (u := (.slice A9 n9 cap9)) (hnew9) (by omega))
    have HFW := Lib.hid ((hnew9).mono (C := w.heap.size) (by omega))
    go_wp2_with fail
    refine bodyPost_ret (v := .tuple #[snV s (.slice A9 n9 cap9), .bool false, .int .i64 1]) (by simp [snV, results, Try.results12, go_sem, e0, e1, e2]) rfl ⟨_, _, _, by rw [HR.out]; rfl, hcap9, by rw [HR.out]; exact HFN.out, HFW.out, HFB.out⟩
  | true =>
    have hrr := rightS_iff.1 hr
    rw [hr] at q1
    clear hr
    by_cases hq1 : q < 1
    · rw [takeS_arg (.inr (.inl hq1))] at hR
      have HR := Lib.hid hR.symm
      clear hR hrr
      go_enter Try.func12, Try.ntmps12
      go_wp2_with fail
      ((with_reducible refine q1.mono ?_); rintro e W2 ⟨rfl, b2⟩)
      have HB2 := Lib.hid b2; clear b2
      clear c0 c1 c2 hW1
      obtain ⟨c0, c1, c2⟩ := (HM1.out.below HB2.out).cells
      go_wp2_with fail
      ((with_reducible refine (refownS_any s A n cap _ (HNS.out.below HB2.out) h100).mono ?_); rintro e W9 ⟨A9, n9, cap9, rfl, hcap9, hns9, hnew9, b9⟩)
      have HB9 := Lib.hid (bch (bch HB1.out HB2.out) b9)
      have HR9 := Lib.hid ((HR1.out.below HB2.out).below b9)
      have HS9 : W2.heap.size ≤ W2.heap.size := Nat.le_refl _
      have hsz2 : w.heap.size + 1 < W2.heap.size := by have := HS1.out; have := (HB2.out).size; omega
      clear c0 c1 c2
      simp only [id, snV]
      obtain ⟨z0, z1, z2⟩ := (HR9.out).cells
      simp only [zeroS] at z0 z1 z2
      have g0 := (HR9.out).frozen 0
      have g1 := (HR9.out).frozen 1
      have g2 := (HR9.out).frozen 2
      have hfin := (HR9.out).put s (.slice A9 n9 cap9)
      obtain ⟨e0, e1, e2⟩ := hfin.cells
      try simp only at e0 e1 e2
      have HFB := Lib.hid (below_sn3 (g := w.heap.size + 1) (HB9.out) (by omega) (.int .i64 (s).next) (.int .i64 (s).seen) (.slice A9 n9 cap9))
      have HFN := Lib.hid ((((hns9).set (g := w.heap.size + 1) (j := 0) (u := .int .i64 (s).next) (hnew9) (by omega)).set (g := w.heap.size + 1) (j := 1) (u := .int .i64 (s).seen) (hnew9) (by omega)).set (g := w.heap.size + 1) (j := 2) (u := (.slice A9 n9 cap9)) (hnew9) (by omega))
      have HFW := Lib.hid ((hnew9).mono (C := w.heap.size) (by omega))
      go_wp2_with fail
      refine bodyPost_ret (v := .tuple #[snV s (.slice A9 n9 cap9), .bool false, .int .i64 1]) (by simp [snV, results, Try.results12, go_sem, e0, e1, e2]) rfl ⟨_, _, _, by rw [HR.out]; rfl, hcap9, by rw [HR.out]; exact HFN.out, HFW.out, HFB.out⟩
    by_cases hq2 : 9007199254740992 < q
    · rw [takeS_arg (.inr (.inr hq2))] at hR
      have HR := Lib.hid hR.symm
      clear hR hrr
      go_enter Try.func12, Try.ntmps12
      go_wp2_with fail
      ((with_reducible refine q1.mono ?_); rintro e W2 ⟨rfl, b2⟩)
      have HB2 := Lib.hid b2; clear b2
      clear c0 c1 c2 hW1
      obtain ⟨c0, c1, c2⟩ := (HM1.out.below HB2.out).cells
      go_wp2_with fail
      ((with_reducible refine (refownS_any s A n cap _ (HNS.out.below HB2.out) h100).mono ?_); rintro e W9 ⟨A9, n9, cap9, rfl, hcap9, hns9, hnew9, b9⟩)
      have HB9 := Lib.hid (bch (bch HB1.out HB2.out) b9)
      have HR9 := Lib.hid ((HR1.out.below HB2.out).below b9)
      have HS9 : W2.heap.size ≤ W2.heap.size := Nat.le_refl _
      have hsz2 : w.heap.size + 1 < W2.heap.size := by have := HS1.out; have := (HB2.out).size; omega
      clear c0 c1 c2
      simp only [id, snV]
      obtain ⟨z0, z1, z2⟩ := (HR9.out).cells
      simp only [zeroS] at z0 z1 z2
      have g0 := (HR9.out).frozen 0
      have g1 := (HR9.out).frozen 1
      have g2 := (HR9.out).frozen 2
      have hfin := (HR9.out).put s (.slice A9 n9 cap9)
      obtain ⟨e0, e1, e2⟩ := hfin.cells
      try simp only at e0 e1 e2
      have HFB := Lib.hid (below_sn3 (g := w.heap.size + 1) (HB9.out) (by omega) (.int .i64 (s).next) (.int .i64 (s).seen) (.slice A9 n9 cap9))
      have HFN := Lib.hid ((((hns9).set (g := w.heap.size + 1) (j := 0) (u := .int .i64 (s).next) (hnew9) (by omega)).set (g := w.heap.size + 1) (j := 1) (u := .int .i64 (s).seen) (hnew9) (by omega)).set (g := w.heap.size + 1) (j := 2) (u := (.slice A9 n9 cap9)) (hnew9) (by omega))
      have HFW := Lib.hid ((hnew9).mono (C := w.heap.size) (by omega))
      go_wp2_with fail
      refine bodyPost_ret (v := .tuple #[snV s (.slice A9 n9 cap9), .bool false, .int .i64 1]) (by simp [snV, results, Try.results12, go_sem, e0, e1, e2]) rfl ⟨_, _, _, by rw [HR.out]; rfl, hcap9, by rw [HR.out]; exact HFN.out, HFW.out, HFB.out⟩
    have hsb := hrr.2.1
    by_cases hq3 : s.seen + 64 < q
    · rw [takeS_far hrr (by omega) (by omega) hq3] at hR
      have HR := Lib.hid hR.symm
      clear hR hrr
      go_enter Try.func12, Try.ntmps12
      go_wp2_with fail
      ((with_reducible refine q1.mono ?_); rintro e W2 ⟨rfl, b2⟩)
      have HB2 := Lib.hid b2; clear b2
      clear c0 c1 c2 hW1
      obtain ⟨c0, c1, c2⟩ := (HM1.out.below HB2.out).cells
      go_wp2_with fail
      ((with_reducible refine (refownS_any s A n cap _ (HNS.out.below HB2.out) h100).mono ?_); rintro e W9 ⟨A9, n9, cap9, rfl, hcap9, hns9, hnew9, b9⟩)
      have HB9 := Lib.hid (bch (bch HB1.out HB2.out) b9)
      have HR9 := Lib.hid ((HR1.out.below HB2.out).below b9)
      have HS9 : W2.heap.size ≤ W2.heap.size := Nat.le_refl _
      have hsz2 : w.heap.size + 1 < W2.heap.size := by have := HS1.out; have := (HB2.out).size; omega
      clear c0 c1 c2
      simp only [id, snV]
      obtain ⟨z0, z1, z2⟩ := (HR9.out).cells
      simp only [zeroS] at z0 z1 z2
      have g0 := (HR9.out).frozen 0
      have g1 := (HR9.out).frozen 1
      have g2 := (HR9.out).frozen 2
      have hfin := (HR9.out).put s (.slice A9 n9 cap9)
      obtain ⟨e0, e1, e2⟩ := hfin.cells
      try simp only at e0 e1 e2
      have HFB := Lib.hid (below_sn3 (g := w.heap.size + 1) (HB9.out) (by omega) (.int .i64 (s).next) (.int .i64 (s).seen) (.slice A9 n9 cap9))
      have HFN := Lib.hid ((((hns9).set (g := w.heap.size + 1) (j := 0) (u := .int .i64 (s).next) (hnew9) (by omega)).set (g := w.heap.size + 1) (j := 1) (u := .int .i64 (s).seen) (hnew9) (by omega)).set (g := w.heap.size + 1) (j := 2) (u := (.slice A9 n9 cap9)) (hnew9) (by omega))
      have HFW := Lib.hid ((hnew9).mono (C := w.heap.size) (by omega))
      go_wp2_with fail
      refine bodyPost_ret (v := .tuple #[snV s (.slice A9 n9 cap9), .bool false, .int .i64 60]) (by simp [snV, results, Try.results12, go_sem, e0, e1, e2]) rfl ⟨_, _, _, by rw [HR.out]; rfl, hcap9, by rw [HR.out]; exact HFN.out, HFW.out, HFB.out⟩
    by_cases hq4 : q ≤ s.seen
    · rw [takeS_old hrr (by omega) (by omega) (by omega) (.inl hq4)] at hR
      have HR := Lib.hid hR.symm
      clear hR hrr
      go_enter Try.func12, Try.ntmps12
      go_wp2_with fail
      ((with_reducible refine q1.mono ?_); rintro e W2 ⟨rfl, b2⟩)
      have HB2 := Lib.hid b2; clear b2
      clear c0 c1 c2 hW1
      obtain ⟨c0, c1, c2⟩ := (HM1.out.below HB2.out).cells
      go_wp2_with fail
      ((with_reducible refine (refownS_any s A n cap _ (HNS.out.below HB2.out) h100).mono ?_); rintro e W9 ⟨A9, n9, cap9, rfl, hcap9, hns9, hnew9, b9⟩)
      have HB9 := Lib.hid (bch (bch HB1.out HB2.out) b9)
      have HR9 := Lib.hid ((HR1.out.below HB2.out).below b9)
      have HS9 : W2.heap.size ≤ W2.heap.size := Nat.le_refl _
      have hsz2 : w.heap.size + 1 < W2.heap.size := by have := HS1.out; have := (HB2.out).size; omega
      clear c0 c1 c2
      simp only [id, snV]
      obtain ⟨z0, z1, z2⟩ := (HR9.out).cells
      simp only [zeroS] at z0 z1 z2
      have g0 := (HR9.out).frozen 0
      have g1 := (HR9.out).frozen 1
      have g2 := (HR9.out).frozen 2
      have hfin := (HR9.out).put s (.slice A9 n9 cap9)
      obtain ⟨e0, e1, e2⟩ := hfin.cells
      try simp only at e0 e1 e2
      have HFB := Lib.hid (below_sn3 (g := w.heap.size + 1) (HB9.out) (by omega) (.int .i64 (s).next) (.int .i64 (s).seen) (.slice A9 n9 cap9))
      have HFN := Lib.hid ((((hns9).set (g := w.heap.size + 1) (j := 0) (u := .int .i64 (s).next) (hnew9) (by omega)).set (g := w.heap.size + 1) (j := 1) (u := .int .i64 (s).seen) (hnew9) (by omega)).set (g := w.heap.size + 1) (j := 2) (u := (.slice A9 n9 cap9)) (hnew9) (by omega))
      have HFW := Lib.hid ((hnew9).mono (C := w.heap.size) (by omega))
      go_wp2_with fail
      refine bodyPost_ret (v := .tuple #[snV s (.slice A9 n9 cap9), .bool false, .int .i64 0]) (by simp [snV, results, Try.results12, go_sem, e0, e1, e2]) rfl ⟨_, _, _, by rw [HR.out]; rfl, hcap9, by rw [HR.out]; exact HFN.out, HFW.out, HFB.out⟩
    cases hq : decide (q ∈ s.ahead) with
    | true =>
      rw [takeS_old hrr (by omega) (by omega) (by omega) (.inr (of_decide_eq_true hq))] at hR
      have HR := Lib.hid hR.symm
      clear hR hrr
      go_enter Try.func12, Try.ntmps12
      go_wp2_with fail
      ((with_reducible refine q1.mono ?_); rintro e W2 ⟨rfl, b2⟩)
      have HB2 := Lib.hid b2; clear b2
      clear c0 c1 c2 hW1
      obtain ⟨c0, c1, c2⟩ := (HM1.out.below HB2.out).cells
      go_wp2_with fail
      ((with_reducible refine (refhas_any A n cap s.ahead q _ (HNS.out.below HB2.out)).mono ?_); rintro e0 W2_ ⟨rfl, rfl⟩)
      rw [hq]
      go_wp2_with fail
      ((with_reducible refine (refownS_any s A n cap _ (HNS.out.below HB2.out) h100).mono ?_); rintro e W9 ⟨A9, n9, cap9, rfl, hcap9, hns9, hnew9, b9⟩)
      have HB9 := Lib.hid (bch (bch HB1.out HB2.out) b9)
      have HR9 := Lib.hid ((HR1.out.below HB2.out).below b9)
      have HS9 : W2.heap.size ≤ W2.heap.size := Nat.le_refl _
      have hsz2 : w.heap.size + 1 < W2.heap.size := by have := HS1.out; have := (HB2.out).size; omega
      clear c0 c1 c2
      simp only [id, snV]
      obtain ⟨z0, z1, z2⟩ := (HR9.out).cells
      simp only [zeroS] at z0 z1 z2
      have g0 := (HR9.out).frozen 0
      have g1 := (HR9.out).frozen 1
      have g2 := (HR9.out).frozen 2
      have hfin := (HR9.out).put s (.slice A9 n9 cap9)
      obtain ⟨e0, e1, e2⟩ := hfin.cells
      try simp only at e0 e1 e2
      have HFB := Lib.hid (below_sn3 (g := w.heap.size + 1) (HB9.out) (by omega) (.int .i64 (s).next) (.int .i64 (s).seen) (.slice A9 n9 cap9))
      have HFN := Lib.hid ((((hns9).set (g := w.heap.size + 1) (j := 0) (u := .int .i64 (s).next) (hnew9) (by omega)).set (g := w.heap.size + 1) (j := 1) (u := .int .i64 (s).seen) (hnew9) (by omega)).set (g := w.heap.size + 1) (j := 2) (u := (.slice A9 n9 cap9)) (hnew9) (by omega))
      have HFW := Lib.hid ((hnew9).mono (C := w.heap.size) (by omega))
      go_wp2_with fail
      refine bodyPost_ret (v := .tuple #[snV s (.slice A9 n9 cap9), .bool false, .int .i64 0]) (by simp [snV, results, Try.results12, go_sem, e0, e1, e2]) rfl ⟨_, _, _, by rw [HR.out]; rfl, hcap9, by rw [HR.out]; exact HFN.out, HFW.out, HFB.out⟩
    | false =>
      have hnc : ¬ came s q := by rintro (h | h); exact hq4 h; exact (of_decide_eq_false hq) h
      rw [takeS_new hrr (by omega) (by omega) (by omega) hnc] at hR
      have HR := Lib.hid hR.symm
      obtain ⟨a, hA⟩ : ∃ a, advS (s.ahead ++ [q]) 65 s.seen = a := ⟨_, rfl⟩
      have HA := Lib.hid hA
      have HT : Hid (tookS s q = ⟨s.next, a, restS (s.ahead ++ [q]) a s.seen 64⟩) := by show _ = _; rw [← hA]; rfl
      have HTOP : Hid (∀ z ∈ s.ahead ++ [q], s.seen < z ∧ z ≤ s.seen + 64) := fun z hz => by
        rcases List.mem_append.1 hz with hz | hz
        · have := hrr.2.2.2 z hz; omega
        · rw [List.mem_singleton] at hz; subst hz; omega
      have HIA : Hid (IntsWf (s.ahead ++ [q])) := fun z hz => by have := HTOP.out z hz; exact wf_within (by omega) (by omega)
      clear hR hrr hA hnc
      go_enter Try.func12, Try.ntmps12
      go_wp2_with fail
      ((with_reducible refine q1.mono ?_); rintro e W2 ⟨rfl, b2⟩)
      have HB2 := Lib.hid b2; clear b2
      clear c0 c1 c2 hW1
      obtain ⟨c0, c1, c2⟩ := (HM1.out.below HB2.out).cells
      go_wp2_with fail
      ((with_reducible refine (refhas_any A n cap s.ahead q _ (HNS.out.below HB2.out)).mono ?_); rintro e0 W2_ ⟨rfl, rfl⟩)
      rw [hq]
      have hgs : w.heap.size + 1 < W2.heap.size := by have := HS1.out; have := HB2.out.size; omega
      have HX2 := Lib.hid (HM1.out.below HB2.out)
      have HR2 := Lib.hid (HR1.out.below HB2.out)
      have HN2 := Lib.hid (HNS.out.below HB2.out)
      have HBW2 := Lib.hid (bch HB1.out HB2.out)
      clear HM1 HR1 HNS HB1 HB2 HS1 q1
      go_wp2_with (at_builtin; refine wpList_append_ints rfl _ _ rfl W2.heap.size _ [] rfl (rowI_nil W2 _) A n cap s.ahead rfl HN2.out (by simp; omega) (Nat.le_refl _) ?_)
      intro v3 W3 hrow3 hgrow3
      obtain ⟨A3, cap3, hv3, hcap3, hns3⟩ := hrow3.isNs HI.out
      subst hv3
      have hb3 : Below W2.heap.size W2 W3 := below_grown hgrow3 (fun g hg => by cases hg)
      have HX3 := Lib.hid (HX2.out.below hb3)
      have HR3 := Lib.hid (HR2.out.below hb3)
      have HBW3 := Lib.hid (bch HBW2.out hb3)
      have hs3 : W2.heap.size ≤ W3.heap.size := hb3.size
      have HROW3 := Lib.hid hrow3; clear hrow3 hns3 hgrow3 hb3 HX2 HR2 HN2 HBW2 c0 c1 c2
      obtain ⟨c0, c1, c2⟩ := HX3.out.cells
      go_upto_region 9 with fail
      have hb3a : Below W3.heap.size W3 (W3.alloc (.cells #[.int .i64 q] 3)) := (Below.refl _ _).alloc (Nat.le_refl _) _
      have hone := isNs_one W3 q hqw 3
      have hrowa := HROW3.out.below hb3a
      have HXa := Lib.hid (HX3.out.below hb3a)
      have HRa := Lib.hid (HR3.out.below hb3a)
      have HBWa := Lib.hid (bch HBW3.out hb3a)
      have hsa : W2.heap.size ≤ (W3.alloc (.cells #[.int .i64 q] 3)).heap.size := by simp; omega
      clear c0 c1 c2 HX3 HR3 HBW3 HROW3 hb3a
      go_wp2_with (at_builtin; refine wpList_append_ints rfl _ _ rfl W2.heap.size _ s.ahead rfl hrowa (some ⟨W3.heap.size, 0, none⟩) 1 1 [q] rfl hone (by have := HLEN.out; omega) hsa ?_)
      intro v4 W4 hrow4 hgrow4
      have hlt4 := hrowa.lt
      obtain ⟨A4, cap4, hv4, hcap4, hns4⟩ := hrow4.isNs HIA.out
      subst hv4
      have hb4 : Below w.heap.size w W4 := HBWa.out.grown hgrow4 (HBWa.out.size) (fun g hg => by have := (hlt4 g hg).1; omega)
      have hne4 : ∀ g, g < W2.heap.size → some g ≠ (Value.slice A3 s.ahead.length cap3).ownBlock := fun g hg he => by have := (hlt4 g he.symm).1; omega
      have HX4 := Lib.hid (HXa.out.kept hgrow4 (hne4 _ (by omega)))
      have HR4 := Lib.hid (HRa.out.kept hgrow4 (hne4 _ (by omega)))
      have hs4 : W2.heap.size ≤ W4.heap.size := Nat.le_trans hsa hgrow4.size
      have HBW4 := Lib.hid hb4; clear hb4 hrow4 hrowa hone HXa HRa HBWa hgrow4 hlt4 hne4
      have HN4 := Lib.hid hns4; clear hns4
      have hl4 : (s.ahead ++ [q]).length = n + 1 := by have := HLEN.out; simp; omega
      rw [hl4] at hcap4 HN4 ⊢
      clear hl4
      obtain ⟨c0, c1, c2⟩ := HX4.out.cells
      go_upto_region 11 with fail
      have hm5 : SnBlk (W4.alloc (.cells #[.int .i64 s.next, .int .i64 s.seen, .slice none 0 0] 24)) W4.heap.size ⟨s.next, s.seen, []⟩ (.slice none 0 0) := SnBlk.new W4 ⟨s.next, s.seen, []⟩ (.slice none 0 0)
      have hb5 : Below W4.heap.size W4 (W4.alloc (.cells #[.int .i64 s.next, .int .i64 s.seen, .slice none 0 0] 24)) := (Below.refl _ _).alloc (Nat.le_refl _) _
      obtain ⟨W5, hW5⟩ : ∃ W, W4.alloc (.cells #[.int .i64 s.next, .int .i64 s.seen, .slice none 0 0] 24) = W := ⟨_, rfl⟩
      rw [hW5] at hm5 hb5
      rw [hW5]
      clear hW5 c0 c1 c2
      have hap : ApartN W4.heap.size A4 (n + 1) := HN4.out.apart (Nat.le_refl _)
      have HX5 := Lib.hid (HX4.out.below hb5)
      have HR5 := Lib.hid (HR4.out.below hb5)
      have HN5 := Lib.hid (HN4.out.below hb5)
      have HBW5 := Lib.hid (bch HBW4.out hb5)
      have HM5 := Lib.hid hm5
      clear hb5 hm5 HX4 HR4 HN4 HBW4 hs3 hsa
      have hg1 : w.heap.size + 1 < W4.heap.size := by omega
      have hg2 : w.heap.size ≤ W4.heap.size := by omega
      generalize W4.heap.size = g at *
      have HAP := Lib.hid hap; clear hap
      clear hs4 hgs
      go_wp2_with fail
      go_loopw [] (fun wr => ∃ (j : Nat) (wq : World), wq = wr ∧ j ≤ 64 ∧ SnBlk wq g ⟨s.next, s.seen + (j : Int), []⟩ (.slice none 0 0) ∧ SnBlk wq w.heap.size s (.slice A n cap) ∧ SnBlk wq (w.heap.size + 1) zeroS (.slice none 0 0) ∧ IsNs wq A4 (n + 1) (s.ahead ++ [q]) ∧ Below w.heap.size w wq ∧ Hid (advS (s.ahead ++ [q]) (65 - j) (s.seen + (j : Int)) = a)) (fun wr => (s.seen + 66 - intOf ((wr.cell? ⟨g, 1, none⟩).getD undef)).toNat)
      case atStart => exact ⟨0, _, rfl, by omega, by simpa using HM5.out, HX5.out, HR5.out, HN5.out, HBW5.out, by show advS _ (65 - 0) (s.seen + ((0 : Nat) : Int)) = a; simpa using HA.out⟩
      case round =>
        clear HM5 HX5 HR5 HN5 HBW5
        obtain ⟨j, wq, rfl, hj, hm, hx, hr, hns, hb, hadv⟩ := hrel
        obtain ⟨c0, c1, c2⟩ := hm.cells
        simp only at c0 c1 c2
        have f1 := hm.frozen 1
        have HQ := Lib.hid (refhas_any A4 (n + 1) cap4 (s.ahead ++ [q]) (s.seen + (j : Int) + 1) wq hns)
        by_cases hin : s.seen + (j : Int) + 1 ∈ s.ahead ++ [q]
        · have hj2 : j < 64 := by have := HTOP.out _ hin; omega
          have HNX : Hid (advS (s.ahead ++ [q]) (65 - (j + 1)) (s.seen + ((j + 1 : Nat) : Int)) = a) := by
            show _ = _
            rw [← hadv.out, show 65 - j = (65 - (j + 1)) + 1 by omega, adv_step hin]
            congr 1
            omega
          have HT := HQ.out
          rw [decide_eq_true hin] at HT
          have HQT := Lib.hid HT
          clear hin HT HQ
          have HM := Lib.hid hm; clear hm
          have HXX := Lib.hid hx; clear hx
          have HRR := Lib.hid hr; clear hr
          have HNN := Lib.hid hns; clear hns
          have HBB := Lib.hid hb; clear hb
          go_wp2_with fail
          ((with_reducible refine HQT.out.mono ?_); rintro e0 W2_ ⟨rfl, rfl⟩)
          go_wp2_with fail
          go_roundw
          case rel =>
            refine ⟨j + 1, _, rfl, by omega, ?_, HXX.out.far (by omega) _ _, HRR.out.far (by omega) _ _, HNN.out.far HAP.out, HBB.out.setCell (p := ⟨g, 1, none⟩) hg2 _, HNX⟩
            have := HM.out.putSeen (s.seen + (j : Int) + 1)
            simp only at this
            rw [show s.seen + ((j + 1 : Nat) : Int) = s.seen + (j : Int) + 1 by omega]
            exact this
          case measure =>
            have hc := (HM.out.putSeen (s.seen + (j : Int) + 1)).cells.2.1
            simp only at hc
            have h0 := HM.out.cells.2.1
            simp only at h0
            simp only [h0, hc, Option.getD_some, intOf]
            omega
        · have hj' := hj
          have ha : a = s.seen + (j : Int) := by rw [← hadv.out, show 65 - j = (65 - (j + 1)) + 1 by omega, adv_stop hin]
          have HT := HQ.out
          rw [decide_eq_false hin] at HT
          have HQT := Lib.hid HT
          clear hin HT HQ hadv f1
          have HM := Lib.hid hm; clear hm
          have HXX := Lib.hid hx; clear hx
          have HRR := Lib.hid hr; clear hr
          have HNN := Lib.hid hns; clear hns
          have HBB := Lib.hid hb; clear hb
          go_wp2_with fail
          ((with_reducible refine HQT.out.mono ?_); rintro e0 W2_ ⟨rfl, rfl⟩)
          clear c0 c1 c2 hj
          have HM6 : Hid (SnBlk wq g ⟨s.next, a, []⟩ (.slice none 0 0)) := by show SnBlk _ _ _ _; rw [ha]; exact HM.out
          have hja : a - s.seen = (j : Int) := by omega
          have HJ := Lib.hid hja
          have HJ64 : Hid (j ≤ 64) := hj'
          clear HM ha hja hj'
          obtain ⟨c0, c1, c2⟩ := HM6.out.cells
          simp only at c0 c1 c2
          have ha64 : a ≤ s.seen + 64 := by have := HJ.out; have := HJ64.out; omega
          have hsa : s.seen ≤ a := by have := HJ.out; omega
          have HIR : Hid (∀ m, IntsWf (restS (s.ahead ++ [q]) a s.seen m)) := fun m z hz => HIA.out z (mem_rest.1 hz).2.2
          have HLR : Hid (∀ m, m ≤ 64 → (restS (s.ahead ++ [q]) a s.seen m).length ≤ 64) := fun m hm => by
            unfold restS
            refine Nat.le_trans (List.length_filter_le _ _) ?_
            rw [List.length_map, List.length_range]; exact hm
          have hgl := lt_of_blk HM6.out
          go_wp2_with fail
          clear c0 c1 c2
          obtain ⟨base, hbase⟩ : ∃ b, wq.heap.size = b := ⟨_, rfl⟩
          have hbg : g < base := by omega
          have hbs : base ≤ wq.heap.size := by omega
          have HBASE := Lib.hid hbase; clear hbase hgl
          have HNB : Hid (0 < n + 1 → ∀ b off, A4 = some ⟨b, off, none⟩ → b < base) := fun hn b off e => by
            obtain ⟨b2, o2, e2, hlt, _⟩ := HNN.out.2.2.2 hn
            rw [e] at e2
            simp only [Option.some.injEq, Addr.mk.injEq, and_true] at e2
            have := HBASE.out
            omega
          go_loopw [10] (fun i wr => ∃ (m : Nat) (wq : World) (v : Value), wq = wr ∧ j ≤ m ∧ m ≤ 64 ∧ i = .int .i64 (s.seen + 1 + (m : Int)) ∧ SnBlk wq g ⟨s.next, a, restS (s.ahead ++ [q]) a s.seen m⟩ v ∧ RowI wq base v (restS (s.ahead ++ [q]) a s.seen m) ∧ SnBlk wq w.heap.size s (.slice A n cap) ∧ SnBlk wq (w.heap.size + 1) zeroS (.slice none 0 0) ∧ IsNs wq A4 (n + 1) (s.ahead ++ [q]) ∧ base ≤ wq.heap.size ∧ Below w.heap.size w wq) (fun i wr => (s.seen + 66 - intOf i).toNat)
          case atStart =>
            refine ⟨j, _, .slice none 0 0, rfl, Nat.le_refl _, HJ64.out, by have := HJ.out; rw [show s.seen + 1 + (j : Int) = a + 1 by omega], ?_, ?_, HXX.out, HRR.out, HNN.out, hbs, HBB.out⟩
            · rw [rest_none (by have := HJ.out; omega)]; exact HM6.out
            · rw [rest_none (by have := HJ.out; omega)]; exact rowI_nil _ _
          case round =>
            clear HXX HRR HNN HBB HM6 hbs
            obtain ⟨m, wx, v, rfl, hjm, hm64, rfl, hm, hrow, hx, hr, hns, hbs, hb⟩ := hrel
            obtain ⟨Av, cv, hv, hcv, hnsv⟩ := hrow.isNs (HIR.out m)
            subst hv
            obtain ⟨c0, c1, c2⟩ := hm.cells
            obtain ⟨x0, x1, x2⟩ := hx.cells
            simp only at c0 c1 c2 x0 x1 x2
            have HQ := Lib.hid (refhas_any A4 (n + 1) cap4 (s.ahead ++ [q]) (s.seen + 1 + (m : Int)) wx hns)
            have HSN := Lib.hid (rest_snoc (s.ahead ++ [q]) a s.seen m)
            have hap : a < s.seen + 1 + (m : Int) := by have := HJ.out; omega
            have HM := Lib.hid hm; clear hm
            have HXX := Lib.hid hx; clear hx
            have HRR := Lib.hid hr; clear hr
            have HNN := Lib.hid hns; clear hns
            have HBB := Lib.hid hb; clear hb
            have HROW := Lib.hid hrow; clear hrow hnsv
            by_cases hm2 : m < 64
            · have hle : s.seen + 1 + (m : Int) ≤ s.seen + 64 := by omega
              by_cases hin : s.seen + 1 + (m : Int) ∈ s.ahead ++ [q]
              · have HNX : Hid (restS (s.ahead ++ [q]) a s.seen (m + 1) = restS (s.ahead ++ [q]) a s.seen m ++ [s.seen + 1 + (m : Int)]) := by
                  show _ = _; rw [HSN.out, if_pos ⟨hap, hin⟩]
                have HT := HQ.out
                rw [decide_eq_true hin] at HT
                have HQT := Lib.hid HT
                have hzw := HIA.out _ hin
                have HL := HLR.out m (by omega)
                clear hin HT HQ HSN
                have hone := isNs_one wx (s.seen + 1 + (m : Int)) hzw 3
                have hb3a : Below wx.heap.size wx (wx.alloc (.cells #[.int .i64 (s.seen + 1 + (m : Int))] 3)) := (Below.refl _ _).alloc (Nat.le_refl _) _
                have hrowa := HROW.out.below hb3a
                have HMa := Lib.hid (HM.out.below hb3a)
                have HXa := Lib.hid (HXX.out.below hb3a)
                have HRa := Lib.hid (HRR.out.below hb3a)
                have HNa := Lib.hid (HNN.out.below hb3a)
                have HBa := Lib.hid (bch HBB.out hb3a)
                have hsa2 : base ≤ (wx.alloc (.cells #[.int .i64 (s.seen + 1 + (m : Int))] 3)).heap.size := by simp; omega
                clear HM HXX HRR HNN HBB HROW hb3a
                go_wp2_with fail
                ((with_reducible refine HQT.out.mono ?_); rintro e0 W2_ ⟨rfl, rfl⟩)
                go_wp2_with (at_builtin; refine wpList_append_ints rfl _ _ rfl base _ (restS (s.ahead ++ [q]) a s.seen m) rfl hrowa (some ⟨wx.heap.size, 0, none⟩) 1 1 [s.seen + 1 + (m : Int)] rfl hone (by omega) hsa2 ?_)
                intro v4 W4 hrow4 hgrow4
                have hlt4 := hrowa.lt
                rw [← HNX.out] at hrow4
                obtain ⟨Aw, cw, hw, hcw, hnsw⟩ := hrow4.isNs (HIR.out (m + 1))
                subst hw
                have hne4 : ∀ g, g < base → some g ≠ (Value.slice Av (restS (s.ahead ++ [q]) a s.seen m).length cv).ownBlock := fun g hg he => by have := (hlt4 g he.symm).1; omega
                have hb4 : Below w.heap.size w W4 := HBa.out.grown hgrow4 (HBa.out.size) (fun g hg => by have := (hlt4 g hg).1; omega)
                have hm4 := HMa.out.kept hgrow4 (hne4 _ (by omega))
                have hx4 := HXa.out.kept hgrow4 (hne4 _ (by omega))
                have hr4 := HRa.out.kept hgrow4 (hne4 _ (by omega))
                have hn4 := HNa.out.kept hgrow4 (fun hn b off e => hne4 b (HNB.out hn b off e))
                have hs4 : base ≤ W4.heap.size := Nat.le_trans hsa2 hgrow4.size
                have f2 := hm4.frozen 2
                have HM4 := Lib.hid hm4; clear hm4
                have HX4 := Lib.hid hx4; clear hx4
                have HR4 := Lib.hid hr4; clear hr4
                have HN4 := Lib.hid hn4; clear hn4
                have HB4 := Lib.hid hb4; clear hb4
                have HROW4 := Lib.hid hrow4
                clear hrow4 hrowa hone HMa HXa HRa HNa HBa hgrow4 hlt4 hne4 hnsw c0 c1 c2 x0 x1 x2
                have x1 := HX4.out.cells.2.1
                have y2 := HM4.out.cells.2.2
                go_wp2_with fail
                go_roundw
                case rel =>
                  refine ⟨m + 1, _, _, rfl, by omega, by omega, by rw [show s.seen + 1 + ((m + 1 : Nat) : Int) = s.seen + 1 + (m : Int) + 1 by omega], HM4.out.putAhead _ _, HROW4.out.set1 hbg _, HX4.out.far (by omega) _ _, HR4.out.far (by omega) _ _, HN4.out.far HAP.out, by simpa using hs4, HB4.out.setCell (p := ⟨g, 2, none⟩) hg2 _⟩
                case measure => simp [intOf]; omega
              · have HNX : Hid (restS (s.ahead ++ [q]) a s.seen (m + 1) = restS (s.ahead ++ [q]) a s.seen m) := by
                  show _ = _; rw [HSN.out, if_neg (fun h => hin h.2), List.append_nil]
                have HT := HQ.out
                rw [decide_eq_false hin] at HT
                have HQT := Lib.hid HT
                clear hin HT HQ HSN
                go_wp2_with fail
                ((with_reducible refine HQT.out.mono ?_); rintro e0 W2_ ⟨rfl, rfl⟩)
                go_wp2_with fail
                go_roundw
                case rel =>
                  exact ⟨m + 1, _, _, rfl, by omega, by omega, by rw [show s.seen + 1 + ((m + 1 : Nat) : Int) = s.seen + 1 + (m : Int) + 1 by omega], by rw [HNX.out]; exact HM.out, by rw [HNX.out]; exact HROW.out, HXX.out, HRR.out, HNN.out, hbs, HBB.out⟩
                case measure => simp [intOf]; omega
            · have hme : m = 64 := by omega
              subst hme
              clear HQ HSN
              have HTT : Hid (tookS s q = ⟨s.next, a, restS (s.ahead ++ [q]) a s.seen 64⟩) := HT.out
              have hgt : s.seen + 64 < s.seen + 1 + ((64 : Nat) : Int) := by omega
              have HNV := Lib.hid (HROW.out.isNs (HIR.out 64))
              have hlb : base ≤ wx.heap.size := hbs
              have HNW := Lib.hid HROW.out.new
              generalize hLL : restS (s.ahead ++ [q]) a s.seen 64 = L at *
              obtain ⟨z0, z1, z2⟩ := HRR.out.cells
              simp only [zeroS] at z0 z1 z2
              have g0 := HRR.out.frozen 0
              have g1 := HRR.out.frozen 1
              have g2 := HRR.out.frozen 2
              have hfin := HRR.out.put ⟨s.next, a, L⟩ (.slice Av L.length cv)
              obtain ⟨e0, e1, e2⟩ := hfin.cells
              try simp only at e0 e1 e2
              have HFB := Lib.hid (below_sn3 (g := w.heap.size + 1) HBB.out (by omega) (.int .i64 s.next) (.int .i64 a) (.slice Av L.length cv))
              have HFR := Lib.hid (HROW.out.set3 (g := w.heap.size + 1) (by omega) (.int .i64 s.next) (.int .i64 a) (.slice Av L.length cv))
              clear hLL
              go_wp2_with fail
              obtain ⟨A5, cap5, hv5, hcap5, hns5⟩ := HFR.out.isNs (by have := HNV.out; obtain ⟨_, _, _, _, h⟩ := this; exact h.2.2.1)
              obtain ⟨rfl, rfl⟩ := slice_eq hv5
              refine bodyPost_ret (v := .tuple #[.agg #[.int .i64 s.next, .int .i64 a, .slice Av L.length cv], .bool true, .int .i64 0]) (by simp [results, Try.results12, go_sem, e0, e1, e2]) rfl ⟨_, _, _, by rw [HR.out, HTT.out]; rfl, hcap5, by rw [HR.out, HTT.out]; exact hns5, HNW.out.mono (by omega), HFB.out⟩
end Go.Proofs.Ytcifcpggiifjeaa
