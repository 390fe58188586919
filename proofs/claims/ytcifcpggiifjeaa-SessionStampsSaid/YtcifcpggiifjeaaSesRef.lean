import Derived.Test.YtcifcpggiifjeaaSes
import Derived.Deep.DeepCutAuto
/-
  The contracts of the document's own functions of sessions, Take apart (stage 10).
-/
namespace Go.Proofs.Ytcifcpggiifjeaa
open Go.RowKit
set_option linter.unusedVariables false

set_option maxRecDepth 100000 in
set_option maxHeartbeats 2000000 in
theorem refhas_any (A : Option Addr) (n cap : Nat) (l : List Int) (q : Int) (w : World) (h : IsNs w A n l) :
    Calls Try.prog 22 #[.slice A n cap, .int .i64 q] w fun e w' => e = .returned (.bool (decide (q ∈ l))) ∧ w = w' := by
  obtain ⟨hn, hm, hwf, hat⟩ := h
  unfold maxLen at hm
  obtain ⟨R, hR⟩ : ∃ R, decide (q ∈ l) = R := ⟨_, rfl⟩
  rw [hR]
  have HR := Lib.hid hR; clear hR
  have HN := Lib.hid hn; clear hn
  have HAT := Lib.hid hat; clear hat
  go_enter Try.func22, Try.ntmps22
  go_wp2_with fail
  go_loopw [5] (fun i wr => ∃ k : Nat, k ≤ n ∧ i = .int .i64 k ∧ wr = w ∧ Hid (q ∉ l.take k)) (fun i _ => n - (intOf i).toNat)
  case atStart => exact ⟨0, by omega, rfl, rfl, by show q ∉ l.take 0; simp⟩
  case round =>
    obtain ⟨k, hk, rfl, rfl, hno⟩ := hrel
    by_cases hlt : k < n
    · obtain ⟨b, off, hA, hb, hc⟩ := HAT.out (by omega)
      subst hA
      have HK : Hid (k < l.length) := by have := HN.out; show k < l.length; omega
      have c0 := hc k HK.out
      clear hc
      have hTK : Hid (l.take (k + 1) = l.take k ++ [l.getD k 0]) := by
        show _ = _
        rw [List.take_succ_eq_append_getElem HK.out, List.getD_eq_getElem?_getD, List.getElem?_eq_getElem HK.out]; rfl
      have hIN : Hid (l.getD k 0 ∈ l) := by
        show _ ∈ _
        rw [List.getD_eq_getElem?_getD, List.getElem?_eq_getElem HK.out]; exact List.getElem_mem _
      generalize l.getD k 0 = z at *
      by_cases hz : z = q
      · have HE : Hid (R = true) := by show _ = _; rw [← HR.out]; exact decide_eq_true (hz ▸ hIN.out)
        have e1 : (z == q) = true := by simpa using hz
        clear hz hIN hTK
        go_wp2_with fail
        go_ret
        exact ⟨ret_bool HE.out.symm, rfl⟩
      · have HNX : Hid (q ∉ l.take (k + 1)) := by
          show _ ∉ _
          rw [hTK.out, List.mem_append, List.mem_singleton]
          rintro (h | h)
          · exact hno.out h
          · exact hz h.symm
        have e1 : (z == q) = false := by simpa using hz
        clear hz hIN hTK
        go_wp2_with fail
        go_roundw
        case rel => exact ⟨k + 1, by omega, by go_num, by first | trivial | rfl, HNX⟩
        case measure => simp [intOf]; omega
    · have HE : Hid (R = false) := by
        show _ = _
        rw [← HR.out]
        refine decide_eq_false ?_
        have h := hno.out
        rw [List.take_of_length_le (by have := HN.out; omega)] at h
        exact h
      go_wp2_with fail
      go_ret
      exact ⟨ret_bool HE.out.symm, rfl⟩

set_option maxRecDepth 100000 in
set_option maxHeartbeats 4000000 in
theorem refrightS_any (s : Sn) (A : Option Addr) (n cap : Nat) (w : World) (hw : SnWf s) (h : IsNs w A n s.ahead) :
    Calls Try.prog 17 #[snV s (.slice A n cap)] w fun e w' => e = .returned (.bool (rightS s)) ∧ Below w.heap.size w w' := by
  have hb0 : Below w.heap.size w (w.alloc (.cells #[.int .i64 s.next, .int .i64 s.seen, .slice A n cap] 24)) := (Below.refl _ _).alloc (Nat.le_refl _) _
  have hm0 := SnBlk.new w s (.slice A n cap)
  unfold snV
  obtain ⟨W0, hW0⟩ : ∃ W, w.alloc (.cells #[.int .i64 s.next, .int .i64 s.seen, .slice A n cap] 24) = W := ⟨_, rfl⟩
  rw [hW0] at hb0 hm0
  have hns := h.below hb0
  have HB0 := Lib.hid hb0; clear hb0
  have HM := Lib.hid hm0; clear hm0
  have HH := Lib.hid hns; clear hns
  have HLEN := Lib.hid h.1
  clear h
  obtain ⟨R, hR⟩ : ∃ R, rightS s = R := ⟨_, rfl⟩
  rw [hR]
  have HNO : Hid (¬ RightS s → R = false) := fun h => by rw [← hR]; exact rightS_no h
  have HYES : Hid (RightS s → R = true) := fun h => by rw [← hR]; exact rightS_iff.2 h
  clear hR
  obtain ⟨c0, c1, c2⟩ := HM.out.cells
  obtain ⟨w1, w2⟩ := hw
  have hs1 := wf_bounds w1
  have hs2 := wf_bounds w2
  have HADJ := Lib.hid (RightS_adj (s := s))
  by_cases h1 : s.next < 1
  · have HE : Hid (R = false) := HNO.out (fun h => by have := h.1; omega)
    clear HNO HYES
    go_enter Try.func17, Try.ntmps17
    go_wp2_with fail
    go_ret
    exact ⟨ret_bool HE.out.symm, HB0.out⟩
  by_cases h2 : 9007199254740992 < s.next
  · have HE : Hid (R = false) := HNO.out (fun h => by have := h.1; omega)
    clear HNO HYES
    go_enter Try.func17, Try.ntmps17
    go_wp2_with fail
    go_ret
    exact ⟨ret_bool HE.out.symm, HB0.out⟩
  by_cases h3 : s.seen < 0
  · have HE : Hid (R = false) := HNO.out (fun h => by have := h.2.1; omega)
    clear HNO HYES
    go_enter Try.func17, Try.ntmps17
    go_wp2_with fail
    go_ret
    exact ⟨ret_bool HE.out.symm, HB0.out⟩
  by_cases h4 : 9007199254740992 < s.seen
  · have HE : Hid (R = false) := HNO.out (fun h => by have := h.2.1; omega)
    clear HNO HYES
    go_enter Try.func17, Try.ntmps17
    go_wp2_with fail
    go_ret
    exact ⟨ret_bool HE.out.symm, HB0.out⟩
  by_cases h5 : 64 < n
  · have HE : Hid (R = false) := HNO.out (fun h => by have := (HADJ.out.1 h).2.2.1; have := HLEN.out; omega)
    have e5 : (64 : Int) < (n : Int) := by omega
    clear HNO HYES
    go_enter Try.func17, Try.ntmps17
    go_wp2_with fail
    go_ret
    exact ⟨ret_bool HE.out.symm, HB0.out⟩
  have e5 : (n : Int) ≤ 64 := by omega
  obtain ⟨next, seen, ahead⟩ := s
  simp only at *
  have HBASE : Hid ((1 ≤ next ∧ next ≤ 9007199254740992) ∧ (0 ≤ seen ∧ seen ≤ 9007199254740992) ∧ ahead.length ≤ 64) := ⟨by omega, by omega, by have := HLEN.out; omega⟩
  go_enter Try.func17, Try.ntmps17
  go_wp2_with fail
  clear c0 c1 c2
  go_loopw [3, 4] (fun l i wr => ∃ k : Nat, k ≤ n ∧ i = .int .i64 k ∧ l = .int .i64 (lastS (seen + 1) ahead k) ∧ Hid (Below W0.heap.size W0 wr) ∧ Hid (∀ j, j < k → okS ⟨next, seen, ahead⟩ j)) (fun _ i _ => n - (intOf i).toNat)
  case atStart => exact ⟨0, by omega, rfl, rfl, Below.refl _ _, fun j hj => by omega⟩
  case round =>
    obtain ⟨k, hk, rfl, rfl, hbw, hok⟩ := hrel
    obtain ⟨c0, c1, c2⟩ := (HM.out.below hbw.out).cells
    simp only at c0 c1 c2
    by_cases hlt : k < n
    · obtain ⟨b, off, hA, hb, hc⟩ := HH.out.2.2.2 (by omega)
      subst hA
      have HK : Hid (k < ahead.length) := by have := HLEN.out; show k < ahead.length; omega
      have x0 := (hbw.out.cell (p := ⟨b, off + k, none⟩) hb).trans (hc k HK.out)
      clear hc
      have HBAD : Hid (¬ okS ⟨next, seen, ahead⟩ k → R = false) := fun h => HNO.out (fun h2 => h ((HADJ.out.1 h2).2.2.2 k HK.out))
      have HOKI : Hid (okS ⟨next, seen, ahead⟩ k ↔ lastS (seen + 1) ahead k < ahead.getD k 0 ∧ ahead.getD k 0 ≤ seen + 64 ∧ ahead.getD k 0 ≤ 9007199254740992) := Iff.rfl
      have hnx : Hid (lastS (seen + 1) ahead (k + 1) = ahead.getD k 0) := rfl
      have hzb := wf_bounds (ints_at HH.out.2.2.1 HK.out)
      generalize lastS (seen + 1) ahead k = la at *
      generalize ahead.getD k 0 = z at *
      by_cases g1 : z ≤ la
      · have HE : Hid (R = false) := HBAD.out (fun h => by have := (HOKI.out.1 h).1; omega)
        have d1 : decide (z ≤ la) = true := decide_eq_true g1
        clear HBAD HOKI hok g1
        go_wp2_with fail
        go_quiet (fail)
        go_wp2_with fail
        go_ret
        exact ⟨ret_bool HE.out.symm, bdn (bch HB0.out hbw.out) _⟩
      have d1 : decide (z ≤ la) = false := decide_eq_false g1
      by_cases g2 : seen + 64 < z
      · have HE : Hid (R = false) := HBAD.out (fun h => by have := (HOKI.out.1 h).2.1; omega)
        have d2 : decide (seen + 64 < z) = true := decide_eq_true g2
        clear HBAD HOKI hok g1
        go_wp2_with fail
        go_quiet (fail)
        go_wp2_with fail
        go_ret
        exact ⟨ret_bool HE.out.symm, bdn (bch HB0.out hbw.out) _⟩
      have d2 : decide (seen + 64 < z) = false := decide_eq_false g2
      by_cases g3 : 9007199254740992 < z
      · have HE : Hid (R = false) := HBAD.out (fun h => by have := (HOKI.out.1 h).2.2; omega)
        have d3 : decide (9007199254740992 < z) = true := decide_eq_true g3
        clear HBAD HOKI hok g1 g2
        go_wp2_with fail
        go_quiet (fail)
        go_wp2_with fail
        go_ret
        exact ⟨ret_bool HE.out.symm, bdn (bch HB0.out hbw.out) _⟩
      have d3 : decide (9007199254740992 < z) = false := decide_eq_false g3
      have HNX : Hid (∀ j, j < k + 1 → okS ⟨next, seen, ahead⟩ j) := fun j hj => by
        rcases Nat.lt_or_ge j k with h2 | h2
        · exact hok.out j h2
        · rw [show j = k by omega]; exact HOKI.out.2 ⟨by omega, by omega, by omega⟩
      clear HBAD HOKI hok g1 g2 g3
      go_wp2_with fail
      go_quiet (fail)
      go_wp2_with fail
      go_roundw
      case rel => exact ⟨k + 1, by omega, by go_num, by rw [hnx.out], bdn hbw.out _, HNX⟩
      case measure => simp [intOf]; omega
    · have hke : n = k := by omega
      subst hke
      have HE : Hid (R = true) := HYES.out (HADJ.out.2 ⟨HBASE.out.1, HBASE.out.2.1, HBASE.out.2.2, fun j hj => hok.out j (by have := HLEN.out; omega)⟩)
      go_wp2_with fail
      go_ret
      exact ⟨ret_bool HE.out.symm, bch HB0.out hbw.out⟩

theorem slice_eq {A B : Option Addr} {n c d : Nat} (h : Value.slice A n c = .slice B n d) : A = B ∧ c = d := by cases h; exact ⟨rfl, rfl⟩
theorem below_sn3 {w W : World} {B g : Nat} (h : Below B w W) (hg : B ≤ g) (x y z : Value) : Below B w (((W.setCell ⟨g, 0, none⟩ x).setCell ⟨g, 1, none⟩ y).setCell ⟨g, 2, none⟩ z) :=
  ((h.setCell (p := ⟨g, 0, none⟩) hg _).setCell (p := ⟨g, 1, none⟩) hg _).setCell (p := ⟨g, 2, none⟩) hg _
theorem RowI.set3 {W : World} {base g : Nat} {v : Value} {l : List Int} (h : RowI W base v l) (hg : g < base) (x y z : Value) : RowI (((W.setCell ⟨g, 0, none⟩ x).setCell ⟨g, 1, none⟩ y).setCell ⟨g, 2, none⟩ z) base v l :=
  ownsRow_setCell_below (a := ⟨g, 2, none⟩) (ownsRow_setCell_below (a := ⟨g, 1, none⟩) (ownsRow_setCell_below (a := ⟨g, 0, none⟩) h hg x) hg y) hg z
theorem RowI.set1 {W : World} {base g j : Nat} {v : Value} {l : List Int} (h : RowI W base v l) (hg : g < base) (x : Value) : RowI (W.setCell ⟨g, j, none⟩ x) base v l :=
  ownsRow_setCell_below (a := ⟨g, j, none⟩) h hg x
theorem below_grown {w w' : World} {v : Value} (hg : w.grownBy w' v.ownBlock) (hv : ∀ g, v.ownBlock = some g → w.heap.size ≤ g) : Below w.heap.size w w' := (Below.refl _ _).grown hg (Nat.le_refl _) hv
set_option maxRecDepth 100000 in
set_option maxHeartbeats 4000000 in
theorem refownS_any (s : Sn) (A : Option Addr) (n cap : Nat) (w : World) (h : IsNs w A n s.ahead) (h100 : n ≤ 100) :
    Calls Try.prog 21 #[snV s (.slice A n cap)] w (SnPost w s id) := by
  have hm0 := SnBlk.new w s (.slice A n cap)
  have hb0 : Below w.heap.size w (w.alloc (.cells #[.int .i64 s.next, .int .i64 s.seen, .slice A n cap] 24)) := (Below.refl _ _).alloc (Nat.le_refl _) _
  unfold snV
  obtain ⟨W0, hW0⟩ : ∃ W, w.alloc (.cells #[.int .i64 s.next, .int .i64 s.seen, .slice A n cap] 24) = W := ⟨_, rfl⟩
  have hs0 : W0.heap.size = w.heap.size + 1 := by rw [← hW0]; simp
  rw [hW0] at hb0 hm0
  have HWF := Lib.hid h.2.2.1
  have HNS := Lib.hid (h.below hb0); clear h
  have HB0 := Lib.hid hb0; clear hb0
  have HM0 := Lib.hid hm0; clear hm0
  have HS0 := Lib.hid hs0; clear hs0
  go_enter Try.func21, Try.ntmps21
  go_upto_region 1 with fail
  have hr1 : SnBlk (W0.alloc (.cells #[.int .i64 0, .int .i64 0, .slice none 0 0] 24)) W0.heap.size zeroS (.slice none 0 0) := SnBlk.new W0 zeroS (.slice none 0 0)
  have hb1 : Below W0.heap.size W0 (W0.alloc (.cells #[.int .i64 0, .int .i64 0, .slice none 0 0] 24)) := (Below.refl _ _).alloc (Nat.le_refl _) _
  have hs1 : (W0.alloc (.cells #[.int .i64 0, .int .i64 0, .slice none 0 0] 24)).heap.size = W0.heap.size + 1 := by simp
  obtain ⟨W1, hW1⟩ : ∃ W, W0.alloc (.cells #[.int .i64 0, .int .i64 0, .slice none 0 0] 24) = W := ⟨_, rfl⟩
  rw [hW1] at hr1 hb1 hs1
  rw [hW1]
  clear hW1 hW0
  have hc := HM0.out.below hb1
  have HR1 := Lib.hid hr1; clear hr1
  have HB1 := Lib.hid hb1; clear hb1
  have HS1 := Lib.hid hs1; clear hs1
  obtain ⟨c0, c1, c2⟩ := hc.cells
  go_upto_region 2 with fail
  have hr2 := SnBlk.new W1 s (.slice A n cap)
  have hb2 : Below W1.heap.size W1 (W1.alloc (.cells #[.int .i64 s.next, .int .i64 s.seen, .slice A n cap] 24)) := (Below.refl _ _).alloc (Nat.le_refl _) _
  have hs2 : (W1.alloc (.cells #[.int .i64 s.next, .int .i64 s.seen, .slice A n cap] 24)).heap.size = W1.heap.size + 1 := by simp
  obtain ⟨W2, hW2⟩ : ∃ W, W1.alloc (.cells #[.int .i64 s.next, .int .i64 s.seen, .slice A n cap] 24) = W := ⟨_, rfl⟩
  rw [hW2] at hr2 hb2 hs2
  rw [hW2]
  clear hW2 c0 c1 c2
  have hb02 := bch HB1.out hb2
  have hc := HM0.out.below hb02
  have hns := HNS.out.below hb02
  have HR2 := Lib.hid hr2; clear hr2
  have HR1b := Lib.hid (HR1.out.below hb2)
  have HB2 := Lib.hid hb2; clear hb2
  have HS2 := Lib.hid hs2; clear hs2
  obtain ⟨c0, c1, c2⟩ := hc.cells
  have f2 := HR2.out.frozen 2
  go_wp2_with (at_builtin; refine wpList_append_ints rfl _ _ rfl W2.heap.size _ [] rfl (rowI_nil W2 _) A n cap s.ahead rfl hns (by simp; omega) (Nat.le_refl _) ?_)
  intro v' W3 hrow hgrow
  obtain ⟨A2, cap2, hv, hcap, _⟩ := hrow.isNs HWF.out
  subst hv
  have hb3 : Below W2.heap.size W2 W3 := below_grown hgrow (fun g hg => by cases hg)
  have f3 := (HR2.out.below hb3).frozen 2
  have hr3 := (HR2.out.below hb3).putAhead s.ahead (.slice A2 s.ahead.length cap2)
  have hq3 := (HR1b.out.below hb3).far (g := W1.heap.size) (by have := HS1.out; omega) 2 (.slice A2 s.ahead.length cap2)
  have hrow3 := hrow.set1 (g := W1.heap.size) (j := 2) (by have := HS2.out; omega) (.slice A2 s.ahead.length cap2)
  have hb4 := (bch HB2.out hb3).setCell (p := ⟨W1.heap.size, 2, none⟩) (Nat.le_refl _) (.slice A2 s.ahead.length cap2)
  have hlt : W0.heap.size < W2.heap.size := by have := HS1.out; have := HS2.out; omega
  have HR2c := Lib.hid (HR2.out.below hb3)
  have HR1c := Lib.hid (HR1b.out.below hb3)
  have HR3 := Lib.hid hr3; clear hr3
  have HQ3 := Lib.hid hq3; clear hq3
  have HROW := Lib.hid hrow3; clear hrow3 hrow hgrow
  have HB4 := Lib.hid hb4; clear hb4 hb3
  clear hc c0 c1 c2 hns f2 hb02
  obtain ⟨d0, d1, d2⟩ := HR2c.out.cells
  obtain ⟨z0, z1, z2⟩ := HR1c.out.cells
  simp only [zeroS] at z0 z1 z2
  have g0 := HR1c.out.frozen 0
  have g1 := HR1c.out.frozen 1
  have g2 := HR1c.out.frozen 2
  have hne : W0.heap.size ≠ W1.heap.size := by have := HS1.out; omega
  go_wp2_with fail
  have hfin := HQ3.out.put s (.slice A2 s.ahead.length cap2)
  obtain ⟨e0, e1, e2⟩ := hfin.cells
  have hrowf := HROW.out.set3 (g := W0.heap.size) hlt (.int .i64 s.next) (.int .i64 s.seen) (.slice A2 s.ahead.length cap2)
  obtain ⟨A3, cap3, hv, hcap3, hns⟩ := hrowf.isNs HWF.out
  have hAA := slice_eq hv
  obtain ⟨rfl, rfl⟩ := hAA
  have hbf := below_sn3 (g := W0.heap.size) (bch HB0.out (bch HB1.out HB4.out)) (by have := HS0.out; omega) (.int .i64 s.next) (.int .i64 s.seen) (.slice A2 s.ahead.length cap2)
  refine bodyPost_ret (v := snV s (.slice A2 s.ahead.length cap2)) (by simp [snV, results, Try.results21, go_sem, e0, e1, e2]) rfl ⟨_, s.ahead.length, _, rfl, hcap, hns, hrowf.new.mono (by have := HS0.out; have := HS1.out; have := HS2.out; omega), hbf⟩
end Go.Proofs.Ytcifcpggiifjeaa
