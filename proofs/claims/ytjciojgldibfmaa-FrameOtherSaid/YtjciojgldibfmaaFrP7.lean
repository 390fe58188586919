import Derived.Test.YtjciojgldibfmaaFrP6
/-
  The contract of frame.Scan (stage 6): what scanV says, in new memory, for texts below 2^42 bytes.
-/
namespace Go.Proofs.Ytjciojgldibfmaa
open Go.RowKit
set_option linter.unusedVariables false

theorem tk_stop {v : Int} {l : List UInt8} (h : (oneR v l).2.2 = 0) (h0 : (oneR v l).2.1 = 0) : tkR v l = (zeroF, 0, 10) := by unfold tkR; rw [if_pos ⟨h, h0⟩]
theorem tk_same {v : Int} {l : List UInt8} (h : ¬ ((oneR v l).2.2 = 0 ∧ (oneR v l).2.1 = 0)) : tkR v l = oneR v l := by unfold tkR; rw [if_neg h]

set_option maxRecDepth 100000 in
set_option maxHeartbeats 4000000 in
theorem pscan_1 (s : ByteArray) (hs : s.size < 4398046511104) (w : World) :
    Calls Try.prog 18 #[.int .i64 1, .string s] w (ScanPost w (scanR 1 s.data.toList)) := by
  have hsl : s.data.toList.length = s.size := by simp
  obtain ⟨R, hR⟩ : ∃ R, scanR 1 s.data.toList = R := ⟨_, rfl⟩
  rw [hR]
  have HSL := Lib.hid hsl; clear hsl
  have HR0 := Lib.hid hR.symm; clear hR
  obtain ⟨i0, hi, hz0, hz1, hz2⟩ := info_parts infoFrm
  have q0 := formOf_1
  have hone := fun (T : ByteArray) (h1 : T.size ≤ 140737488355328) (h2 : 0 < T.size) (W : World) => take_1 T h1 h2 W
  have HONE := Lib.hid hone; clear hone
  have hsz : (s.size : Int) ≤ 4398046511104 := by omega
  go_enter Try.func18, Try.ntmps18
  go_wp2_with fail
  ((with_reducible refine (q0 _).mono ?_); rintro e W1 ⟨rfl, rfl⟩)
  go_wp2_with fail
  go_loopw [9, 10] (fun l i wr => ∃ (pre : List Frm) (at_ : Nat), at_ ≤ s.size ∧ pre.length ≤ at_ ∧ i = .int .i64 at_ ∧ wr.ownsRow w.heap.size 23 3 l pre.length (cellsR pre) ∧ Hid (∀ f ∈ pre, FrWf f) ∧ Hid (R = (pre ++ (scanR 1 (s.data.toList.drop at_)).1, at_ + (scanR 1 (s.data.toList.drop at_)).2.1, (scanR 1 (s.data.toList.drop at_)).2.2)) ∧ Below w.heap.size w wr) (fun _ i _ => s.size - (intOf i).toNat)
  case atStart => exact ⟨[], 0, by omega, by simp, rfl, World.ownsRow_nil _ _ _ _, fun f h => by simp at h, by show R = _; rw [HR0.out]; simp, Below.refl _ _⟩
  case round =>
    obtain ⟨pre, k, hk, hpk, rfl, hown, hwf, hR, hbw⟩ := hrel
    by_cases hlt : k < s.size
    · obtain ⟨T, hT⟩ : ∃ T, s.extract k s.size = T := ⟨_, rfl⟩
      have dT : T.data.toList = s.data.toList.drop k := by rw [← hT]; exact from_data s k
      have zT : T.size = s.size - k := by rw [← hT, ByteArray.size_extract]; omega
      have hsT := fun W => slice_from hT (by omega) W
      have q := fun W => HONE.out T (by omega) (by omega) W
      rw [dT] at q
      have hst := scan_at (v := 1) (l := s.data.toList) (k := k) (by have := HSL.out; omega)
      have hol := one_len (v := 1) (by omega) (s.data.toList.drop k)
      have hfo := fun h => (one_forth (v := 1) (by omega) (l := s.data.toList.drop k) (f := (oneR 1 (s.data.toList.drop k)).1) (n := (oneR 1 (s.data.toList.drop k)).2.1) h)
      have hoe := one_err 1 (s.data.toList.drop k)
      have hstop := scan_stop (v := 1) (l := s.data.toList.drop k) (by intro e; have := congrArg List.length e; rw [List.length_drop, HSL.out] at this; simp at this; omega)
      have hts := tk_stop (v := 1) (l := s.data.toList.drop k)
      have htm := tk_same (v := 1) (l := s.data.toList.drop k)
      have hRo := hR.out
      rw [List.length_drop, HSL.out] at hol
      generalize tkR 1 (s.data.toList.drop k) = t at *
      generalize oneR 1 (s.data.toList.drop k) = r at *
      obtain ⟨f, n, e⟩ := r
      simp only at hst hol hfo hoe hstop hts htm
      have hnl : (n : Int) ≤ (s.size : Int) := by omega
      have hk0 : (0 : Int) ≤ (k : Int) := by omega
      have hk1 : (k : Int) ≤ (s.size : Int) := by omega
      obtain ⟨A, cap, hv, hcap, hcm, hfr⟩ := isFr_own hown hwf.out
      subst hv
      have HFR := Lib.hid hfr; clear hfr
      have HOWN := Lib.hid hown; clear hown
      have HBW := Lib.hid hbw; clear hbw
      clear hT dT zT
      by_cases hend : e ≠ 0 ∨ n = 0
      · rw [hstop hend] at hRo
        have HRE : Hid (R = (pre, k, e)) := by show _ = _; rw [hRo]; simp
        have hcase : e = 11 ∨ e = 22 ∨ e = 0 ∧ n = 0 := by omega
        clear hst hol hfo hstop hRo hoe
        rcases hcase with rfl | rfl | ⟨rfl, rfl⟩
        · rw [htm (by omega)] at q
          unfold OnePost at q
          clear hts htm hend
          go_wp2_with fail
          ((with_reducible refine (q _).mono ?_); rintro e1 W1 ⟨rfl, b1⟩)
          go_wp2_with fail
          go_ret3
          exact ⟨A, _, cap, by rw [HRE.out]; rfl, hcap, hcm, by rw [HRE.out]; exact (HFR.out.below b1).below ((Below.refl _ _).alloc (Nat.le_refl _) _), (bch HBW.out b1).alloc (bch HBW.out b1).size _⟩
        · rw [htm (by omega)] at q
          unfold OnePost at q
          clear hts htm hend
          go_wp2_with fail
          ((with_reducible refine (q _).mono ?_); rintro e1 W1 ⟨rfl, b1⟩)
          go_wp2_with fail
          go_ret3
          exact ⟨A, _, cap, by rw [HRE.out]; rfl, hcap, hcm, by rw [HRE.out]; exact (HFR.out.below b1).below ((Below.refl _ _).alloc (Nat.le_refl _) _), (bch HBW.out b1).alloc (bch HBW.out b1).size _⟩
        · rw [hts rfl rfl] at q
          unfold OnePost at q
          simp only [zeroF] at q
          clear hts htm hend
          go_wp2_with fail
          ((with_reducible refine (q _).mono ?_); rintro e1 W1 ⟨rfl, b1⟩)
          go_wp2_with fail
          go_ret3
          exact ⟨A, _, cap, by rw [HRE.out]; rfl, hcap, hcm, by rw [HRE.out]; exact (HFR.out.below b1).below ((Below.refl _ _).alloc (Nat.le_refl _) _), (bch HBW.out b1).alloc (bch HBW.out b1).size _⟩
      · have he0 : e = 0 := by omega
        have hn0 : n ≠ 0 := by omega
        subst he0
        rw [hst hend] at hRo
        rw [htm (by omega)] at q
        unfold OnePost at q
        simp only at q
        have hokf := (hfo rfl hn0).2.1
        have HRE := Lib.hid hRo; clear hRo
        have HFW := Lib.hid (frWf_ok hokf)
        clear hst hfo hstop hoe hend hokf hts htm
        go_wp2_with fail
        ((with_reducible refine (q _).mono ?_); rintro e1 W1 ⟨rfl, b1⟩)
        have hown2 := owns_below HOWN.out b1
        have hb1 := bch HBW.out b1
        have hs1 := b1.size
        clear b1
        have hown3 : ((W1.alloc (.cells #[.int .i64 f.kind, .int .i64 f.flags, .string f.data] 23)).alloc (.cells #[.int .i64 f.kind, .int .i64 f.flags, .string f.data] 23)).ownsRow w.heap.size 23 3 (.slice A pre.length cap) pre.length (cellsR pre) := (hown2.alloc _).alloc _
        have hcell : ∀ j u, [Value.int .i64 f.kind, .int .i64 f.flags, .string f.data][j]? = some u → ((W1.alloc (.cells #[.int .i64 f.kind, .int .i64 f.flags, .string f.data] 23)).alloc (.cells #[.int .i64 f.kind, .int .i64 f.flags, .string f.data] 23)).cell? ((⟨W1.heap.size + 1, 0, none⟩ : Addr).add j) = some u := by
          have h := cell_three_new (W1.alloc (.cells #[.int .i64 f.kind, .int .i64 f.flags, .string f.data] 23)) (.int .i64 f.kind) (.int .i64 f.flags) (.string f.data) 23
          rw [World.size_alloc] at h
          exact h
        have HC := Lib.hid hcell; clear hcell
        have HB1 := Lib.hid hb1; clear hb1 hown2
        have HO3 := Lib.hid hown3; clear hown3
        go_wp2_with (at_builtin; refine wpList_append_own_at _ rfl _ _ 32 rfl w.heap.size 23 i0 (.agg #[.int .i64 0, .int .i64 0, .string ⟨#[]⟩]) 3 32 Try.underlying32 hi hz0 hz1 hz2 rfl (by decide) _ _ _ rfl HO3.out ⟨W1.heap.size + 1, 0, none⟩ 1 1 [.int .i64 f.kind, .int .i64 f.flags, .string f.data] rfl rfl HC.out ?c2 ?c3 ?c4 ?c5 ?_)
        case c2 => intro u hu; simp at hu; rcases hu with rfl | rfl | rfl <;> rfl
        case c3 => unfold maxLen; omega
        case c4 => omega
        case c5 => have := HB1.out.size; simp; omega
        intro v' V2 hown4 hgrow _ hat
        have hb2 : Below w.heap.size w V2 := ((HB1.out.alloc HB1.out.size _).alloc (by have := HB1.out.size; simp; omega) _).grown hgrow (by have := HB1.out.size; simp; omega) (fun g hg => (HO3.out.lt g hg).1)
        have HB2 := Lib.hid hb2; clear hb2 hgrow
        go_wp2_with fail
        go_roundw
        case rel =>
          refine ⟨pre ++ [f], k + n, by omega, by simp; omega, by go_num, ?_, ?_, ?_, HB2.out⟩
          · rw [cellsR_append, List.length_append]; exact hown4
          · intro g hg
            rcases List.mem_append.1 hg with hg | hg
            · exact hwf.out g hg
            · simp at hg; subst hg; exact HFW.out
          · show R = _
            rw [HRE.out]; simp [Nat.add_assoc]
        case measure => simp [intOf]; omega
    · have hke : k = s.size := by omega
      obtain ⟨A, cap, hv, hcap, hcm, hfr⟩ := isFr_own hown hwf.out
      subst hv
      have HRE : Hid (R = (pre, k, 0)) := by
        show _ = _
        rw [hR.out, List.drop_of_length_le (by have := HSL.out; omega), scan_nil]; simp
      subst hke
      go_wp2_with fail
      go_ret3
      exact ⟨A, _, cap, by rw [HRE.out]; rfl, hcap, hcm, by rw [HRE.out]; exact hfr, hbw⟩

set_option maxRecDepth 100000 in
set_option maxHeartbeats 4000000 in
theorem pscan_2 (s : ByteArray) (hs : s.size < 4398046511104) (w : World) :
    Calls Try.prog 18 #[.int .i64 2, .string s] w (ScanPost w (scanR 2 s.data.toList)) := by
  have hsl : s.data.toList.length = s.size := by simp
  obtain ⟨R, hR⟩ : ∃ R, scanR 2 s.data.toList = R := ⟨_, rfl⟩
  rw [hR]
  have HSL := Lib.hid hsl; clear hsl
  have HR0 := Lib.hid hR.symm; clear hR
  obtain ⟨i0, hi, hz0, hz1, hz2⟩ := info_parts infoFrm
  have q0 := formOf_2
  have hone := fun (T : ByteArray) (h1 : T.size ≤ 140737488355328) (h2 : 0 < T.size) (W : World) => take_2 T h1 h2 W
  have HONE := Lib.hid hone; clear hone
  have hsz : (s.size : Int) ≤ 4398046511104 := by omega
  go_enter Try.func18, Try.ntmps18
  go_wp2_with fail
  ((with_reducible refine (q0 _).mono ?_); rintro e W1 ⟨rfl, rfl⟩)
  go_wp2_with fail
  go_loopw [9, 10] (fun l i wr => ∃ (pre : List Frm) (at_ : Nat), at_ ≤ s.size ∧ pre.length ≤ at_ ∧ i = .int .i64 at_ ∧ wr.ownsRow w.heap.size 23 3 l pre.length (cellsR pre) ∧ Hid (∀ f ∈ pre, FrWf f) ∧ Hid (R = (pre ++ (scanR 2 (s.data.toList.drop at_)).1, at_ + (scanR 2 (s.data.toList.drop at_)).2.1, (scanR 2 (s.data.toList.drop at_)).2.2)) ∧ Below w.heap.size w wr) (fun _ i _ => s.size - (intOf i).toNat)
  case atStart => exact ⟨[], 0, by omega, by simp, rfl, World.ownsRow_nil _ _ _ _, fun f h => by simp at h, by show R = _; rw [HR0.out]; simp, Below.refl _ _⟩
  case round =>
    obtain ⟨pre, k, hk, hpk, rfl, hown, hwf, hR, hbw⟩ := hrel
    by_cases hlt : k < s.size
    · obtain ⟨T, hT⟩ : ∃ T, s.extract k s.size = T := ⟨_, rfl⟩
      have dT : T.data.toList = s.data.toList.drop k := by rw [← hT]; exact from_data s k
      have zT : T.size = s.size - k := by rw [← hT, ByteArray.size_extract]; omega
      have hsT := fun W => slice_from hT (by omega) W
      have q := fun W => HONE.out T (by omega) (by omega) W
      rw [dT] at q
      have hst := scan_at (v := 2) (l := s.data.toList) (k := k) (by have := HSL.out; omega)
      have hol := one_len (v := 2) (by omega) (s.data.toList.drop k)
      have hfo := fun h => (one_forth (v := 2) (by omega) (l := s.data.toList.drop k) (f := (oneR 2 (s.data.toList.drop k)).1) (n := (oneR 2 (s.data.toList.drop k)).2.1) h)
      have hoe := one_err 2 (s.data.toList.drop k)
      have hstop := scan_stop (v := 2) (l := s.data.toList.drop k) (by intro e; have := congrArg List.length e; rw [List.length_drop, HSL.out] at this; simp at this; omega)
      have hts := tk_stop (v := 2) (l := s.data.toList.drop k)
      have htm := tk_same (v := 2) (l := s.data.toList.drop k)
      have hRo := hR.out
      rw [List.length_drop, HSL.out] at hol
      generalize tkR 2 (s.data.toList.drop k) = t at *
      generalize oneR 2 (s.data.toList.drop k) = r at *
      obtain ⟨f, n, e⟩ := r
      simp only at hst hol hfo hoe hstop hts htm
      have hnl : (n : Int) ≤ (s.size : Int) := by omega
      have hk0 : (0 : Int) ≤ (k : Int) := by omega
      have hk1 : (k : Int) ≤ (s.size : Int) := by omega
      obtain ⟨A, cap, hv, hcap, hcm, hfr⟩ := isFr_own hown hwf.out
      subst hv
      have HFR := Lib.hid hfr; clear hfr
      have HOWN := Lib.hid hown; clear hown
      have HBW := Lib.hid hbw; clear hbw
      clear hT dT zT
      by_cases hend : e ≠ 0 ∨ n = 0
      · rw [hstop hend] at hRo
        have HRE : Hid (R = (pre, k, e)) := by show _ = _; rw [hRo]; simp
        have hcase : e = 11 ∨ e = 22 ∨ e = 0 ∧ n = 0 := by omega
        clear hst hol hfo hstop hRo hoe
        rcases hcase with rfl | rfl | ⟨rfl, rfl⟩
        · rw [htm (by omega)] at q
          unfold OnePost at q
          clear hts htm hend
          go_wp2_with fail
          ((with_reducible refine (q _).mono ?_); rintro e1 W1 ⟨rfl, b1⟩)
          go_wp2_with fail
          go_ret3
          exact ⟨A, _, cap, by rw [HRE.out]; rfl, hcap, hcm, by rw [HRE.out]; exact (HFR.out.below b1).below ((Below.refl _ _).alloc (Nat.le_refl _) _), (bch HBW.out b1).alloc (bch HBW.out b1).size _⟩
        · rw [htm (by omega)] at q
          unfold OnePost at q
          clear hts htm hend
          go_wp2_with fail
          ((with_reducible refine (q _).mono ?_); rintro e1 W1 ⟨rfl, b1⟩)
          go_wp2_with fail
          go_ret3
          exact ⟨A, _, cap, by rw [HRE.out]; rfl, hcap, hcm, by rw [HRE.out]; exact (HFR.out.below b1).below ((Below.refl _ _).alloc (Nat.le_refl _) _), (bch HBW.out b1).alloc (bch HBW.out b1).size _⟩
        · rw [hts rfl rfl] at q
          unfold OnePost at q
          simp only [zeroF] at q
          clear hts htm hend
          go_wp2_with fail
          ((with_reducible refine (q _).mono ?_); rintro e1 W1 ⟨rfl, b1⟩)
          go_wp2_with fail
          go_ret3
          exact ⟨A, _, cap, by rw [HRE.out]; rfl, hcap, hcm, by rw [HRE.out]; exact (HFR.out.below b1).below ((Below.refl _ _).alloc (Nat.le_refl _) _), (bch HBW.out b1).alloc (bch HBW.out b1).size _⟩
      · have he0 : e = 0 := by omega
        have hn0 : n ≠ 0 := by omega
        subst he0
        rw [hst hend] at hRo
        rw [htm (by omega)] at q
        unfold OnePost at q
        simp only at q
        have hokf := (hfo rfl hn0).2.1
        have HRE := Lib.hid hRo; clear hRo
        have HFW := Lib.hid (frWf_ok hokf)
        clear hst hfo hstop hoe hend hokf hts htm
        go_wp2_with fail
        ((with_reducible refine (q _).mono ?_); rintro e1 W1 ⟨rfl, b1⟩)
        have hown2 := owns_below HOWN.out b1
        have hb1 := bch HBW.out b1
        have hs1 := b1.size
        clear b1
        have hown3 : ((W1.alloc (.cells #[.int .i64 f.kind, .int .i64 f.flags, .string f.data] 23)).alloc (.cells #[.int .i64 f.kind, .int .i64 f.flags, .string f.data] 23)).ownsRow w.heap.size 23 3 (.slice A pre.length cap) pre.length (cellsR pre) := (hown2.alloc _).alloc _
        have hcell : ∀ j u, [Value.int .i64 f.kind, .int .i64 f.flags, .string f.data][j]? = some u → ((W1.alloc (.cells #[.int .i64 f.kind, .int .i64 f.flags, .string f.data] 23)).alloc (.cells #[.int .i64 f.kind, .int .i64 f.flags, .string f.data] 23)).cell? ((⟨W1.heap.size + 1, 0, none⟩ : Addr).add j) = some u := by
          have h := cell_three_new (W1.alloc (.cells #[.int .i64 f.kind, .int .i64 f.flags, .string f.data] 23)) (.int .i64 f.kind) (.int .i64 f.flags) (.string f.data) 23
          rw [World.size_alloc] at h
          exact h
        have HC := Lib.hid hcell; clear hcell
        have HB1 := Lib.hid hb1; clear hb1 hown2
        have HO3 := Lib.hid hown3; clear hown3
        go_wp2_with (at_builtin; refine wpList_append_own_at _ rfl _ _ 32 rfl w.heap.size 23 i0 (.agg #[.int .i64 0, .int .i64 0, .string ⟨#[]⟩]) 3 32 Try.underlying32 hi hz0 hz1 hz2 rfl (by decide) _ _ _ rfl HO3.out ⟨W1.heap.size + 1, 0, none⟩ 1 1 [.int .i64 f.kind, .int .i64 f.flags, .string f.data] rfl rfl HC.out ?c2 ?c3 ?c4 ?c5 ?_)
        case c2 => intro u hu; simp at hu; rcases hu with rfl | rfl | rfl <;> rfl
        case c3 => unfold maxLen; omega
        case c4 => omega
        case c5 => have := HB1.out.size; simp; omega
        intro v' V2 hown4 hgrow _ hat
        have hb2 : Below w.heap.size w V2 := ((HB1.out.alloc HB1.out.size _).alloc (by have := HB1.out.size; simp; omega) _).grown hgrow (by have := HB1.out.size; simp; omega) (fun g hg => (HO3.out.lt g hg).1)
        have HB2 := Lib.hid hb2; clear hb2 hgrow
        go_wp2_with fail
        go_roundw
        case rel =>
          refine ⟨pre ++ [f], k + n, by omega, by simp; omega, by go_num, ?_, ?_, ?_, HB2.out⟩
          · rw [cellsR_append, List.length_append]; exact hown4
          · intro g hg
            rcases List.mem_append.1 hg with hg | hg
            · exact hwf.out g hg
            · simp at hg; subst hg; exact HFW.out
          · show R = _
            rw [HRE.out]; simp [Nat.add_assoc]
        case measure => simp [intOf]; omega
    · have hke : k = s.size := by omega
      obtain ⟨A, cap, hv, hcap, hcm, hfr⟩ := isFr_own hown hwf.out
      subst hv
      have HRE : Hid (R = (pre, k, 0)) := by
        show _ = _
        rw [hR.out, List.drop_of_length_le (by have := HSL.out; omega), scan_nil]; simp
      subst hke
      go_wp2_with fail
      go_ret3
      exact ⟨A, _, cap, by rw [HRE.out]; rfl, hcap, hcm, by rw [HRE.out]; exact hfr, hbw⟩

set_option maxRecDepth 100000 in
set_option maxHeartbeats 1000000 in
theorem pscan_no (v : Int) (h1 : (v == 1) = false) (h2 : (v == 2) = false) (s : ByteArray) (w : World) :
    Calls Try.prog 18 #[.int .i64 v, .string s] w (ScanPost w ([], 0, 1)) := by
  have q0 := formOf_no v h1 h2
  go_enter Try.func18, Try.ntmps18
  go_wp2_with fail
  ((with_reducible refine (q0 _).mono ?_); rintro e W1 ⟨rfl, rfl⟩)
  go_wp2_with fail
  go_ret3
  exact ⟨none, 0, 0, rfl, Nat.le_refl _, by omega, isFr_nil _ _, Below.refl _ _⟩
theorem scanC : ScanC := fun v s hs w => by
  unfold scanV
  rcases ver_cases v with rfl | rfl | ⟨h1, h2⟩
  · rw [if_pos (by omega)]; exact pscan_1 s hs w
  · rw [if_pos (by omega)]; exact pscan_2 s hs w
  · rw [if_neg (by simp at h1 h2; omega)]; exact pscan_no v h1 h2 s w
end Go.Proofs.Ytjciojgldibfmaa
