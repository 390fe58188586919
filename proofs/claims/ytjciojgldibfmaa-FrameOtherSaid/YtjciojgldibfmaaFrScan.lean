import Derived.Test.YtjciojgldibfmaaFrOne
/-
  The contract of the document's own Scan (stage 6): what scanV says, in new memory; nothing that was in memory changes. (For texts that are not longer than 2^42 bytes: a slice of frames must fit into memory.)
-/
namespace Go.Proofs.Ytjciojgldibfmaa
open Go.RowKit
set_option linter.unusedVariables false

/-- What Scan leaves. -/
def ScanPost (w : World) (r : List Frm × Nat × Nat) (e : Ending) (w' : World) : Prop :=
  ∃ A n cap, e = .returned (.tuple #[.slice A n cap, .int .i64 r.2.1, .int .i64 r.2.2]) ∧ n ≤ cap ∧ cap ≤ 9223372036854775807 ∧ IsFr w' A n r.1 ∧ Below w.heap.size w w'
theorem owns_below {w w' : World} {base size n : Nat} {e : TypeId} {v : Value} {xs : List Value} (h : w.ownsRow base e size v n xs) (hb : Below w.heap.size w w') : w'.ownsRow base e size v n xs :=
  h.kept (row := none) ⟨hb.os, hb.tape, hb.output, hb.size, fun i hi _ => hb.block i hi⟩ (by cases v.ownBlock with
    | none => exact .inl rfl
    | some x => exact .inr (fun e => by cases e))
theorem scan_at {v : Int} {l : List UInt8} {k : Nat} (hk : k < l.length) (h : ¬ ((oneR v (l.drop k)).2.2 ≠ 0 ∨ (oneR v (l.drop k)).2.1 = 0)) :
    scanR v (l.drop k) = ((oneR v (l.drop k)).1 :: (scanR v (l.drop (k + (oneR v (l.drop k)).2.1))).1, (oneR v (l.drop k)).2.1 + (scanR v (l.drop (k + (oneR v (l.drop k)).2.1))).2.1, (scanR v (l.drop (k + (oneR v (l.drop k)).2.1))).2.2) := by
  have hne : l.drop k ≠ [] := by intro e; have := congrArg List.length e; rw [List.length_drop] at this; simp at this; omega
  rw [scan_step hne h, List.drop_drop]
theorem one_err (v : Int) (l : List UInt8) : (oneR v l).2.2 = 0 ∨ (oneR v l).2.2 = 11 ∨ (oneR v l).2.2 = 22 := by
  unfold oneR
  split
  · simp
  split
  · simp
  split
  · simp
  split
  · simp
  split
  · simp
  · simp
theorem one_len {v : Int} (hv : v = 1 ∨ v = 2) (l : List UInt8) : (oneR v l).2.1 ≤ l.length := by
  by_cases h0 : (oneR v l).2.1 = 0
  · omega
  · have : (oneR v l).2.2 = 0 := by
      unfold oneR at h0 ⊢
      split
      · rename_i h; rw [if_pos h] at h0; simp at h0
      rename_i h; rw [if_neg h] at h0
      split
      · rename_i h; rw [if_pos h] at h0; simp at h0
      rename_i h; rw [if_neg h] at h0
      split
      · rename_i h; rw [if_pos h] at h0; simp at h0
      rename_i h; rw [if_neg h] at h0
      split
      · rfl
      rename_i h; rw [if_neg h] at h0
      split
      · rename_i h; rw [if_pos h] at h0; simp at h0
      · rfl
    exact (one_forth hv (l := l) (f := (oneR v l).1) (n := (oneR v l).2.1) (by rw [← this]) h0).1

set_option maxRecDepth 100000 in
set_option maxHeartbeats 4000000 in
theorem refscan_any (v : Int) (s : ByteArray) (hs : s.size < 4398046511104) (w : World) :
    Calls Try.prog 19 #[.int .i64 v, .string s] w (ScanPost w (scanV v s.data.toList)) := by
  have hsl : s.data.toList.length = s.size := by simp
  obtain ⟨R, hR⟩ : ∃ R, scanV v s.data.toList = R := ⟨_, rfl⟩
  rw [hR]
  by_cases hv : v = 1 ∨ v = 2
  · have hR0 : R = scanR v s.data.toList := by rw [← hR]; unfold scanV; rw [if_pos hv]
    have HSL := Lib.hid hsl; clear hsl hR
    have HR0 := Lib.hid hR0; clear hR0
    obtain ⟨i0, hi, hz0, hz1, hz2⟩ := info_parts infoFrm
    have HV := Lib.hid hv
    have hone := fun (T : ByteArray) (h1 : T.size ≤ 140737488355328) (h2 : 0 < T.size) => refone_any v HV.out T h1 h2
    have hlit : (v != 1 && v != 2) = false := by rcases hv with rfl | rfl <;> rfl
    have HONE := Lib.hid hone; clear hone
    have hloop : ∀ (Q : Prop), (v = 1 → Q) → (v = 2 → Q) → Q := fun Q h1 h2 => by rcases hv with h | h; exact h1 h; exact h2 h
    have HLP := Lib.hid hloop; clear hloop hv hlit
    refine HLP.out _ (fun h => ?_) (fun h => ?_)
    · subst h
      clear HLP
      go_enter Try.func19, Try.ntmps19
      go_wp2_with fail
      go_loopw [7, 8] (fun l i wr => ∃ (pre : List Frm) (at_ : Nat), at_ ≤ s.size ∧ pre.length ≤ at_ ∧ i = .int .i64 at_ ∧ wr.ownsRow w.heap.size 23 3 l pre.length (cellsR pre) ∧ Hid (∀ f ∈ pre, FrWf f) ∧ Hid (R = (pre ++ (scanR 1 (s.data.toList.drop at_)).1, at_ + (scanR 1 (s.data.toList.drop at_)).2.1, (scanR 1 (s.data.toList.drop at_)).2.2)) ∧ Below w.heap.size w wr) (fun _ i _ => s.size - (intOf i).toNat)
      case atStart => exact ⟨[], 0, by omega, by simp, rfl, World.ownsRow_nil _ _ _ _, fun f h => by simp at h, by show R = _; rw [HR0.out]; simp, Below.refl _ _⟩
      case round =>
        obtain ⟨pre, k, hk, hpk, rfl, hown, hwf, hR, hbw⟩ := hrel
        by_cases hlt : k < s.size
        · obtain ⟨T, hT⟩ : ∃ T, s.extract k s.size = T := ⟨_, rfl⟩
          have dT : T.data.toList = s.data.toList.drop k := by rw [← hT]; exact from_data s k
          have zT : T.size = s.size - k := by rw [← hT, ByteArray.size_extract]; omega
          have hsT := fun W => slice_from hT (by omega) W
          have q := fun W => HONE.out T (by omega) (by omega) W
          rw [dT] at q
          have hst := scan_at (v := 1) (l := s.data.toList) (k := k) (by have := HSL.out; omega)
          have hol := one_len (v := 1) (by omega) (s.data.toList.drop k)
          have hfo := fun h => (one_forth (v := 1) (by omega) (l := s.data.toList.drop k) (f := (oneR 1 (s.data.toList.drop k)).1) (n := (oneR 1 (s.data.toList.drop k)).2.1) h)
          have hoe := one_err 1 (s.data.toList.drop k)
          have hstop := scan_stop (v := 1) (l := s.data.toList.drop k) (by intro e; have := congrArg List.length e; rw [List.length_drop, HSL.out] at this; simp at this; omega)
          have hRo := hR.out
          rw [List.length_drop, HSL.out] at hol
          generalize oneR 1 (s.data.toList.drop k) = r at *
          obtain ⟨f, n, e⟩ := r
          simp only at hst hol hfo hoe hstop
          have hnl : (n : Int) ≤ (s.size : Int) := by omega
          have hk0 : (0 : Int) ≤ (k : Int) := by omega
          have hk1 : (k : Int) ≤ (s.size : Int) := by omega
          obtain ⟨A, cap, hv, hcap, hcm, hfr⟩ := isFr_own hown hwf.out
          subst hv
          have HFR := Lib.hid hfr; clear hfr
          have HOWN := Lib.hid hown; clear hown
          have HBW := Lib.hid hbw; clear hbw
          clear hT dT zT
          by_cases hend : e ≠ 0 ∨ n = 0
          · rw [hstop hend] at hRo
            have HRE : Hid (R = (pre, k, e)) := by show _ = _; rw [hRo]; simp
            clear hst hol hfo hstop hRo
            have hcase : e = 11 ∨ e = 22 ∨ e = 0 ∧ n = 0 := by omega
            clear hoe hend
            rcases hcase with rfl | rfl | ⟨rfl, rfl⟩
            all_goals
              go_wp2_with fail
              ((with_reducible refine (q _).mono ?_); rintro e1 W1 ⟨rfl, b1⟩)
              go_wp2_with fail
              go_ret3
              exact ⟨A, _, cap, by rw [HRE.out]; rfl, hcap, hcm, by rw [HRE.out]; exact (HFR.out.below b1).below ((Below.refl _ _).alloc (Nat.le_refl _) _), (bch HBW.out b1).alloc (bch HBW.out b1).size _⟩
          · have he0 : e = 0 := by omega
            have hn0 : n ≠ 0 := by omega
            subst he0
            rw [hst hend] at hRo
            have hokf := (hfo rfl hn0).2.1
            have hn8 : ((n : Int) == 0) = false := by simp; omega
            have HRE := Lib.hid hRo; clear hRo
            have HFW := Lib.hid (frWf_ok hokf)
            clear hst hfo hstop hoe hend hokf
            go_wp2_with fail
            ((with_reducible refine (q _).mono ?_); rintro e1 W1 ⟨rfl, b1⟩)
            have hown2 := owns_below HOWN.out b1
            have hb1 := bch HBW.out b1
            have hs1 := b1.size
            clear b1
            have hown3 : ((W1.alloc (.cells #[.int .i64 f.kind, .int .i64 f.flags, .string f.data] 23)).alloc (.cells #[.int .i64 f.kind, .int .i64 f.flags, .string f.data] 23)).ownsRow w.heap.size 23 3 (.slice A pre.length cap) pre.length (cellsR pre) := (hown2.alloc _).alloc _
            have hcell : ∀ j u, [Value.int .i64 f.kind, .int .i64 f.flags, .string f.data][j]? = some u → ((W1.alloc (.cells #[.int .i64 f.kind, .int .i64 f.flags, .string f.data] 23)).alloc (.cells #[.int .i64 f.kind, .int .i64 f.flags, .string f.data] 23)).cell? ((⟨W1.heap.size + 1, 0, none⟩ : Addr).add j) = some u := by
              have h := cell_three_new (W1.alloc (.cells #[.int .i64 f.kind, .int .i64 f.flags, .string f.data] 23)) (.int .i64 f.kind) (.int .i64 f.flags) (.string f.data) 23
              rw [World.size_alloc] at h
              exact h
            have HC := Lib.hid hcell; clear hcell
            have HB1 := Lib.hid hb1; clear hb1 hown2
            have HO3 := Lib.hid hown3; clear hown3
            go_wp2_with (at_builtin; refine wpList_append_own_at _ rfl _ _ 32 rfl w.heap.size 23 i0 (.agg #[.int .i64 0, .int .i64 0, .string ⟨#[]⟩]) 3 32 Try.underlying32 hi hz0 hz1 hz2 rfl (by decide) _ _ _ rfl HO3.out ⟨W1.heap.size + 1, 0, none⟩ 1 1 [.int .i64 f.kind, .int .i64 f.flags, .string f.data] rfl rfl HC.out ?c2 ?c3 ?c4 ?c5 ?_)
            case c2 => intro u hu; simp at hu; rcases hu with rfl | rfl | rfl <;> rfl
            case c3 => unfold maxLen; omega
            case c4 => omega
            case c5 => have := HB1.out.size; simp; omega
            intro v' V2 hown4 hgrow _ hat
            have hb2 : Below w.heap.size w V2 := ((HB1.out.alloc HB1.out.size _).alloc (by have := HB1.out.size; simp; omega) _).grown hgrow (by have := HB1.out.size; simp; omega) (fun g hg => (HO3.out.lt g hg).1)
            have HB2 := Lib.hid hb2; clear hb2 hgrow
            go_wp2_with fail
            go_roundw
            case rel =>
              refine ⟨pre ++ [f], k + n, by omega, by simp; omega, by go_num, ?_, ?_, ?_, HB2.out⟩
              · rw [cellsR_append, List.length_append]; exact hown4
              · intro g hg
                rcases List.mem_append.1 hg with hg | hg
                · exact hwf.out g hg
                · simp at hg; subst hg; exact HFW.out
              · show R = _
                rw [HRE.out]; simp [Nat.add_assoc]
            case measure => simp [intOf]; omega
        · have hke : k = s.size := by omega
          obtain ⟨A, cap, hv, hcap, hcm, hfr⟩ := isFr_own hown hwf.out
          subst hv
          have HRE : Hid (R = (pre, k, 0)) := by
            show _ = _
            rw [hR.out, List.drop_of_length_le (by have := HSL.out; omega), scan_nil]; simp
          subst hke
          go_wp2_with fail
          go_ret3
          exact ⟨A, _, cap, by rw [HRE.out]; rfl, hcap, hcm, by rw [HRE.out]; exact hfr, hbw⟩
    · subst h
      clear HLP
      go_enter Try.func19, Try.ntmps19
      go_wp2_with fail
      go_loopw [7, 8] (fun l i wr => ∃ (pre : List Frm) (at_ : Nat), at_ ≤ s.size ∧ pre.length ≤ at_ ∧ i = .int .i64 at_ ∧ wr.ownsRow w.heap.size 23 3 l pre.length (cellsR pre) ∧ Hid (∀ f ∈ pre, FrWf f) ∧ Hid (R = (pre ++ (scanR 2 (s.data.toList.drop at_)).1, at_ + (scanR 2 (s.data.toList.drop at_)).2.1, (scanR 2 (s.data.toList.drop at_)).2.2)) ∧ Below w.heap.size w wr) (fun _ i _ => s.size - (intOf i).toNat)
      case atStart => exact ⟨[], 0, by omega, by simp, rfl, World.ownsRow_nil _ _ _ _, fun f h => by simp at h, by show R = _; rw [HR0.out]; simp, Below.refl _ _⟩
      case round =>
        obtain ⟨pre, k, hk, hpk, rfl, hown, hwf, hR, hbw⟩ := hrel
        by_cases hlt : k < s.size
        · obtain ⟨T, hT⟩ : ∃ T, s.extract k s.size = T := ⟨_, rfl⟩
          have dT : T.data.toList = s.data.toList.drop k := by rw [← hT]; exact from_data s k
          have zT : T.size = s.size - k := by rw [← hT, ByteArray.size_extract]; omega
          have hsT := fun W => slice_from hT (by omega) W
          have q := fun W => HONE.out T (by omega) (by omega) W
          rw [dT] at q
          have hst := scan_at (v := 2) (l := s.data.toList) (k := k) (by have := HSL.out; omega)
          have hol := one_len (v := 2) (by omega) (s.data.toList.drop k)
          have hfo := fun h => (one_forth (v := 2) (by omega) (l := s.data.toList.drop k) (f := (oneR 2 (s.data.toList.drop k)).1) (n := (oneR 2 (s.data.toList.drop k)).2.1) h)
          have hoe := one_err 2 (s.data.toList.drop k)
          have hstop := scan_stop (v := 2) (l := s.data.toList.drop k) (by intro e; have := congrArg List.length e; rw [List.length_drop, HSL.out] at this; simp at this; omega)
          have hRo := hR.out
          rw [List.length_drop, HSL.out] at hol
          generalize oneR 2 (s.data.toList.drop k) = r at *
          obtain ⟨f, n, e⟩ := r
          simp only at hst hol hfo hoe hstop
          have hnl : (n : Int) ≤ (s.size : Int) := by omega
          have hk0 : (0 : Int) ≤ (k : Int) := by omega
          have hk1 : (k : Int) ≤ (s.size : Int) := by omega
          obtain ⟨A, cap, hv, hcap, hcm, hfr⟩ := isFr_own hown hwf.out
          subst hv
          have HFR := Lib.hid hfr; clear hfr
          have HOWN := Lib.hid hown; clear hown
          have HBW := Lib.hid hbw; clear hbw
          clear hT dT zT
          by_cases hend : e ≠ 0 ∨ n = 0
          · rw [hstop hend] at hRo
            have HRE : Hid (R = (pre, k, e)) := by show _ = _; rw [hRo]; simp
            clear hst hol hfo hstop hRo
            have hcase : e = 11 ∨ e = 22 ∨ e = 0 ∧ n = 0 := by omega
            clear hoe hend
            rcases hcase with rfl | rfl | ⟨rfl, rfl⟩
            all_goals
              go_wp2_with fail
              ((with_reducible refine (q _).mono ?_); rintro e1 W1 ⟨rfl, b1⟩)
              go_wp2_with fail
              go_ret3
              exact ⟨A, _, cap, by rw [HRE.out]; rfl, hcap, hcm, by rw [HRE.out]; exact (HFR.out.below b1).below ((Below.refl _ _).alloc (Nat.le_refl _) _), (bch HBW.out b1).alloc (bch HBW.out b1).size _⟩
          · have he0 : e = 0 := by omega
            have hn0 : n ≠ 0 := by omega
            subst he0
            rw [hst hend] at hRo
            have hokf := (hfo rfl hn0).2.1
            have hn8 : ((n : Int) == 0) = false := by simp; omega
            have HRE := Lib.hid hRo; clear hRo
            have HFW := Lib.hid (frWf_ok hokf)
            clear hst hfo hstop hoe hend hokf
            go_wp2_with fail
            ((with_reducible refine (q _).mono ?_); rintro e1 W1 ⟨rfl, b1⟩)
            have hown2 := owns_below HOWN.out b1
            have hb1 := bch HBW.out b1
            have hs1 := b1.size
            clear b1
            have hown3 : ((W1.alloc (.cells #[.int .i64 f.kind, .int .i64 f.flags, .string f.data] 23)).alloc (.cells #[.int .i64 f.kind, .int .i64 f.flags, .string f.data] 23)).ownsRow w.heap.size 23 3 (.slice A pre.length cap) pre.length (cellsR pre) := (hown2.alloc _).alloc _
            have hcell : ∀ j u, [Value.int .i64 f.kind, .int .i64 f.flags, .string f.data][j]? = some u → ((W1.alloc (.cells #[.int .i64 f.kind, .int .i64 f.flags, .string f.data] 23)).alloc (.cells #[.int .i64 f.kind, .int .i64 f.flags, .string f.data] 23)).cell? ((⟨W1.heap.size + 1, 0, none⟩ : Addr).add j) = some u := by
              have h := cell_three_new (W1.alloc (.cells #[.int .i64 f.kind, .int .i64 f.flags, .string f.data] 23)) (.int .i64 f.kind) (.int .i64 f.flags) (.string f.data) 23
              rw [World.size_alloc] at h
              exact h
            have HC := Lib.hid hcell; clear hcell
            have HB1 := Lib.hid hb1; clear hb1 hown2
            have HO3 := Lib.hid hown3; clear hown3
            go_wp2_with (at_builtin; refine wpList_append_own_at _ rfl _ _ 32 rfl w.heap.size 23 i0 (.agg #[.int .i64 0, .int .i64 0, .string ⟨#[]⟩]) 3 32 Try.underlying32 hi hz0 hz1 hz2 rfl (by decide) _ _ _ rfl HO3.out ⟨W1.heap.size + 1, 0, none⟩ 1 1 [.int .i64 f.kind, .int .i64 f.flags, .string f.data] rfl rfl HC.out ?c2 ?c3 ?c4 ?c5 ?_)
            case c2 => intro u hu; simp at hu; rcases hu with rfl | rfl | rfl <;> rfl
            case c3 => unfold maxLen; omega
            case c4 => omega
            case c5 => have := HB1.out.size; simp; omega
            intro v' V2 hown4 hgrow _ hat
            have hb2 : Below w.heap.size w V2 := ((HB1.out.alloc HB1.out.size _).alloc (by have := HB1.out.size; simp; omega) _).grown hgrow (by have := HB1.out.size; simp; omega) (fun g hg => (HO3.out.lt g hg).1)
            have HB2 := Lib.hid hb2; clear hb2 hgrow
            go_wp2_with fail
            go_roundw
            case rel =>
              refine ⟨pre ++ [f], k + n, by omega, by simp; omega, by go_num, ?_, ?_, ?_, HB2.out⟩
              · rw [cellsR_append, List.length_append]; exact hown4
              · intro g hg
                rcases List.mem_append.1 hg with hg | hg
                · exact hwf.out g hg
                · simp at hg; subst hg; exact HFW.out
              · show R = _
                rw [HRE.out]; simp [Nat.add_assoc]
            case measure => simp [intOf]; omega
        · have hke : k = s.size := by omega
          obtain ⟨A, cap, hv, hcap, hcm, hfr⟩ := isFr_own hown hwf.out
          subst hv
          have HRE : Hid (R = (pre, k, 0)) := by
            show _ = _
            rw [hR.out, List.drop_of_length_le (by have := HSL.out; omega), scan_nil]; simp
          subst hke
          go_wp2_with fail
          go_ret3
          exact ⟨A, _, cap, by rw [HRE.out]; rfl, hcap, hcm, by rw [HRE.out]; exact hfr, hbw⟩
  · have hR0 : R = ([], 0, 1) := by rw [← hR]; unfold scanV; rw [if_neg hv]
    have HR0 := Lib.hid hR0; clear hR0 hR
    have n1 : (v != 1) = true := by simp; omega
    have n2 : (v != 2) = true := by simp; omega
    clear hv
    go_enter Try.func19, Try.ntmps19
    go_wp2_with fail
    go_ret3
    exact ⟨none, 0, 0, by rw [HR0.out]; rfl, Nat.le_refl _, by omega, by rw [HR0.out]; exact isFr_nil _ _, Below.refl _ _⟩
end Go.Proofs.Ytjciojgldibfmaa
