import Derived.Test.YtjdpihppniibjaaWirePa
import Derived.Test.YtjdpihppniibjaaWirePc
import Derived.Test.YtjdpihppniibjaaEncode
/-
  The contract of the program's own Encode of messages (stage 8).
-/
namespace Go.Proofs.Ytjdpihppniibjaa
open Go.RowKit
set_option linter.unusedVariables false

set_option maxRecDepth 100000 in
set_option maxHeartbeats 4000000 in
theorem encodeW_no (v : Int) (m : Mg) (hv : (Lit.int .i64 v).wf = true) (hm : WfM m) (hs : m.body.size ≤ 140737488355328) (hok : rightM v m = false) (w : World) :
    Calls Try.prog 11 #[.int .i64 v, mgV m] w fun e w' => e = .returned (.tuple #[.string (bs (wE v m).1), .int .i64 (wE v m).2]) ∧ Below w.heap.size w w' := by
  obtain ⟨R, hR⟩ : ∃ R, wE v m = R := ⟨_, rfl⟩
  rw [hR]
  unfold wE at hR
  rw [if_neg (by rw [hok]; simp)] at hR
  have hb0 : Below w.heap.size w (w.alloc (.cells #[.int .i64 m.kind, .int .i64 m.frm, .int .i64 m.to, .int .i64 m.seq, .string m.body, .int .i64 m.trace] 23)) := (Below.refl _ _).alloc (Nat.le_refl _) _
  have hm0 := MgBlk.new w m
  have q1 := fun W => rightC v m hv hm hs W
  have q2 := fun W => rightC 2 m (by decide) hm hs W
  unfold mgV at *
  obtain ⟨W0, hW0⟩ : ∃ W, w.alloc (.cells #[.int .i64 m.kind, .int .i64 m.frm, .int .i64 m.to, .int .i64 m.seq, .string m.body, .int .i64 m.trace] 23) = W := ⟨_, rfl⟩
  rw [hW0] at hb0 hm0
  have HB0 := Lib.hid hb0; clear hb0
  have HM := Lib.hid hm0; clear hm0
  clear hv hm hs
  rw [hok] at q1
  clear hok
  by_cases hv : v = 1
  · subst hv
    cases hl : rightM 2 m with
    | true =>
      rw [if_pos ⟨rfl, hl⟩] at hR
      rw [hl] at q2
      have HR := Lib.hid hR.symm
      clear hR hl
      obtain ⟨c0, c1, c2, c3, c4, c5⟩ := HM.out.cells
      go_enter Try.func11, Try.ntmps11
      go_wp2_with fail
      ((with_reducible refine (q1 _).mono ?_); rintro e W1 ⟨rfl, b1⟩)
      clear c0 c1 c2 c3 c4 c5
      obtain ⟨c0, c1, c2, c3, c4, c5⟩ := (HM.out.below b1).cells
      have HB1 := Lib.hid b1; clear b1
      go_wp2_with fail
      ((with_reducible refine (q2 _).mono ?_); rintro e W2 ⟨rfl, b2⟩)
      have HB2 := Lib.hid (bch HB1.out b2); clear b2
      clear c0 c1 c2 c3 c4 c5
      go_wp2_with fail
      go_ret2
      exact ⟨by rw [HR.out]; rfl, bch HB0.out HB2.out⟩
    | false =>
      rw [if_neg (by rw [hl]; simp)] at hR
      rw [hl] at q2
      have HR := Lib.hid hR.symm
      clear hR hl
      obtain ⟨c0, c1, c2, c3, c4, c5⟩ := HM.out.cells
      go_enter Try.func11, Try.ntmps11
      go_wp2_with fail
      ((with_reducible refine (q1 _).mono ?_); rintro e W1 ⟨rfl, b1⟩)
      clear c0 c1 c2 c3 c4 c5
      obtain ⟨c0, c1, c2, c3, c4, c5⟩ := (HM.out.below b1).cells
      have HB1 := Lib.hid b1; clear b1
      go_wp2_with fail
      ((with_reducible refine (q2 _).mono ?_); rintro e W2 ⟨rfl, b2⟩)
      have HB2 := Lib.hid (bch HB1.out b2); clear b2
      clear c0 c1 c2 c3 c4 c5
      go_wp2_with fail
      go_ret2
      exact ⟨by rw [HR.out]; rfl, bch HB0.out HB2.out⟩
  · have hv' : (v == 1) = false := by simpa using hv
    rw [if_neg (fun h => hv h.1)] at hR
    have HR := Lib.hid hR.symm
    clear hR hv q2
    obtain ⟨c0, c1, c2, c3, c4, c5⟩ := HM.out.cells
    go_enter Try.func11, Try.ntmps11
    go_wp2_with fail
    ((with_reducible refine (q1 _).mono ?_); rintro e W1 ⟨rfl, b1⟩)
    clear c0 c1 c2 c3 c4 c5
    obtain ⟨c0, c1, c2, c3, c4, c5⟩ := (HM.out.below b1).cells
    have HB1 := Lib.hid b1; clear b1
    go_wp2_with fail
    go_ret2
    exact ⟨by rw [HR.out]; rfl, bch HB0.out HB1.out⟩

set_option maxRecDepth 100000 in
set_option maxHeartbeats 8000000 in
theorem encodeW_yes (v : Int) (hv12 : v = 1 ∨ v = 2) (m : Mg) (hv : (Lit.int .i64 v).wf = true) (hm : WfM m) (hs : m.body.size ≤ 140737488355328) (hok : rightM v m = true) (w : World) :
    Calls Try.prog 11 #[.int .i64 v, mgV m] w fun e w' => e = .returned (.tuple #[.string (bs (wE v m).1), .int .i64 (wE v m).2]) ∧ Below w.heap.size w w' := by
  have hr := rightM_iff.1 hok
  have HR0 := Lib.hid (wE_ok hok)
  obtain ⟨f1, f2, f3⟩ := fields_right hr
  have HE : Hid (encR (fieldsM m) = (encL (fieldsM m), 0)) := by show _ = _; unfold encR; rw [if_pos f1, if_pos (by omega)]
  obtain ⟨T, hT⟩ : ∃ T, bs (encL (fieldsM m)) = T := ⟨_, rfl⟩
  have zT : T.size ≤ 6030 := by rw [← hT, bs_size]; exact f3
  obtain ⟨P, hP⟩ : ∃ P, bs [UInt8.ofNat v.toNat] = P := ⟨_, rfl⟩
  have zP : P.size = 1 := by rw [← hP, bs_size]; rfl
  have hadd : ∀ W : World, (Op.stringOp .add P T).run Try.prog W = .ok (.string (bs (UInt8.ofNat v.toNat :: encL (fieldsM m)))) W := fun W => by
    rw [str_add (by omega) W, ← hP, ← hT, bs_append]; rfl
  have qf := fun W => fieldsOfW_any m (show RightM 2 m from ⟨.inr rfl, hr.2⟩) W
  have hb0 : Below w.heap.size w (w.alloc (.cells #[.int .i64 m.kind, .int .i64 m.frm, .int .i64 m.to, .int .i64 m.seq, .string m.body, .int .i64 m.trace] 23)) := (Below.refl _ _).alloc (Nat.le_refl _) _
  have hm0 := MgBlk.new w m
  have q1 := fun W => rightC v m hv hm hs W
  have q2 := fun W => rightC 2 m (by decide) hm hs W
  unfold mgV at *
  obtain ⟨W0, hW0⟩ : ∃ W, w.alloc (.cells #[.int .i64 m.kind, .int .i64 m.frm, .int .i64 m.to, .int .i64 m.seq, .string m.body, .int .i64 m.trace] 23) = W := ⟨_, rfl⟩
  rw [hW0] at hb0 hm0
  have HB0 := Lib.hid hb0; clear hb0
  have HM := Lib.hid hm0; clear hm0
  clear hv hm hs
  rw [hok] at q1
  clear hok hr f1 f2 f3 zT zP q2
  rcases hv12 with rfl | rfl
  · skip
    obtain ⟨c0, c1, c2, c3, c4, c5⟩ := HM.out.cells
    go_enter Try.func11, Try.ntmps11
    go_wp2_with fail
    ((with_reducible refine (q1 _).mono ?_); rintro e W1 ⟨rfl, b1⟩)
    clear c0 c1 c2 c3 c4 c5
    obtain ⟨c0, c1, c2, c3, c4, c5⟩ := (HM.out.below b1).cells
    have HB1 := Lib.hid b1; clear b1
    go_wp2_with fail
    ((with_reducible refine (qf _).mono ?_); rintro e W2 ⟨A, nl, cap, rfl, hcap, hfs, b2⟩)
    have HB2 := Lib.hid (bch HB1.out b2); clear b2
    have q6 := fun W (hb : Below W2.heap.size W2 W) => encode_any A nl cap _ W (hfs.below hb)
    rw [HE.out] at q6
    have Q6 := Lib.hid q6; clear q6 hfs hcap
    clear c0 c1 c2 c3 c4 c5
    go_wp2_with fail
    ((with_reducible refine (Q6.out _ (Below.refl _ _)).mono ?_); rintro e W9 ⟨rfl, b⟩)
    have HB9 := Lib.hid (bch (bch HB0.out HB2.out) b); clear b
    have hcv := conv_one W9 1
    rw [hP] at hcv
    go_wp2_with fail
    go_ret2
    exact ⟨by rw [HR0.out]; rfl, HB9.out.alloc HB9.out.size _⟩
  · skip
    obtain ⟨c0, c1, c2, c3, c4, c5⟩ := HM.out.cells
    go_enter Try.func11, Try.ntmps11
    go_wp2_with fail
    ((with_reducible refine (q1 _).mono ?_); rintro e W1 ⟨rfl, b1⟩)
    clear c0 c1 c2 c3 c4 c5
    obtain ⟨c0, c1, c2, c3, c4, c5⟩ := (HM.out.below b1).cells
    have HB1 := Lib.hid b1; clear b1
    go_wp2_with fail
    ((with_reducible refine (qf _).mono ?_); rintro e W2 ⟨A, nl, cap, rfl, hcap, hfs, b2⟩)
    have HB2 := Lib.hid (bch HB1.out b2); clear b2
    have q6 := fun W (hb : Below W2.heap.size W2 W) => encode_any A nl cap _ W (hfs.below hb)
    rw [HE.out] at q6
    have Q6 := Lib.hid q6; clear q6 hfs hcap
    clear c0 c1 c2 c3 c4 c5
    go_wp2_with fail
    ((with_reducible refine (Q6.out _ (Below.refl _ _)).mono ?_); rintro e W9 ⟨rfl, b⟩)
    have HB9 := Lib.hid (bch (bch HB0.out HB2.out) b); clear b
    have hcv := conv_one W9 2
    rw [hP] at hcv
    go_wp2_with fail
    go_ret2
    exact ⟨by rw [HR0.out]; rfl, HB9.out.alloc HB9.out.size _⟩

theorem encC : EncW := by
  intro v m hv hm hs w
  cases hok : rightM v m with
  | false => exact encodeW_no v m hv hm hs hok w
  | true => exact encodeW_yes v (rightM_iff.1 hok).v m hv hm hs hok w
end Go.Proofs.Ytjdpihppniibjaa
