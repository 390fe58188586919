import Derived.Test.YtjciojgldibfmaaFrAwake
import Derived.BigQuiet
/-
  The walk of the law FrameBack, over what is asked of the program's Encode, Scan and Right.
-/
namespace Go.Proofs.Ytjciojgldibfmaa
open Go.RowKit
set_option linter.unusedVariables false
set_option linter.unusedSimpArgs false

set_option maxRecDepth 100000 in
set_option maxHeartbeats 8000000 in
theorem frameBack_core (hE : EncC) (hS : ScanC) (hR : RightC) (A : Option Addr) (n cap : Nat) (f : Nat → Nat → Int) (B : Option Addr) (m cap2 : Nat) (g : Nat → ByteArray) (w : World) (hra : IsRaw w A n 3 f) (hst : IsStrs w B m g) :
    Calls Try.prog 4 #[.slice A n cap, .slice B m cap2] w fun e w' => e = .returned (.bool true) ∧ Below w.heap.size w w' := by
  have HE := Lib.hid hE; clear hE
  have HS := Lib.hid hS; clear hS
  have HR := Lib.hid hR; clear hR
  go_enter Try.func4, Try.ntmps4
  go_wp2_with fail
  ((with_reducible refine (awake6_any HE.out HS.out HR.out _).mono ?_); rintro e W1 ⟨rfl, b1⟩)
  have hb := b1
  clear b1
  go_wp2_with fail
  go_loopw [6] (fun v wy => ∃ (j : Int) (wq : World), wq = wy ∧ (j = 1 ∨ j = 2 ∨ j = 3) ∧ v = .int .i64 j ∧ Below w.heap.size w wq) (fun v _ => 3 - (intOf v).toNat)
  case atStart => exact ⟨1, _, rfl, .inl rfl, rfl, hb⟩
  case round =>
    clear hb
    obtain ⟨j, wq, rfl, hj, rfl, hb⟩ := hrel
    rcases hj with rfl | rfl | rfl
    · have dummy := 0
      have p1 := frames_any 1 (by omega) A n cap f B m cap2 g wq (hra.below hb) (hst.below hb)
      go_wp2_with fail
      ((with_reducible refine p1.mono ?_); rintro e W2 ⟨A1, n1, cap1, fs, rfl, hc1, hc2, hfr, hni, b2⟩)
      clear p1
      replace hb := bch hb b2
      clear b2
      have hlen := hni.len
      obtain ⟨S, eS⟩ : ∃ S, bs (encFs 1 fs) = S := ⟨_, rfl⟩
      have zS : S.size = (encFs 1 fs).length := by rw [← eS, bs_size]
      have dS : S.data.toList = encFs 1 fs := by rw [← eS, bs_data]
      have p2 := bytes6_any HE.out 1 A1 n1 cap1 fs W2 hfr hni.ok (by omega)
      rw [eS] at p2
      have p3 := fun W => HS.out 1 S (by omega) W
      have hsc : scanV 1 S.data.toList = (fs, (encFs 1 fs).length, 0) := by unfold scanV; rw [if_pos (by omega), dS]; exact scan_back fs hni.ok
      rw [hsc] at p3
      have hs6 := sameR_self fs
      have HFR := Lib.hid hfr; clear hfr
      have HEND := Lib.hid zS; clear eS dS hsc hlen hni zS
      obtain ⟨z, hz⟩ : ∃ z, (encFs 1 fs).length = z := ⟨_, rfl⟩
      rw [hz] at p3 HEND
      have zS := HEND.out
      clear hz HEND
      go_wp2_with fail
      ((with_reducible refine p2.mono ?_); rintro e W3 ⟨rfl, b3⟩)
      clear p2
      have hfr3 := HFR.out.below b3
      replace hb := bch hb b3
      clear b3 HFR
      have HFR := Lib.hid hfr3; clear hfr3
      go_wp2_with fail
      ((with_reducible refine (p3 _).mono ?_); rintro e W4 ⟨A2, n2, cap3, rfl, hc3, hc4, hfr2, b4⟩)
      clear p3
      have p4 := same_fr A1 A2 n1 n2 cap1 cap3 fs fs W4 (HFR.out.below b4) hfr2
      rw [hs6] at p4
      replace hb := bch hb b4
      clear b4 HFR hfr2
      go_wp2_with fail
      ((with_reducible refine p4.mono ?_); rintro e W5 ⟨rfl, b5⟩)
      clear p4
      replace hb := bch hb b5
      clear b5
      go_wp2_with fail
      go_roundw
      case rel => exact ⟨2, _, rfl, by omega, rfl, hb⟩
      case measure => simp [intOf]
    · have dummy := 0
      have p1 := frames_any 2 (by omega) A n cap f B m cap2 g wq (hra.below hb) (hst.below hb)
      go_wp2_with fail
      ((with_reducible refine p1.mono ?_); rintro e W2 ⟨A1, n1, cap1, fs, rfl, hc1, hc2, hfr, hni, b2⟩)
      clear p1
      replace hb := bch hb b2
      clear b2
      have hlen := hni.len
      obtain ⟨S, eS⟩ : ∃ S, bs (encFs 2 fs) = S := ⟨_, rfl⟩
      have zS : S.size = (encFs 2 fs).length := by rw [← eS, bs_size]
      have dS : S.data.toList = encFs 2 fs := by rw [← eS, bs_data]
      have p2 := bytes6_any HE.out 2 A1 n1 cap1 fs W2 hfr hni.ok (by omega)
      rw [eS] at p2
      have p3 := fun W => HS.out 2 S (by omega) W
      have hsc : scanV 2 S.data.toList = (fs, (encFs 2 fs).length, 0) := by unfold scanV; rw [if_pos (by omega), dS]; exact scan_back fs hni.ok
      rw [hsc] at p3
      have hs6 := sameR_self fs
      have HFR := Lib.hid hfr; clear hfr
      have HEND := Lib.hid zS; clear eS dS hsc hlen hni zS
      obtain ⟨z, hz⟩ : ∃ z, (encFs 2 fs).length = z := ⟨_, rfl⟩
      rw [hz] at p3 HEND
      have zS := HEND.out
      clear hz HEND
      go_wp2_with fail
      ((with_reducible refine p2.mono ?_); rintro e W3 ⟨rfl, b3⟩)
      clear p2
      have hfr3 := HFR.out.below b3
      replace hb := bch hb b3
      clear b3 HFR
      have HFR := Lib.hid hfr3; clear hfr3
      go_wp2_with fail
      ((with_reducible refine (p3 _).mono ?_); rintro e W4 ⟨A2, n2, cap3, rfl, hc3, hc4, hfr2, b4⟩)
      clear p3
      have p4 := same_fr A1 A2 n1 n2 cap1 cap3 fs fs W4 (HFR.out.below b4) hfr2
      rw [hs6] at p4
      replace hb := bch hb b4
      clear b4 HFR hfr2
      go_wp2_with fail
      ((with_reducible refine p4.mono ?_); rintro e W5 ⟨rfl, b5⟩)
      clear p4
      replace hb := bch hb b5
      clear b5
      go_wp2_with fail
      go_roundw
      case rel => exact ⟨3, _, rfl, by omega, rfl, hb⟩
      case measure => simp [intOf]
    · go_wp2_with fail
      go_ret
      exact ⟨rfl, hb⟩
end Go.Proofs.Ytjciojgldibfmaa
