import Derived.Test.YtjciojgldibfmaaFrSlice
import Derived.BigQuiet
/-
  The walk of the law FrameJoined, over what is asked of the program's Encode, Scan and Right.
-/
namespace Go.Proofs.Ytjciojgldibfmaa
open Go.RowKit
set_option linter.unusedVariables false
set_option linter.unusedSimpArgs false

set_option maxRecDepth 100000 in
set_option maxHeartbeats 8000000 in
theorem frameJoined_core (hE : EncC) (hS : ScanC) (hR : RightC) (A : Option Addr) (n cap : Nat) (f : Nat → Nat → Int) (B : Option Addr) (m cap2 : Nat) (g : Nat → ByteArray) (more : ByteArray) (w : World) (hra : IsRaw w A n 3 f) (hst : IsStrs w B m g) (hmo : more.size ≤ 1048576) :
    Calls Try.prog 8 #[.slice A n cap, .slice B m cap2, .string more] w fun e w' => e = .returned (.bool true) ∧ Below w.heap.size w w' := by
  have HE := Lib.hid hE; clear hE
  have HS := Lib.hid hS; clear hS
  have HR := Lib.hid hR; clear hR
  have HMO := Lib.hid hmo; clear hmo
  go_enter Try.func8, Try.ntmps8
  go_wp2_with fail
  ((with_reducible refine (awake6_any HE.out HS.out HR.out _).mono ?_); rintro e W1 ⟨rfl, b1⟩)
  have hb := b1
  clear b1
  go_wp2_with fail
  go_loopw [8] (fun v wy => ∃ (j : Int) (wq : World), wq = wy ∧ (j = 1 ∨ j = 2 ∨ j = 3) ∧ v = .int .i64 j ∧ Below w.heap.size w wq) (fun v _ => 3 - (intOf v).toNat)
  case atStart => exact ⟨1, _, rfl, .inl rfl, rfl, hb⟩
  case round =>
    clear hb
    obtain ⟨j, wq, rfl, hj, rfl, hb⟩ := hrel
    rcases hj with rfl | rfl | rfl
    · have dummy := 0
      have p1 := frames_any 1 (by omega) A n cap f B m cap2 g wq (hra.below hb) (hst.below hb)
      go_wp2_with fail
      ((with_reducible refine p1.mono ?_); rintro e W2 ⟨A1, n1, cap1, fs, rfl, hc1, hc2, hfr, hni, b2⟩)
      clear p1
      replace hb := bch hb b2
      clear b2
      have hlen := hni.len
      obtain ⟨S, eS⟩ : ∃ S, bs (encFs 1 fs) = S := ⟨_, rfl⟩
      have zS : S.size = (encFs 1 fs).length := by rw [← eS, bs_size]
      have dS : S.data.toList = encFs 1 fs := by rw [← eS, bs_data]
      have p2 := bytes6_any HE.out 1 A1 n1 cap1 fs W2 hfr hni.ok (by omega)
      rw [eS] at p2
      have hmo := HMO.out
      have p3 := fun W => HS.out 1 more (by omega) W
      obtain ⟨X, eX⟩ : ∃ X, S ++ more = X := ⟨_, rfl⟩
      have zX : X.size = S.size + more.size := by rw [← eX]; exact ByteArray.size_append
      have ha1 : ∀ W : World, (Op.stringOp .add S more).run Try.prog W = .ok (.string X) W := fun W => by rw [str_add (by omega), eX]
      have p5 := fun W => HS.out 1 X (by omega) W
      have dX : X.data.toList = encFs 1 fs ++ more.data.toList := by rw [← eX, add_data, dS]
      have e3 : scanV 1 more.data.toList = scanR 1 more.data.toList := by unfold scanV; rw [if_pos (by omega)]
      have e5 : scanV 1 X.data.toList = (fs ++ (scanR 1 more.data.toList).1, (encFs 1 fs).length + (scanR 1 more.data.toList).2.1, (scanR 1 more.data.toList).2.2) := by unfold scanV; rw [if_pos (by omega), dX]; exact scan_encs fs _ hni.ok
      have hfo := (scan_forth (v := 1) (by omega) more.data.toList).2.1
      have hml : more.data.toList.length = more.size := by simp
      rw [hml] at hfo
      rw [e3] at p3
      rw [e5, ← zS] at p5
      generalize scanR 1 more.data.toList = r at *
      obtain ⟨ax, na, er⟩ := r
      simp only at p3 p5 hfo
      have hnf := hfr.1
      have hn12 : n1 ≤ 12 := by have := hni.1; omega
      obtain ⟨sz, hsz⟩ : ∃ z, S.size = z := ⟨_, rfl⟩
      have hsz4 : (sz : Int) ≤ 4000 := by omega
      have hna4 : (na : Int) ≤ 1048576 := by omega
      have hsum : (sz : Int) + (na : Int) = ((sz + na : Nat) : Int) := by omega
      rw [hsz] at p5
      obtain ⟨tot, htot⟩ : ∃ z, sz + na = z := ⟨_, rfl⟩
      rw [htot] at p5 hsum
      have hs6 := sameR_self fs
      have hs7 := sameR_self ax
      have HS6 := Lib.hid hs6; clear hs6
      have HS7 := Lib.hid hs7; clear hs7
      have HFR := Lib.hid hfr; clear hfr
      have HNF := Lib.hid hnf; clear hnf
      have HHM := Lib.hid hmo; clear hmo
      have HFO := Lib.hid hfo; clear hfo
      have hn12i : (n1 : Int) ≤ 12 := by omega
      clear eS dS hlen zS hni eX zX dX e3 e5 hml hn12 htot
      go_wp2_with fail
      ((with_reducible refine p2.mono ?_); rintro e W3 ⟨rfl, b3⟩)
      replace hb := bch hb b3
      have HFRB := Lib.hid (HFR.out.below b3)
      clear b3 p2 HFR
      go_wp2_with fail
      ((with_reducible refine (p3 _).mono ?_); rintro e W4 ⟨A2, n2, cap3, rfl, hc3, hc4, hfr2, b4⟩)
      replace hb := bch hb b4
      have HFRC := Lib.hid (HFRB.out.below b4)
      have HA2 := Lib.hid hfr2; clear hfr2
      clear b4 p3 HFRB
      go_wp2_with fail
      ((with_reducible refine (p5 _).mono ?_); rintro e W5 ⟨A3, n3, cap4, rfl, hc5, hc6, hfr3, b5⟩)
      replace hb := bch hb b5
      have HFRD := Lib.hid (HFRC.out.below b5)
      have HA2B := Lib.hid (HA2.out.below b5)
      clear b5 p5 HFRC HA2
      have hn3 : n3 = n1 + n2 := by
        have h1 := hfr3.1
        have h2 := HNF.out
        have h3 := HA2B.out.1
        rw [List.length_append] at h1
        omega
      obtain ⟨A4, hs4, hf4⟩ := fr_to hfr3 (k := n1) (by omega) hc5
      obtain ⟨A5, hs5, hf5⟩ := fr_from hfr3 (k := n1) (by omega) hc5
      have ht1 : (fs ++ ax).take n1 = fs := by rw [HNF.out]; simp
      have ht2 : (fs ++ ax).drop n1 = ax := by rw [HNF.out]; simp
      rw [ht1] at hf4
      rw [ht2] at hf5
      have hm2 := HA2B.out.2.1
      unfold maxLen at hm2
      have hn32 : n3 - n1 = n2 := by omega
      rw [hn32] at hs5 hf5
      have p6 := same_fr A4 A1 n1 n1 cap4 cap1 fs fs W5 hf4 HFRD.out
      rw [HS6.out] at p6
      have hmin : ((n3 : Int) < (n1 : Int)) = False := by simp; omega
      have hs32 : (n1 : Int) + (n2 : Int) = (n3 : Int) := by omega
      have HF5 := Lib.hid hf5; clear hf5
      have hn3l : (n3 : Int) ≤ 9223372036854775807 := by omega
      clear hf4 hfr3 ht1 ht2 hn32 hn3 hm2 HFRD
      go_wp2_with fail
      ((with_reducible refine p6.mono ?_); rintro e W6 ⟨rfl, b6⟩)
      replace hb := bch hb b6
      have p7 := same_fr A5 A2 n2 n2 (cap4 - n1) cap3 ax ax W6 (HF5.out.below b6) (HA2B.out.below b6)
      rw [HS7.out] at p7
      clear b6 p6 HF5 HA2B
      go_wp2_with fail
      ((with_reducible refine p7.mono ?_); rintro e W7 ⟨rfl, b7⟩)
      replace hb := bch hb b7
      clear b7 p7
      go_wp2_with fail
      go_roundw
      case rel => exact ⟨2, _, rfl, by omega, rfl, hb⟩
      case measure => simp [intOf]
    · have dummy := 0
      have p1 := frames_any 2 (by omega) A n cap f B m cap2 g wq (hra.below hb) (hst.below hb)
      go_wp2_with fail
      ((with_reducible refine p1.mono ?_); rintro e W2 ⟨A1, n1, cap1, fs, rfl, hc1, hc2, hfr, hni, b2⟩)
      clear p1
      replace hb := bch hb b2
      clear b2
      have hlen := hni.len
      obtain ⟨S, eS⟩ : ∃ S, bs (encFs 2 fs) = S := ⟨_, rfl⟩
      have zS : S.size = (encFs 2 fs).length := by rw [← eS, bs_size]
      have dS : S.data.toList = encFs 2 fs := by rw [← eS, bs_data]
      have p2 := bytes6_any HE.out 2 A1 n1 cap1 fs W2 hfr hni.ok (by omega)
      rw [eS] at p2
      have hmo := HMO.out
      have p3 := fun W => HS.out 2 more (by omega) W
      obtain ⟨X, eX⟩ : ∃ X, S ++ more = X := ⟨_, rfl⟩
      have zX : X.size = S.size + more.size := by rw [← eX]; exact ByteArray.size_append
      have ha1 : ∀ W : World, (Op.stringOp .add S more).run Try.prog W = .ok (.string X) W := fun W => by rw [str_add (by omega), eX]
      have p5 := fun W => HS.out 2 X (by omega) W
      have dX : X.data.toList = encFs 2 fs ++ more.data.toList := by rw [← eX, add_data, dS]
      have e3 : scanV 2 more.data.toList = scanR 2 more.data.toList := by unfold scanV; rw [if_pos (by omega)]
      have e5 : scanV 2 X.data.toList = (fs ++ (scanR 2 more.data.toList).1, (encFs 2 fs).length + (scanR 2 more.data.toList).2.1, (scanR 2 more.data.toList).2.2) := by unfold scanV; rw [if_pos (by omega), dX]; exact scan_encs fs _ hni.ok
      have hfo := (scan_forth (v := 2) (by omega) more.data.toList).2.1
      have hml : more.data.toList.length = more.size := by simp
      rw [hml] at hfo
      rw [e3] at p3
      rw [e5, ← zS] at p5
      generalize scanR 2 more.data.toList = r at *
      obtain ⟨ax, na, er⟩ := r
      simp only at p3 p5 hfo
      have hnf := hfr.1
      have hn12 : n1 ≤ 12 := by have := hni.1; omega
      obtain ⟨sz, hsz⟩ : ∃ z, S.size = z := ⟨_, rfl⟩
      have hsz4 : (sz : Int) ≤ 4000 := by omega
      have hna4 : (na : Int) ≤ 1048576 := by omega
      have hsum : (sz : Int) + (na : Int) = ((sz + na : Nat) : Int) := by omega
      rw [hsz] at p5
      obtain ⟨tot, htot⟩ : ∃ z, sz + na = z := ⟨_, rfl⟩
      rw [htot] at p5 hsum
      have hs6 := sameR_self fs
      have hs7 := sameR_self ax
      have HS6 := Lib.hid hs6; clear hs6
      have HS7 := Lib.hid hs7; clear hs7
      have HFR := Lib.hid hfr; clear hfr
      have HNF := Lib.hid hnf; clear hnf
      have HHM := Lib.hid hmo; clear hmo
      have HFO := Lib.hid hfo; clear hfo
      have hn12i : (n1 : Int) ≤ 12 := by omega
      clear eS dS hlen zS hni eX zX dX e3 e5 hml hn12 htot
      go_wp2_with fail
      ((with_reducible refine p2.mono ?_); rintro e W3 ⟨rfl, b3⟩)
      replace hb := bch hb b3
      have HFRB := Lib.hid (HFR.out.below b3)
      clear b3 p2 HFR
      go_wp2_with fail
      ((with_reducible refine (p3 _).mono ?_); rintro e W4 ⟨A2, n2, cap3, rfl, hc3, hc4, hfr2, b4⟩)
      replace hb := bch hb b4
      have HFRC := Lib.hid (HFRB.out.below b4)
      have HA2 := Lib.hid hfr2; clear hfr2
      clear b4 p3 HFRB
      go_wp2_with fail
      ((with_reducible refine (p5 _).mono ?_); rintro e W5 ⟨A3, n3, cap4, rfl, hc5, hc6, hfr3, b5⟩)
      replace hb := bch hb b5
      have HFRD := Lib.hid (HFRC.out.below b5)
      have HA2B := Lib.hid (HA2.out.below b5)
      clear b5 p5 HFRC HA2
      have hn3 : n3 = n1 + n2 := by
        have h1 := hfr3.1
        have h2 := HNF.out
        have h3 := HA2B.out.1
        rw [List.length_append] at h1
        omega
      obtain ⟨A4, hs4, hf4⟩ := fr_to hfr3 (k := n1) (by omega) hc5
      obtain ⟨A5, hs5, hf5⟩ := fr_from hfr3 (k := n1) (by omega) hc5
      have ht1 : (fs ++ ax).take n1 = fs := by rw [HNF.out]; simp
      have ht2 : (fs ++ ax).drop n1 = ax := by rw [HNF.out]; simp
      rw [ht1] at hf4
      rw [ht2] at hf5
      have hm2 := HA2B.out.2.1
      unfold maxLen at hm2
      have hn32 : n3 - n1 = n2 := by omega
      rw [hn32] at hs5 hf5
      have p6 := same_fr A4 A1 n1 n1 cap4 cap1 fs fs W5 hf4 HFRD.out
      rw [HS6.out] at p6
      have hmin : ((n3 : Int) < (n1 : Int)) = False := by simp; omega
      have hs32 : (n1 : Int) + (n2 : Int) = (n3 : Int) := by omega
      have HF5 := Lib.hid hf5; clear hf5
      have hn3l : (n3 : Int) ≤ 9223372036854775807 := by omega
      clear hf4 hfr3 ht1 ht2 hn32 hn3 hm2 HFRD
      go_wp2_with fail
      ((with_reducible refine p6.mono ?_); rintro e W6 ⟨rfl, b6⟩)
      replace hb := bch hb b6
      have p7 := same_fr A5 A2 n2 n2 (cap4 - n1) cap3 ax ax W6 (HF5.out.below b6) (HA2B.out.below b6)
      rw [HS7.out] at p7
      clear b6 p6 HF5 HA2B
      go_wp2_with fail
      ((with_reducible refine p7.mono ?_); rintro e W7 ⟨rfl, b7⟩)
      replace hb := bch hb b7
      clear b7 p7
      go_wp2_with fail
      go_roundw
      case rel => exact ⟨3, _, rfl, by omega, rfl, hb⟩
      case measure => simp [intOf]
    · go_wp2_with fail
      go_ret
      exact ⟨rfl, hb⟩
end Go.Proofs.Ytjciojgldibfmaa
