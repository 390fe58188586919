import Derived.Test.YtjciojgldibfmaaFrSlice
import Derived.BigQuiet
/-
  The walk of the law FrameTorn, over what is asked of the program's Encode, Scan and Right.
-/
namespace Go.Proofs.Ytjciojgldibfmaa
open Go.RowKit
set_option linter.unusedVariables false
set_option linter.unusedSimpArgs false

set_option maxRecDepth 100000 in
set_option maxHeartbeats 8000000 in
theorem frameTorn_core (hE : EncC) (hS : ScanC) (hR : RightC) (A : Option Addr) (n cap : Nat) (f : Nat → Nat → Int) (B : Option Addr) (m cap2 : Nat) (g : Nat → ByteArray) (at0 : Int) (w : World) (hra : IsRaw w A n 3 f) (hst : IsStrs w B m g) (hat0 : (Lit.int .i64 at0).wf = true) :
    Calls Try.prog 5 #[.slice A n cap, .slice B m cap2, .int .i64 at0] w fun e w' => e = .returned (.bool true) ∧ Below w.heap.size w w' := by
  have HE := Lib.hid hE; clear hE
  have HS := Lib.hid hS; clear hS
  have HR := Lib.hid hR; clear hR
  go_enter Try.func5, Try.ntmps5
  go_wp2_with fail
  ((with_reducible refine (awake6_any HE.out HS.out HR.out _).mono ?_); rintro e W1 ⟨rfl, b1⟩)
  have hb := b1
  clear b1
  go_wp2_with fail
  go_loopw [8] (fun v wy => ∃ (j : Int) (wq : World), wq = wy ∧ (j = 1 ∨ j = 2 ∨ j = 3) ∧ v = .int .i64 j ∧ Below w.heap.size w wq) (fun v _ => 3 - (intOf v).toNat)
  case atStart => exact ⟨1, _, rfl, .inl rfl, rfl, hb⟩
  case round =>
    clear hb
    obtain ⟨j, wq, rfl, hj, rfl, hb⟩ := hrel
    rcases hj with rfl | rfl | rfl
    · have dummy := 0
      have p1 := frames_any 1 (by omega) A n cap f B m cap2 g wq (hra.below hb) (hst.below hb)
      go_wp2_with fail
      ((with_reducible refine p1.mono ?_); rintro e W2 ⟨A1, n1, cap1, fs, rfl, hc1, hc2, hfr, hni, b2⟩)
      clear p1
      replace hb := bch hb b2
      clear b2
      have hlen := hni.len
      obtain ⟨S, eS⟩ : ∃ S, bs (encFs 1 fs) = S := ⟨_, rfl⟩
      have zS : S.size = (encFs 1 fs).length := by rw [← eS, bs_size]
      have dS : S.data.toList = encFs 1 fs := by rw [← eS, bs_data]
      have p2 := bytes6_any HE.out 1 A1 n1 cap1 fs W2 hfr hni.ok (by omega)
      rw [eS] at p2
      have hq := pickF_nat at0 ((S.size : Int) + 1) (by omega) (by omega) hat0
      have kq := pickN_lt at0 ((S.size : Int) + 1) (by omega)
      generalize pickN at0 ((S.size : Int) + 1) = k at hq kq
      have hkS : k ≤ S.size := by omega
      obtain ⟨T, hT⟩ : ∃ T, S.extract 0 k = T := ⟨_, rfl⟩
      have hsl := fun W => slice_to hT hkS W
      have dT : T.data.toList = (encFs 1 fs).take k := by rw [← hT, ext_bytes0, dS]
      have zT : T.size < 4398046511104 := by rw [← hT, ByteArray.size_extract]; omega
      have p3 := fun W => HS.out 1 T zT W
      have hsc : scanV 1 T.data.toList = (fs.take (whole 1 fs k), (encFs 1 (fs.take (whole 1 fs k))).length, 0) := by unfold scanV; rw [if_pos (by omega), dT]; exact scan_torn fs k hni.ok
      rw [hsc] at p3
      have hw1 := whole_le 1 fs k
      have hw2 := whole_fit 1 fs k
      generalize whole 1 fs k = q at *
      have hnf := hfr.1
      obtain ⟨A3, hs3, hf3⟩ := fr_to hfr (k := q) (by omega) hc1
      have hok3 : ∀ x ∈ fs.take q, okF 1 x = true := fun x hx => hni.ok x (List.mem_of_mem_take hx)
      obtain ⟨z, hz⟩ : ∃ z, (encFs 1 (fs.take q)).length = z := ⟨_, rfl⟩
      rw [hz] at p3 hw2
      have hzk : (z : Int) ≤ (k : Int) := by omega
      have hqn : (q : Int) ≤ (n1 : Int) := by omega
      have hs6 := sameR_self (fs.take q)
      obtain ⟨S3, eS3⟩ : ∃ S, bs (encFs 1 (fs.take q)) = S := ⟨_, rfl⟩
      have zS3 : S3.size = z := by rw [← eS3, bs_size, hz]
      have p5 := fun W hf => bytes6_any HE.out 1 A3 q cap1 (fs.take q) W hf hok3 (by omega)
      have HFR := Lib.hid hfr; clear hfr
      have HF3 := Lib.hid hf3; clear hf3
      have HNI := Lib.hid hni; clear hni
      have HW2 := Lib.hid hw2.2; clear hw2
      have HNF := Lib.hid hnf; clear hnf
      have HS6 := Lib.hid hs6; clear hs6
      have hkl : (k : Int) ≤ (S.size : Int) := by omega
      have hSl : (S.size : Int) ≤ 4000 := by omega
      clear eS dS hsc hlen zS hT dT zT hkS kq hw1 hok3
      go_wp2_with fail
      ((with_reducible refine p2.mono ?_); rintro e W3 ⟨rfl, b3⟩)
      replace hb := bch hb b3
      have HF3B := Lib.hid (HF3.out.below b3)
      have HFRB := Lib.hid (HFR.out.below b3)
      clear b3 p2 HF3 HFR
      go_wp2_with fail
      ((with_reducible refine (hq _).mono ?_); rintro e V1 ⟨rfl, rfl⟩)
      go_wp2_with fail
      ((with_reducible refine (p3 _).mono ?_); rintro e W4 ⟨A2, n2, cap3, rfl, hc3, hc4, hfr2, b4⟩)
      replace hb := bch hb b4
      obtain rfl : n2 = q := hfr2.1.trans (by have := HNF.out; rw [List.length_take]; omega)
      have HF3C := Lib.hid (HF3B.out.below b4)
      have HFRC := Lib.hid (HFRB.out.below b4)
      have p4 := same_fr A2 A3 n2 n2 cap3 cap1 (fs.take n2) (fs.take n2) W4 hfr2 HF3C.out
      rw [HS6.out] at p4
      clear b4 p3 hfr2 HF3B HFRB HS6
      go_wp2_with fail
      ((with_reducible refine p4.mono ?_); rintro e W5 ⟨rfl, b5⟩)
      replace hb := bch hb b5
      have HF3D := Lib.hid (HF3C.out.below b5)
      have HFRD := Lib.hid (HFRC.out.below b5)
      clear b5 p4 HF3C HFRC
      have p5' := p5 W5 HF3D.out
      rw [eS3] at p5'
      clear p5 eS3
      by_cases hlt : n2 < n1
      · obtain ⟨A4, hs4, hf4⟩ := fr_to HFRD.out (k := n2 + 1) (by omega) hc1
        have hok4 : ∀ x ∈ fs.take (n2 + 1), okF 1 x = true := fun x hx => HNI.out.ok x (List.mem_of_mem_take hx)
        have hlen4 : (encFs 1 (fs.take (n2 + 1))).length ≤ 4398046511104 := by have := encFs_take_le 1 fs (n2 + 1); have := HNI.out.len; omega
        obtain ⟨S4, eS4⟩ : ∃ S, bs (encFs 1 (fs.take (n2 + 1))) = S := ⟨_, rfl⟩
        have zS4 : k < S4.size := by rw [← eS4, bs_size]; exact HW2.out (by have := HNF.out; omega)
        have p6 := fun W hf => bytes6_any HE.out 1 A4 (n2 + 1) cap1 (fs.take (n2 + 1)) W hf hok4 hlen4
        rw [eS4] at p6
        have hn21 : ((n2 : Int) + 1) = ((n2 + 1 : Nat) : Int) := by omega
        have hs4' : ∀ W : World, (Instr.slice 32 (.slice A1 n1 cap1) none (some (.int .i64 ((n2 : Int) + 1))) none).run Try.prog W = .ok (.slice A4 (n2 + 1) cap1) W := fun W => by rw [hn21]; exact hs4 W
        have hkz : (k : Int) < (S4.size : Int) := by omega
        have HF4 := Lib.hid hf4; clear hf4
        clear hs4 hok4 hlen4 eS4 zS4 hn21
        go_wp2_with fail
        ((with_reducible refine p5'.mono ?_); rintro e W6 ⟨rfl, b6⟩)
        replace hb := bch hb b6
        have p6' := p6 W6 (HF4.out.below b6)
        clear b6 p5' p6 HF4
        go_wp2_with fail
        ((with_reducible refine p6'.mono ?_); rintro e W7 ⟨rfl, b7⟩)
        replace hb := bch hb b7
        clear b7 p6'
        go_wp2_with fail
        go_roundw
        case rel => exact ⟨2, _, rfl, by omega, rfl, hb⟩
        case measure => simp [intOf]
      · have hge : n1 = n2 := by omega
        subst hge
        go_wp2_with fail
        ((with_reducible refine p5'.mono ?_); rintro e W6 ⟨rfl, b6⟩)
        replace hb := bch hb b6
        clear b6 p5'
        go_wp2_with fail
        go_roundw
        case rel => exact ⟨2, _, rfl, by omega, rfl, hb⟩
        case measure => simp [intOf]
    · have dummy := 0
      have p1 := frames_any 2 (by omega) A n cap f B m cap2 g wq (hra.below hb) (hst.below hb)
      go_wp2_with fail
      ((with_reducible refine p1.mono ?_); rintro e W2 ⟨A1, n1, cap1, fs, rfl, hc1, hc2, hfr, hni, b2⟩)
      clear p1
      replace hb := bch hb b2
      clear b2
      have hlen := hni.len
      obtain ⟨S, eS⟩ : ∃ S, bs (encFs 2 fs) = S := ⟨_, rfl⟩
      have zS : S.size = (encFs 2 fs).length := by rw [← eS, bs_size]
      have dS : S.data.toList = encFs 2 fs := by rw [← eS, bs_data]
      have p2 := bytes6_any HE.out 2 A1 n1 cap1 fs W2 hfr hni.ok (by omega)
      rw [eS] at p2
      have hq := pickF_nat at0 ((S.size : Int) + 1) (by omega) (by omega) hat0
      have kq := pickN_lt at0 ((S.size : Int) + 1) (by omega)
      generalize pickN at0 ((S.size : Int) + 1) = k at hq kq
      have hkS : k ≤ S.size := by omega
      obtain ⟨T, hT⟩ : ∃ T, S.extract 0 k = T := ⟨_, rfl⟩
      have hsl := fun W => slice_to hT hkS W
      have dT : T.data.toList = (encFs 2 fs).take k := by rw [← hT, ext_bytes0, dS]
      have zT : T.size < 4398046511104 := by rw [← hT, ByteArray.size_extract]; omega
      have p3 := fun W => HS.out 2 T zT W
      have hsc : scanV 2 T.data.toList = (fs.take (whole 2 fs k), (encFs 2 (fs.take (whole 2 fs k))).length, 0) := by unfold scanV; rw [if_pos (by omega), dT]; exact scan_torn fs k hni.ok
      rw [hsc] at p3
      have hw1 := whole_le 2 fs k
      have hw2 := whole_fit 2 fs k
      generalize whole 2 fs k = q at *
      have hnf := hfr.1
      obtain ⟨A3, hs3, hf3⟩ := fr_to hfr (k := q) (by omega) hc1
      have hok3 : ∀ x ∈ fs.take q, okF 2 x = true := fun x hx => hni.ok x (List.mem_of_mem_take hx)
      obtain ⟨z, hz⟩ : ∃ z, (encFs 2 (fs.take q)).length = z := ⟨_, rfl⟩
      rw [hz] at p3 hw2
      have hzk : (z : Int) ≤ (k : Int) := by omega
      have hqn : (q : Int) ≤ (n1 : Int) := by omega
      have hs6 := sameR_self (fs.take q)
      obtain ⟨S3, eS3⟩ : ∃ S, bs (encFs 2 (fs.take q)) = S := ⟨_, rfl⟩
      have zS3 : S3.size = z := by rw [← eS3, bs_size, hz]
      have p5 := fun W hf => bytes6_any HE.out 2 A3 q cap1 (fs.take q) W hf hok3 (by omega)
      have HFR := Lib.hid hfr; clear hfr
      have HF3 := Lib.hid hf3; clear hf3
      have HNI := Lib.hid hni; clear hni
      have HW2 := Lib.hid hw2.2; clear hw2
      have HNF := Lib.hid hnf; clear hnf
      have HS6 := Lib.hid hs6; clear hs6
      have hkl : (k : Int) ≤ (S.size : Int) := by omega
      have hSl : (S.size : Int) ≤ 4000 := by omega
      clear eS dS hsc hlen zS hT dT zT hkS kq hw1 hok3
      go_wp2_with fail
      ((with_reducible refine p2.mono ?_); rintro e W3 ⟨rfl, b3⟩)
      replace hb := bch hb b3
      have HF3B := Lib.hid (HF3.out.below b3)
      have HFRB := Lib.hid (HFR.out.below b3)
      clear b3 p2 HF3 HFR
      go_wp2_with fail
      ((with_reducible refine (hq _).mono ?_); rintro e V1 ⟨rfl, rfl⟩)
      go_wp2_with fail
      ((with_reducible refine (p3 _).mono ?_); rintro e W4 ⟨A2, n2, cap3, rfl, hc3, hc4, hfr2, b4⟩)
      replace hb := bch hb b4
      obtain rfl : n2 = q := hfr2.1.trans (by have := HNF.out; rw [List.length_take]; omega)
      have HF3C := Lib.hid (HF3B.out.below b4)
      have HFRC := Lib.hid (HFRB.out.below b4)
      have p4 := same_fr A2 A3 n2 n2 cap3 cap1 (fs.take n2) (fs.take n2) W4 hfr2 HF3C.out
      rw [HS6.out] at p4
      clear b4 p3 hfr2 HF3B HFRB HS6
      go_wp2_with fail
      ((with_reducible refine p4.mono ?_); rintro e W5 ⟨rfl, b5⟩)
      replace hb := bch hb b5
      have HF3D := Lib.hid (HF3C.out.below b5)
      have HFRD := Lib.hid (HFRC.out.below b5)
      clear b5 p4 HF3C HFRC
      have p5' := p5 W5 HF3D.out
      rw [eS3] at p5'
      clear p5 eS3
      by_cases hlt : n2 < n1
      · obtain ⟨A4, hs4, hf4⟩ := fr_to HFRD.out (k := n2 + 1) (by omega) hc1
        have hok4 : ∀ x ∈ fs.take (n2 + 1), okF 2 x = true := fun x hx => HNI.out.ok x (List.mem_of_mem_take hx)
        have hlen4 : (encFs 2 (fs.take (n2 + 1))).length ≤ 4398046511104 := by have := encFs_take_le 2 fs (n2 + 1); have := HNI.out.len; omega
        obtain ⟨S4, eS4⟩ : ∃ S, bs (encFs 2 (fs.take (n2 + 1))) = S := ⟨_, rfl⟩
        have zS4 : k < S4.size := by rw [← eS4, bs_size]; exact HW2.out (by have := HNF.out; omega)
        have p6 := fun W hf => bytes6_any HE.out 2 A4 (n2 + 1) cap1 (fs.take (n2 + 1)) W hf hok4 hlen4
        rw [eS4] at p6
        have hn21 : ((n2 : Int) + 1) = ((n2 + 1 : Nat) : Int) := by omega
        have hs4' : ∀ W : World, (Instr.slice 32 (.slice A1 n1 cap1) none (some (.int .i64 ((n2 : Int) + 1))) none).run Try.prog W = .ok (.slice A4 (n2 + 1) cap1) W := fun W => by rw [hn21]; exact hs4 W
        have hkz : (k : Int) < (S4.size : Int) := by omega
        have HF4 := Lib.hid hf4; clear hf4
        clear hs4 hok4 hlen4 eS4 zS4 hn21
        go_wp2_with fail
        ((with_reducible refine p5'.mono ?_); rintro e W6 ⟨rfl, b6⟩)
        replace hb := bch hb b6
        have p6' := p6 W6 (HF4.out.below b6)
        clear b6 p5' p6 HF4
        go_wp2_with fail
        ((with_reducible refine p6'.mono ?_); rintro e W7 ⟨rfl, b7⟩)
        replace hb := bch hb b7
        clear b7 p6'
        go_wp2_with fail
        go_roundw
        case rel => exact ⟨3, _, rfl, by omega, rfl, hb⟩
        case measure => simp [intOf]
      · have hge : n1 = n2 := by omega
        subst hge
        go_wp2_with fail
        ((with_reducible refine p5'.mono ?_); rintro e W6 ⟨rfl, b6⟩)
        replace hb := bch hb b6
        clear b6 p5'
        go_wp2_with fail
        go_roundw
        case rel => exact ⟨3, _, rfl, by omega, rfl, hb⟩
        case measure => simp [intOf]
    · go_wp2_with fail
      go_ret
      exact ⟨rfl, hb⟩
end Go.Proofs.Ytjciojgldibfmaa
