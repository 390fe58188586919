import Derived.Test.YtljjbpgbddaekaaMailSteps
import Derived.Test.YtljjbpgbddaekaaMailAwake
/-
  The walk of the law MailTells, over what is asked of the program (stage 11).
-/
namespace Go.Proofs.Ytljjbpgbddaekaa
open Go.RowKit
set_option linter.unusedVariables false
set_option linter.unusedSimpArgs false
theorem two_at {P : Nat → Prop} (h0 : P 0) (h1 : P 1) {j : Nat} (h : j < 2) : P j := by
  rcases (by omega : j = 0 ∨ j = 1) with rfl | rfl
  · exact h0
  · exact h1
theorem three_at {P : Nat → Prop} (h0 : P 0) (h1 : P 1) (h2 : P 2) {j : Nat} (h : j < 3) : P j := by
  rcases (by omega : j = 0 ∨ j = 1 ∨ j = 2) with rfl | rfl | rfl
  · exact h0
  · exact h1
  · exact h2
set_option maxRecDepth 100000 in
set_option maxHeartbeats 8000000 in
theorem mailTells_core (kP : PostQ) (kC : CopyQ) (kL : LoseQ) (kT : TakeM) (kF : ForQ) (a0 : Option Addr) (n0 cap0 : Nat) (f0 : Nat → Nat → Int) (a1 : Option Addr) (len1 cap1 : Nat) (l1 : List Lt) (m : Lt) (a3 : Int) (w : World) (h0 : IsRaw w a0 n0 3 f0) (h1 : IsLs w a1 len1 l1) (hc1 : len1 ≤ cap1) (hz1 : len1 * 32 ≤ 140737488351232) (hm : LtWf m) (h3 : (Lit.int .i64 a3).wf = true) :
    Calls Try.prog 3 #[.slice a0 n0 cap0, .slice a1 len1 cap1, ltV m, .int .i64 a3] w fun e w' => e = .returned (.bool true) ∧ Below w.heap.size w w' := by
  unfold ltV
  have qw := awakeM_any kP kC kL kT kF
  have qp := fun W => pickN11_nat a3 32 (by omega) (by omega) h3 W
  have hp := pickN_lt a3 32 (by omega)
  generalize pickN a3 32 = p at *
  have KP := Lib.hid kP; clear kP
  have KC := Lib.hid kC; clear kC
  have KL := Lib.hid kL; clear kL
  have KT := Lib.hid kT; clear kT
  have KF := Lib.hid kF; clear kF
  have HC := Lib.hid h0; clear h0
  have HA := Lib.hid h1; clear h1
  have HM := Lib.hid hm; clear hm
  have H3 := Lib.hid h3; clear h3
  have HC1 := Lib.hid hc1; clear hc1
  have HZ1 := Lib.hid hz1; clear hz1
  have hbx := LtBlk.new w m
  have hb0 : Below w.heap.size w (w.alloc (.cells #[.int .i64 m.frm, .int .i64 m.to, .string m.bytes] 25)) := (Below.refl _ _).alloc (Nat.le_refl _) _
  obtain ⟨W0, hW0⟩ : ∃ W, w.alloc (.cells #[.int .i64 m.frm, .int .i64 m.to, .string m.bytes] 25) = W := ⟨_, rfl⟩
  rw [hW0] at hbx hb0
  have HX0 := Lib.hid hbx; clear hbx
  have HB0 := Lib.hid hb0; clear hb0
  go_enter Try.func3, Try.ntmps3
  go_wp2_with fail
  ((with_reducible refine (qw _).mono ?_); rintro e Wa ⟨rfl, ba⟩)
  have hba := bch HB0.out ba
  have ql := letters_any a0 n0 cap0 f0 Wa (HC.out.below hba)
  have HXa := Lib.hid (HX0.out.below ba)
  have HAa := Lib.hid (HA.out.below hba)
  have HBa := Lib.hid hba
  clear ba qw hW0 HX0 HB0 hba HA HC
  go_wp2_with fail
  ((with_reducible refine ql.mono ?_); rintro e W1 ⟨A, n, cap, rfl, hcap, hls, hnw, b1⟩)
  try simp only [id]
  have hlen := letters_len f0 (min n0 30)
  generalize lettersR f0 (min n0 30) = l at *
  have hn30 : n ≤ 30 := by rw [hls.1, hlen]; omega
  go_upto_region 3 with fail
  have hg0 := Blk.new W1 (.cells #[.slice A n cap, .slice a1 len1 cap1] 23 (0, 0))
  have hal := (Below.refl W1.heap.size W1).alloc (Nat.le_refl _) (.cells #[.slice A n cap, .slice a1 len1 cap1] 23)
  obtain ⟨V1, hV⟩ : ∃ W, W1.alloc (.cells #[.slice A n cap, .slice a1 len1 cap1] 23) = W := ⟨_, rfl⟩
  rw [hV] at hal hg0 ⊢
  clear hV
  have bb := bch b1 hal
  have HBV := Lib.hid (bch HBa.out bb)
  have HXV := Lib.hid (HXa.out.below bb)
  have hlsV := hls.below hal
  have haV := HAa.out.below bb
  generalize W1.heap.size = g at *
  have HAT : Hid (∀ j, j < 2 → ∃ (Aj : Option Addr) (nj cj : Nat) (L : List Lt), V1.cell? ⟨g, j, none⟩ = some (.slice Aj nj cj) ∧ nj ≤ cj ∧ IsLs V1 Aj nj L ∧ nj * 32 ≤ 140737488351232) := fun j hj =>
    two_at (P := fun j => ∃ (Aj : Option Addr) (nj cj : Nat) (L : List Lt), V1.cell? ⟨g, j, none⟩ = some (.slice Aj nj cj) ∧ nj ≤ cj ∧ IsLs V1 Aj nj L ∧ nj * 32 ≤ 140737488351232) ⟨A, n, cap, l, Blk.cell hg0 0, hcap, hlsV, by omega⟩ ⟨a1, len1, cap1, l1, Blk.cell hg0 1, HC1.out, haV, HZ1.out⟩ hj
  have HGV : Hid (g < V1.heap.size) := Blk.lt hg0
  clear ql hls hnw b1 HBa hlen hal bb hg0 HXa HAa hn30 hcap hlsV haV
  go_wp2_with fail
  go_loopw [34] (fun i wy => ∃ (j : Nat) (wr : World), wr = wy ∧ j ≤ 2 ∧ i = .int .i64 j ∧ Below V1.heap.size V1 wr) (fun i _ => 2 - (intOf i).toNat)
  case atStart => exact ⟨0, _, rfl, by omega, rfl, Below.refl _ _⟩
  case round =>
    obtain ⟨j, wr, rfl, hj, rfl, hb⟩ := hrel
    have HB := Lib.hid hb; clear hb
    by_cases hlt : j < 2
    · have hj0 : (0 : Int) ≤ (j : Int) := by omega
      have hj1 : (j : Int) < (2 : Int) := by omega
      obtain ⟨P, nn, c, L, hcell, hnc, hL, hz⟩ := HAT.out j hlt
      have y0 := (HB.out.cell (p := ⟨g, j, none⟩) HGV.out).trans hcell
      have HL := Lib.hid (hL.below HB.out)
      have HX := Lib.hid (HXV.out.below HB.out)
      have HZ := Lib.hid hz
      obtain ⟨c0, c1, c2⟩ := HX.out.cells
      have q1 := KP.out L m P nn c wr HM.out hnc HL.out hz
      have hpl : (postL L m).1.length ≤ 4398046511104 ∧ (postL L m).2 ≤ 50 := by
        unfold postL
        split
        · have := HL.out.1; exact ⟨by simp only; omega, by simp⟩
        · have := HL.out.1; exact ⟨by simp only [List.length_append, List.length_singleton]; omega, by simp⟩
      have q2 := fun W h => refpost_any L m P nn c W HM.out h hz
      generalize postL L m = R1 at *
      obtain ⟨r1, e1⟩ := R1
      unfold ltV at q1 q2
      simp only at q1 q2 hpl
      clear hcell hL hz
      go_wp2_with fail
      ((with_reducible refine q1.mono ?_); rintro e W3 ⟨A3, n3, cap3, rfl, hcap3, hls3, hnw3, b3⟩)
      have HL3 := Lib.hid hls3
      have Q2 := q2 W3 (HL.out.below b3)
      have HX3 := Lib.hid (HX.out.below b3)
      have HLb := Lib.hid (HL.out.below b3)
      have HB3 := Lib.hid (bch HB.out b3)
      clear q1 q2 c0 c1 c2 hls3 hnw3 b3 y0 HL HX
      obtain ⟨c0, c1, c2⟩ := HX3.out.cells
      go_wp2_with fail
      ((with_reducible refine Q2.mono ?_); rintro e W4 ⟨A4, n4, cap4, rfl, hcap4, hls4, hnw4, b4⟩)
      have HX4 := Lib.hid (HX3.out.below b4)
      have HLc := Lib.hid (HLb.out.below b4)
      have HB4 := Lib.hid (bch HB3.out b4)
      have q3 := refsameL_any A3 A4 n3 n4 cap3 cap4 r1 r1 W4 (HL3.out.below b4) hls4
      rw [sameL_self] at q3
      have en : ((e1 : Int) != (e1 : Int)) = false := by simp
      clear Q2 c0 c1 c2 hls4 hnw4 b4 HX3 HLb HB3
      go_wp2_with fail
      ((with_reducible refine q3.mono ?_); rintro e W5 ⟨rfl, b5⟩)
      have HX5 := Lib.hid (HX4.out.below b5)
      have HLd := Lib.hid (HLc.out.below b5)
      have HB5 := Lib.hid (bch HB4.out b5)
      clear q3 b5 HX4 HLc HB4
      go_wp2_with fail
      ((with_reducible refine (qp _).mono ?_); rintro e W_ ⟨rfl, rfl⟩)
      go_upto_region 10 with fail
      have hg5 := Blk.new W5 (.cells #[.int .i64 a3, .int .i64 (p : Int), .int .i64 (-1)] 3 (0, 0))
      have hal := (Below.refl W5.heap.size W5).alloc (Nat.le_refl _) (.cells #[.int .i64 a3, .int .i64 (p : Int), .int .i64 (-1)] 3)
      obtain ⟨V5, hV⟩ : ∃ W, W5.alloc (.cells #[.int .i64 a3, .int .i64 (p : Int), .int .i64 (-1)] 3) = W := ⟨_, rfl⟩
      rw [hV] at hal hg5 ⊢
      clear hV
      have HLV := Lib.hid (HLd.out.below hal)
      have HB6 := Lib.hid (bch HB5.out hal)
      generalize W5.heap.size = g5 at *
      have HAI : Hid (∀ i, i < 3 → ∃ z : Int, V5.cell? ⟨g5, i, none⟩ = some (.int .i64 z) ∧ (Lit.int .i64 z).wf = true) := fun i hi =>
        three_at (P := fun i => ∃ z : Int, V5.cell? ⟨g5, i, none⟩ = some (.int .i64 z) ∧ (Lit.int .i64 z).wf = true) ⟨a3, Blk.cell hg5 0, H3.out⟩ ⟨(p : Int), Blk.cell hg5 1, wf_within (by omega) (by omega)⟩ ⟨-1, Blk.cell hg5 2, by decide⟩ hi
      have HG5 : Hid (g5 < V5.heap.size) := Blk.lt hg5
      clear hg5 hal HLd HB5 HX5
      go_wp2_with fail
      go_loopw [64] (fun i wy => ∃ (k : Nat) (wq : World), wq = wy ∧ k ≤ 3 ∧ i = .int .i64 k ∧ Below V5.heap.size V5 wq) (fun i _ => 3 - (intOf i).toNat)
      case atStart => exact ⟨0, _, rfl, by omega, rfl, Below.refl _ _⟩
      case round =>
        obtain ⟨k, wq, rfl, hk, rfl, hbq⟩ := hrel
        have HBQ := Lib.hid hbq; clear hbq
        by_cases hlk : k < 3
        · have hk0 : (0 : Int) ≤ (k : Int) := by omega
          have hk1 : (k : Int) < (3 : Int) := by omega
          obtain ⟨z, hcz, hzw⟩ := HAI.out k hlk
          have y0 := (HBQ.out.cell (p := ⟨g5, k, none⟩) HG5.out).trans hcz
          have HZW := Lib.hid hzw
          have HL0 := Lib.hid (HLV.out.below HBQ.out)
          have q1 := KC.out L z P nn c wq hzw hnc HL0.out HZ.out
          have q2 := fun W h => refcopy_any L z P nn c W hzw h HZ.out
          have q3 := fun W h => KL.out L z P nn c W hzw hnc h HZ.out
          have q4 := fun W h => reflose_any L z P nn c W hzw h HZ.out
          have q5 := fun W h => KT.out L z P nn c W hzw hnc h HZ.out
          have q6 := fun W h => reftakeM_any L z P nn c W hzw h HZ.out
          have qf1 := fun W h => KF.out L z P nn c W hzw hnc h HZ.out
          have qf2 := fun W h => reffor_any L z P nn c W h HZ.out
          generalize copyL L z = R2 at *
          generalize loseL L z = R3 at *
          generalize takeL L z = R4 at *
          generalize forL L z = FL at *
          obtain ⟨r2, e2⟩ := R2
          obtain ⟨r3, e3⟩ := R3
          obtain ⟨x, r4, bt⟩ := R4
          unfold ltV at q5 q6
          simp only at q1 q2 q3 q4 q5 q6
          have QF1 := Lib.hid qf1; clear qf1
          have QF2 := Lib.hid qf2; clear qf2
          clear hcz hzw
          go_wp2_with fail
          ((with_reducible refine q1.mono ?_); rintro e W6 ⟨A6, n6, cap6, rfl, hcap6, hls6, hnw6, b6⟩)
          have HL1 := Lib.hid (HL0.out.below b6)
          have H6a := Lib.hid hls6
          have HB7 := Lib.hid (bch HBQ.out b6)
          have Q2 := q2 W6 HL1.out
          clear q1 q2 hls6 hnw6 b6 HL0 y0
          go_wp2_with fail
          ((with_reducible refine Q2.mono ?_); rintro e W7 ⟨A7, n7, cap7, rfl, hcap7, hls7, hnw7, b7⟩)
          have HL2 := Lib.hid (HL1.out.below b7)
          have H6b := Lib.hid (H6a.out.below b7)
          have H7b := Lib.hid hls7
          have HB8 := Lib.hid (bch HB7.out b7)
          have Q3 := q3 W7 HL2.out
          clear Q2 q3 hls7 hnw7 b7 HL1 H6a HB7
          go_wp2_with fail
          ((with_reducible refine Q3.mono ?_); rintro e W8 ⟨A8, n8, cap8, rfl, hcap8, hls8, hnw8, b8⟩)
          have HL3 := Lib.hid (HL2.out.below b8)
          have H6c := Lib.hid (H6b.out.below b8)
          have H7c := Lib.hid (H7b.out.below b8)
          have H8c := Lib.hid hls8
          have HB9 := Lib.hid (bch HB8.out b8)
          have Q4 := q4 W8 HL3.out
          clear Q3 q4 hls8 hnw8 b8 HL2 H6b H7b HB8
          go_wp2_with fail
          ((with_reducible refine Q4.mono ?_); rintro e W9 ⟨A9, n9, cap9, rfl, hcap9, hls9, hnw9, b9⟩)
          have HL4 := Lib.hid (HL3.out.below b9)
          have H6d := Lib.hid (H6c.out.below b9)
          have H7d := Lib.hid (H7c.out.below b9)
          have H8d := Lib.hid (H8c.out.below b9)
          have H9d := Lib.hid hls9
          have HB10 := Lib.hid (bch HB9.out b9)
          have Q5 := q5 W9 HL4.out
          clear Q4 q5 hls9 hnw9 b9 HL3 H6c H7c H8c HB9
          go_wp2_with fail
          ((with_reducible refine Q5.mono ?_); rintro e W10 ⟨A10, n10, cap10, rfl, hcap10, hls10, hnw10, b10⟩)
          go_upto_region 17 with fail
          have hal := (Below.refl W10.heap.size W10).alloc (Nat.le_refl _) (.cells #[.int .i64 x.frm, .int .i64 x.to, .string x.bytes] 25)
          have htb : LtBlk (W10.alloc (.cells #[.int .i64 x.frm, .int .i64 x.to, .string x.bytes] 25)) W10.heap.size x := LtBlk.new W10 x
          obtain ⟨V10, hV⟩ : ∃ W, W10.alloc (.cells #[.int .i64 x.frm, .int .i64 x.to, .string x.bytes] 25) = W := ⟨_, rfl⟩
          rw [hV] at hal htb ⊢
          clear hV
          have bb := bch b10 hal
          have HL5 := Lib.hid (HL4.out.below bb)
          have H6e := Lib.hid (H6d.out.below bb)
          have H7e := Lib.hid (H7d.out.below bb)
          have H8e := Lib.hid (H8d.out.below bb)
          have H9e := Lib.hid (H9d.out.below bb)
          have H10e := Lib.hid (hls10.below hal)
          have HT0 := Lib.hid htb
          have HB11 := Lib.hid (bch HB10.out bb)
          have Q6 := q6 V10 HL5.out
          generalize W10.heap.size = g10 at *
          clear Q5 q6 hls10 hnw10 b10 hal htb bb HL4 H6d H7d H8d H9d HB10
          go_wp2_with fail
          ((with_reducible refine Q6.mono ?_); rintro e W11 ⟨A11, n11, cap11, rfl, hcap11, hls11, hnw11, b11⟩)
          go_upto_region 18 with fail
          have hal := (Below.refl W11.heap.size W11).alloc (Nat.le_refl _) (.cells #[.int .i64 x.frm, .int .i64 x.to, .string x.bytes] 25)
          have htb : LtBlk (W11.alloc (.cells #[.int .i64 x.frm, .int .i64 x.to, .string x.bytes] 25)) W11.heap.size x := LtBlk.new W11 x
          obtain ⟨V11, hV⟩ : ∃ W, W11.alloc (.cells #[.int .i64 x.frm, .int .i64 x.to, .string x.bytes] 25) = W := ⟨_, rfl⟩
          rw [hV] at hal htb ⊢
          clear hV
          have bb := bch b11 hal
          have HL6 := Lib.hid (HL5.out.below bb)
          have H6 := Lib.hid (H6e.out.below bb)
          have H7 := Lib.hid (H7e.out.below bb)
          have H8 := Lib.hid (H8e.out.below bb)
          have H9 := Lib.hid (H9e.out.below bb)
          have H10 := Lib.hid (H10e.out.below bb)
          have H11 := Lib.hid (hls11.below hal)
          have HT1 := Lib.hid (HT0.out.below bb)
          have HT2 := Lib.hid htb
          have HB12 := Lib.hid (bch HB11.out bb)
          generalize W11.heap.size = g11 at *
          clear Q6 hls11 hnw11 b11 hal htb bb HL5 H6e H7e H8e H9e H10e HT0 HB11
          have qs1 := refsameL_any A6 A7 n6 n7 cap6 cap7 r2 r2 V11 H6.out H7.out
          rw [sameL_self] at qs1
          have en2 : ((e2 : Int) != (e2 : Int)) = false := by simp
          have en3 : ((e3 : Int) != (e3 : Int)) = false := by simp
          have ebt : (bt != bt) = false := by simp
          have eqx := fun W => eqLt x x W
          rw [eqL_self] at eqx
          unfold ltV at eqx
          have hgu := guardLt
          go_wp2_with fail
          ((with_reducible refine qs1.mono ?_); rintro e U1 ⟨rfl, u1⟩)
          have qs2 := refsameL_any A8 A9 n8 n9 cap8 cap9 r3 r3 U1 (H8.out.below u1) (H9.out.below u1)
          rw [sameL_self] at qs2
          clear qs1
          go_wp2_with fail
          ((with_reducible refine qs2.mono ?_); rintro e U2 ⟨rfl, u2⟩)
          have hu2 := bch u1 u2
          obtain ⟨c0, c1, c2⟩ := (HT1.out.below hu2).cells
          obtain ⟨d0, d1, d2⟩ := (HT2.out.below hu2).cells
          have qs3 := refsameL_any A10 A11 n10 n11 cap10 cap11 r4 r4 U2 (H10.out.below hu2) (H11.out.below hu2)
          rw [sameL_self] at qs3
          clear qs2 u1 u2
          have HU2 := Lib.hid hu2; clear hu2
          go_wp2_with fail
          ((with_reducible refine qs3.mono ?_); rintro e U3 ⟨rfl, u3⟩)
          have hu3 := bch HU2.out u3
          have qf1 := QF1.out U3 (HL6.out.below hu3)
          clear qs3 c0 c1 c2 d0 d1 d2 u3
          have HU3 := Lib.hid hu3; clear hu3
          go_wp2_with fail
          ((with_reducible refine qf1.mono ?_); rintro e U4 ⟨A12, n12, cap12, rfl, hcap12, hns12, hnw12, u4⟩)
          have hu4 := bch HU3.out u4
          have qf2 := QF2.out U4 (HL6.out.below hu4)
          have HN12 := Lib.hid hns12
          clear qf1 hns12 hnw12 u4
          have HU4 := Lib.hid hu4; clear hu4
          go_wp2_with fail
          ((with_reducible refine qf2.mono ?_); rintro e U5 ⟨A13, n13, cap13, rfl, hcap13, hns13, hnw13, u5⟩)
          have qi := refints_any A12 A13 n12 n13 cap12 cap13 FL FL U5 (HN12.out.below u5) hns13
          rw [sameI_self] at qi
          have HU5 := Lib.hid (bch HU4.out u5)
          clear qf2 hns13 hnw13 u5
          go_wp2_with fail
          ((with_reducible refine qi.mono ?_); rintro e U6 ⟨rfl, u6⟩)
          have HBE := Lib.hid (bch HB12.out (bch HU5.out u6))
          clear qi u6
          go_wp2_with fail
          go_roundw
          case rel => exact ⟨k + 1, _, rfl, by omega, by go_num, HBE.out⟩
          case measure => simp [intOf]; omega
        · have hke : k = 3 := by omega
          subst hke
          have HBE := Lib.hid (bch HB6.out HBQ.out)
          go_wp2_with fail
          go_roundw
          case rel => exact ⟨j + 1, _, rfl, by omega, by go_num, HBE.out⟩
          case measure => simp [intOf]; omega
    · have hje : j = 2 := by omega
      subst hje
      have HBE := Lib.hid (bch HBV.out HB.out)
      go_wp2_with fail
      go_ret
      exact ⟨rfl, HBE.out⟩
end Go.Proofs.Ytljjbpgbddaekaa
