import Derived.Test.YtljjbpgbddaekaaMailSteps
import Derived.Test.YtljjbpgbddaekaaMailAwake
/-
  The walk of the law MailStays, over what is asked of the program (stage 11).
-/
namespace Go.Proofs.Ytljjbpgbddaekaa
open Go.RowKit
set_option linter.unusedVariables false
set_option linter.unusedSimpArgs false
set_option maxRecDepth 100000 in
set_option maxHeartbeats 8000000 in
theorem mailStays_core (kP : PostQ) (kC : CopyQ) (kL : LoseQ) (kT : TakeM) (kF : ForQ) (a0 : Option Addr) (n0 cap0 : Nat) (f0 : Nat → Nat → Int) (a1 : Option Addr) (len1 cap1 : Nat) (zs : List Int) (w : World) (h0 : IsRaw w a0 n0 3 f0) (h1 : IsRow .i64 w a1 len1 cap1 zs) :
    Calls Try.prog 5 #[.slice a0 n0 cap0, .slice a1 len1 cap1] w fun e w' => e = .returned (.bool true) ∧ Below w.heap.size w w' := by
  obtain ⟨_, hns0⟩ := h1.isNs
  generalize zs.take len1 = come at *
  clear h1
  have hl0 := hns0.2.1
  unfold maxLen at hl0
  have HCM := Lib.hid hns0; clear hns0
  have qw := awakeM_any kP kC kL kT kF
  have KP := Lib.hid kP; clear kP
  have KL := Lib.hid kL; clear kL
  have KT := Lib.hid kT; clear kT
  clear kC kF
  have HC := Lib.hid h0; clear h0
  go_enter Try.func5, Try.ntmps5
  go_wp2_with fail
  ((with_reducible refine (qw _).mono ?_); rintro e Wa ⟨rfl, ba⟩)
  have ql := letters_any a0 n0 cap0 f0 Wa (HC.out.below ba)
  have HBa := Lib.hid ba; clear ba qw
  go_wp2_with fail
  ((with_reducible refine ql.mono ?_); rintro e W0 ⟨A, n, cap, rfl, hcap, hls, hnw, b0⟩)
  try simp only [id]
  have HLW := Lib.hid (letters_wf f0 (min n0 30))
  have hlen := letters_len f0 (min n0 30)
  generalize lettersR f0 (min n0 30) = l at *
  have hn30 : n ≤ 30 := by rw [hls.1, hlen]; omega
  have HN : Hid (n = l.length) := hls.1
  have HL := Lib.hid hls
  have HB0 := Lib.hid (bch HBa.out b0)
  clear ql hls hnw b0 HBa hlen
  go_wp2_with fail
  go_loopw [7, 8] (fun v i wy => ∃ (k c : Nat) (B : Option Addr) (wr : World), wr = wy ∧ k ≤ n ∧ i = .int .i64 k ∧ v = .slice B k c ∧ k ≤ c ∧ IsLs wr B k (l.take k) ∧ Below W0.heap.size W0 wr) (fun _ i _ => n - (intOf i).toNat)
  case atStart => exact ⟨0, 0, none, _, rfl, by omega, rfl, rfl, Nat.le_refl _, isLs_nil _ _, Below.refl _ _⟩
  case round =>
    obtain ⟨k, c, B, wr, rfl, hk, rfl, rfl, hkc, hlk, hb⟩ := hrel
    have HB := Lib.hid hb; clear hb
    have HLK := Lib.hid hlk; clear hlk
    by_cases hlt : k < n
    · have hki : (k : Int) < (n : Int) := by omega
      have hk0 : (0 : Int) ≤ (k : Int) := by omega
      have hkl : k < l.length := by have := HN.out; omega
      obtain ⟨bl, ol, hAl, _, _⟩ := HL.out.2.2.2 (by have := HN.out; omega)
      subst hAl
      obtain ⟨x0, x1, x2⟩ := HL.out.cells hkl rfl HB.out
      have HXW : Hid (LtWf (atL l k)) := HLW.out.at hkl
      have hpo : postL (l.take k) (atL l k) = (l.take (k + 1), 0) := by
        unfold postL
        rw [if_neg (by rw [List.length_take]; omega), take_succL hkl]
      have q := KP.out (l.take k) (atL l k) B k c wr HXW.out hkc HLK.out (by omega)
      rw [hpo] at q
      have HTL : Hid ((l.take (k + 1)).length = k + 1) := by show _ = _; rw [List.length_take]; omega
      generalize atL l k = x at *
      unfold ltV at q
      clear hpo hkl
      go_wp2_with fail
      ((with_reducible refine q.mono ?_); rintro e W5 ⟨A5, n5, cap5, rfl, hcap5, hls5, hnw5, b5⟩)
      have hn5 : n5 = k + 1 := by rw [hls5.1]; exact HTL.out
      subst hn5
      have HLS := Lib.hid hls5
      have HB5 := Lib.hid (bch HB.out b5)
      clear q hls5 hnw5 b5 x0 x1 x2 HB HLK
      go_wp2_with fail
      go_roundw
      case rel => exact ⟨k + 1, cap5, A5, _, rfl, by omega, by go_num, rfl, hcap5, HLS.out, HB5.out⟩
      case measure => simp [intOf]; omega
    · have hke : k = n := by omega
      subst hke
      have hge : ¬ (k : Int) < (k : Int) := by omega
      have htl : l.take k = l := by rw [List.take_of_length_le]; have := HN.out; omega
      rw [htl] at HLK
      have HB1 := Lib.hid (bch HB0.out HB.out)
      have HLA := Lib.hid (HL.out.below HB.out)
      clear htl hge hlt hk
      go_wp2_with fail
      go_loopw [6, 7, 11] (fun a v i wy => ∃ (j m c d : Nat) (P R : Option Addr) (L : List Lt) (wq : World), wq = wy ∧ j ≤ len1 ∧ j ≤ 40 ∧ m ≤ 30 ∧ i = .int .i64 j ∧ a = .slice P m c ∧ m ≤ c ∧ IsLs wq P m L ∧ v = .slice R m d ∧ m ≤ d ∧ IsLs wq R m L ∧ Below wr.heap.size wr wq) (fun _ _ i _ => 40 - (intOf i).toNat)
      case atStart => exact ⟨0, k, cap, c, A, B, l, _, rfl, by omega, by omega, hn30, rfl, rfl, hcap, HLA.out, rfl, hkc, HLK.out, Below.refl _ _⟩
      case round =>
        obtain ⟨j, m, c2, d2, P, R, L, wq, rfl, hj, hj40, hm30, rfl, rfl, hmc, hP, rfl, hmd, hR, hbq⟩ := hrel
        have HPL := Lib.hid hP; clear hP
        have HRL := Lib.hid hR; clear hR
        have HBQ := Lib.hid hbq; clear hbq
        have HML : Hid (m = L.length) := HPL.out.1
        by_cases hc1 : j < len1
        · have hd1 : (j : Int) < (len1 : Int) := by omega
          have hj0 : (0 : Int) ≤ (j : Int) := by omega
          by_cases hc2 : j < 40
          · have hd2 : (j : Int) < 40 := by omega
            by_cases hc3 : 0 < m
            · have hd3 : (0 : Int) < (m : Int) := by omega
              obtain ⟨bw, ow, hAw, hbw, hcw⟩ := HCM.out.2.2.2 (by omega)
              subst hAw
              have hjc : j < come.length := by have := HCM.out.1; omega
              have HZW : Hid ((Lit.int .i64 (come.getD j 0)).wf = true) := ints_at HCM.out.2.2.1 hjc
              have y0 := ((bch HB1.out HBQ.out).cell (p := ⟨bw, ow + j, none⟩) hbw).trans (hcw j hjc)
              generalize come.getD j 0 = z at *
              have qp := fun W => pickN11_nat z m (by omega) (by omega) HZW.out W
              have hp := pickN_lt z m (by omega)
              generalize pickN z m = p at *
              have hpl : p < L.length := by have := HML.out; omega
              obtain ⟨x, hx⟩ : ∃ x, atL L p = x := ⟨_, rfl⟩
              have HXA := Lib.hid hx
              have HTK : Hid (takeL L (p : Int) = (x, restL L (p : Int), true)) := by
                show _ = _
                unfold takeL
                rw [if_pos (thereL_nat hpl), show ((p : Int)).toNat = p from rfl, hx]
              have HLO : Hid (loseL L (p : Int) = (restL L (p : Int), 0)) := by
                show _ = _
                unfold loseL
                rw [if_pos (thereL_nat hpl)]
              have HRE : Hid (restL L (p : Int) = L.take p ++ L.drop (p + 1)) := rest_yes hpl
              have hrl := rest_len hpl
              generalize restL L (p : Int) = r at *
              have HRN : Hid (r.length + 1 = m) := by show _ = _; have := HML.out; omega
              have HPL2 := Lib.hid hpl
              obtain ⟨bp, op, hAp, _, _⟩ := HPL.out.2.2.2 (by have := HML.out; omega)
              subst hAp
              have q1 := KT.out L (p : Int) R m d2 wq (wf_within (by omega) (by omega)) hmd HRL.out (by omega)
              rw [HTK.out] at q1
              clear hcw hjc hx hrl hpl
              go_wp2_with fail
              ((with_reducible refine (qp _).mono ?_); rintro e W_ ⟨rfl, rfl⟩)
              clear qp y0
              go_wp2_with fail
              ((with_reducible refine q1.mono ?_); rintro e W1 ⟨A1, n1, cap1_, rfl, hcap1, hls1, hnw1, b1⟩)
              go_upto_region 16 with fail
              have hal := (Below.refl W1.heap.size W1).alloc (Nat.le_refl _) (.cells #[.int .i64 x.frm, .int .i64 x.to, .string x.bytes] 25)
              have ht : LtBlk (W1.alloc (.cells #[.int .i64 x.frm, .int .i64 x.to, .string x.bytes] 25)) W1.heap.size x := LtBlk.new W1 x
              obtain ⟨V1, hV⟩ : ∃ W, W1.alloc (.cells #[.int .i64 x.frm, .int .i64 x.to, .string x.bytes] 25) = W := ⟨_, rfl⟩
              rw [hV] at hal ht ⊢
              clear hV
              have bb := bch b1 hal
              have hn1 : n1 + 1 = m := by rw [hls1.1]; exact HRN.out
              have HL1 := Lib.hid (hls1.below hal)
              have HBV := Lib.hid (bch HBQ.out bb)
              have HRV := Lib.hid (HRL.out.below bb)
              have HPV := Lib.hid (HPL.out.below bb)
              have HT0 := Lib.hid ht
              have q2 := KL.out L (p : Int) R m d2 V1 (wf_within (by omega) (by omega)) hmd HRV.out (by omega)
              rw [HLO.out] at q2
              have HN1 := Lib.hid hn1
              clear q1 hls1 hnw1 b1 bb hal ht hn1
              go_wp2_with fail
              ((with_reducible refine q2.mono ?_); rintro e W2 ⟨A2, n2, cap2, rfl, hcap2, hls2, hnw2, b2⟩)
              obtain rfl : n2 = n1 := by have h := hls2.1; have h2 := HL1.out.1; omega
              have HL2 := Lib.hid hls2
              have HL12 := Lib.hid (HL1.out.below b2)
              have HBV2 := Lib.hid (bch HBV.out b2)
              have HPV2 := Lib.hid (HPV.out.below b2)
              have HT := Lib.hid (HT0.out.below b2)
              clear q2 hls2 hnw2 b2 HT0
              have HCX : Hid (∀ W, Below W2.heap.size W2 W → W.cell? ⟨bp, op + p * 3, none⟩ = some (.int .i64 x.frm) ∧ W.cell? ⟨bp, op + p * 3 + 1, none⟩ = some (.int .i64 x.to) ∧ W.cell? ⟨bp, op + p * 3 + 2, none⟩ = some (.string x.bytes)) := fun W hb => HPV2.out.cells HPL2.out HXA.out hb
              have qs := fun W (hb : Below W2.heap.size W2 W) => refsameL_any A1 A2 n2 n2 cap1_ cap2 r r W (HL12.out.below hb) (HL2.out.below hb)
              simp only [sameL_self] at qs
              have eqx := fun W => eqLt x x W
              rw [eqL_self] at eqx
              unfold ltV at eqx
              have hgu := guardLt
              have hpi : (p : Int) < (m : Int) := by omega
              have hp0 : (0 : Int) ≤ (p : Int) := by omega
              go_upto_region 17 with fail
              refine wp_region_noPanic ?_
              refine wp_region_held_drew (S := fun W => Below W2.heap.size W2 W) (by kernel_rfl) ((Below.refl _ _).drew) (fun hHeld => ?_)
              refine wpAnyH_take (i := 0) (v := ?_) rfl (by kernel_rfl) (by kernel_rfl) (by kernel_rfl) (fun _ _ _ h => h) (Or.inl ⟨by rfl, ?_⟩) (by assumption) ?_
              rotate_left
              · (intro w hSw; (try dsimp only at hSw); go_simp; (try with_reducible rfl))
              simp only [Act.put, List.getElem_toArray, List.getElem_cons_zero, List.setIfInBounds_toArray, List.set_cons_zero, List.set_cons_succ]
              refine wpAnyH_take (i := 1) (v := ?_) rfl (by kernel_rfl) (by kernel_rfl) (by kernel_rfl) (fun _ _ _ h => h) (Or.inl ⟨by rfl, ?_⟩) (by assumption) ?_
              rotate_left
              · (intro w hSw; (try dsimp only at hSw); go_simp; (try with_reducible rfl))
              simp only [Act.put, List.getElem_toArray, List.getElem_cons_zero, List.getElem_cons_succ, List.setIfInBounds_toArray, List.set_cons_zero, List.set_cons_succ]
              refine wpAnyH_take (i := 2) (v := ?_) rfl (by kernel_rfl) (by kernel_rfl) (by kernel_rfl) (fun _ _ _ h => h) (Or.inl ⟨by rfl, ?_⟩) (by assumption) ?_
              rotate_left
              · (intro w hSw; (try dsimp only at hSw); go_simp; (try with_reducible rfl))
              simp only [Act.put, List.getElem_toArray, List.getElem_cons_zero, List.getElem_cons_succ, List.setIfInBounds_toArray, List.set_cons_zero, List.set_cons_succ]
              refine wpAnyH_take (i := 3) (v := ?_) rfl (by kernel_rfl) (by kernel_rfl) (by kernel_rfl) (fun _ _ _ h => h) (Or.inl ⟨by rfl, ?_⟩) (by assumption) ?_
              rotate_left
              · (intro w hSw; (try dsimp only at hSw); go_simp; (try with_reducible rfl))
              simp only [Act.put, List.getElem_toArray, List.getElem_cons_zero, List.getElem_cons_succ, List.setIfInBounds_toArray, List.set_cons_zero, List.set_cons_succ]
              refine wpAnyH_take (i := 4) (v := ?_) rfl (by kernel_rfl) (by kernel_rfl) (by kernel_rfl) (fun _ _ _ h => h) (Or.inl ⟨by rfl, ?_⟩) (by assumption) ?_
              rotate_left
              · (intro w hSw; (try dsimp only at hSw); go_simp; (try with_reducible rfl))
              simp only [Act.put, List.getElem_toArray, List.getElem_cons_zero, List.getElem_cons_succ, List.setIfInBounds_toArray, List.set_cons_zero, List.set_cons_succ]
              refine wpAnyH_take (i := 5) (v := ?_) rfl (by kernel_rfl) (by kernel_rfl) (by kernel_rfl) (fun _ _ _ h => h) (Or.inl ⟨by rfl, ?_⟩) (by assumption) ?_
              rotate_left
              · (intro w hSw; (try dsimp only at hSw); go_simp; (try with_reducible rfl))
              simp only [Act.put, List.getElem_toArray, List.getElem_cons_zero, List.getElem_cons_succ, List.setIfInBounds_toArray, List.set_cons_zero, List.set_cons_succ]
              refine wpAnyH_take (i := 6) (v := ?_) rfl (by kernel_rfl) (by kernel_rfl) (by kernel_rfl) (fun _ _ _ h => h) (Or.inl ⟨by rfl, ?_⟩) (by assumption) ?_
              rotate_left
              · (intro w hSw; (try dsimp only at hSw); go_simp; (try with_reducible rfl))
              simp only [Act.put, List.getElem_toArray, List.getElem_cons_zero, List.getElem_cons_succ, List.setIfInBounds_toArray, List.set_cons_zero, List.set_cons_succ]
              refine wpAnyH_take (i := 7) (v := ?_) rfl (by kernel_rfl) (by kernel_rfl) (by kernel_rfl) (fun _ _ _ h => h) (Or.inl ⟨by rfl, ?_⟩) (by assumption) ?_
              rotate_left
              · (intro w hSw; (try dsimp only at hSw); obtain ⟨c0, c1, c2⟩ := (HT.out.below hSw).cells; go_simp; (try with_reducible rfl))
              simp only [Act.put, List.getElem_toArray, List.getElem_cons_zero, List.getElem_cons_succ, List.setIfInBounds_toArray, List.set_cons_zero, List.set_cons_succ]
              refine wpAnyH_take (i := 8) (v := ?_) rfl (by kernel_rfl) (by kernel_rfl) (by kernel_rfl) (fun _ _ _ h => h) (Or.inl ⟨by rfl, ?_⟩) (by assumption) ?_
              rotate_left
              · (intro w hSw; (try dsimp only at hSw); go_simp; (try with_reducible rfl))
              simp only [Act.put, List.getElem_toArray, List.getElem_cons_zero, List.getElem_cons_succ, List.setIfInBounds_toArray, List.set_cons_zero, List.set_cons_succ]
              refine wpAnyH_take (i := 9) (v := ?_) rfl (by kernel_rfl) (by kernel_rfl) (by kernel_rfl) (fun _ _ _ h => h) (Or.inl ⟨by rfl, ?_⟩) (by assumption) ?_
              rotate_left
              · (intro w hSw; (try dsimp only at hSw); go_simp; (try with_reducible rfl))
              simp only [Act.put, List.getElem_toArray, List.getElem_cons_zero, List.getElem_cons_succ, List.setIfInBounds_toArray, List.set_cons_zero, List.set_cons_succ]
              refine wpAnyH_take (i := 10) (v := ?_) rfl (by kernel_rfl) (by kernel_rfl) (by kernel_rfl) (fun _ _ _ h => h) (Or.inl ⟨by rfl, ?_⟩) (by assumption) ?_
              rotate_left
              · (intro w hSw; (try dsimp only at hSw); go_simp; (try with_reducible rfl))
              simp only [Act.put, List.getElem_toArray, List.getElem_cons_zero, List.getElem_cons_succ, List.setIfInBounds_toArray, List.set_cons_zero, List.set_cons_succ]
              refine wpAnyH_take (i := 11) (v := ?_) rfl (by kernel_rfl) (by kernel_rfl) (by kernel_rfl) (fun _ _ _ h => h) (Or.inl ⟨by rfl, ?_⟩) (by assumption) ?_
              rotate_left
              · (intro w hSw; (try dsimp only at hSw); obtain ⟨x0, x1, x2⟩ := HCX.out _ hSw; go_simp; (try with_reducible rfl))
              simp only [Act.put, List.getElem_toArray, List.getElem_cons_zero, List.getElem_cons_succ, List.setIfInBounds_toArray, List.set_cons_zero, List.set_cons_succ]
              refine wpAnyH_take (i := 12) (v := ?_) rfl (by kernel_rfl) (by kernel_rfl) (by kernel_rfl) (fun _ _ _ h => h) (Or.inl ⟨by rfl, ?_⟩) (by assumption) ?_
              rotate_left
              · (intro w hSw; (try dsimp only at hSw); go_simp; (try with_reducible rfl))
              simp only [Act.put, List.getElem_toArray, List.getElem_cons_zero, List.getElem_cons_succ, List.setIfInBounds_toArray, List.set_cons_zero, List.set_cons_succ]
              refine wpAnyH_take (i := 13) (v := ?_) rfl (by kernel_rfl) (by kernel_rfl) (by kernel_rfl) (fun _ _ _ h => h) (Or.inl ⟨by rfl, ?_⟩) (by assumption) ?_
              rotate_left
              · (intro w hSw; (try dsimp only at hSw); go_simp; (try with_reducible rfl))
              simp only [Act.put, List.getElem_toArray, List.getElem_cons_zero, List.getElem_cons_succ, List.setIfInBounds_toArray, List.set_cons_zero, List.set_cons_succ]
              refine wpAnyH_take (i := 14) (v := ?_) rfl (by kernel_rfl) (by kernel_rfl) (by kernel_rfl) (fun _ _ _ h => h) (Or.inl ⟨by rfl, ?_⟩) (by assumption) ?_
              rotate_left
              · (intro w hSw; (try dsimp only at hSw); go_simp; (try with_reducible rfl))
              simp only [Act.put, List.getElem_toArray, List.getElem_cons_zero, List.getElem_cons_succ, List.setIfInBounds_toArray, List.set_cons_zero, List.set_cons_succ]
              refine wpAnyH_take (i := 15) (v := ?_) rfl (by kernel_rfl) (by kernel_rfl) (by kernel_rfl) (fun _ _ _ h => h) (Or.inl ⟨by rfl, ?_⟩) (by assumption) ?_
              rotate_left
              · (intro w hSw; (try dsimp only at hSw); go_simp; (try with_reducible rfl))
              simp only [Act.put, List.getElem_toArray, List.getElem_cons_zero, List.getElem_cons_succ, List.setIfInBounds_toArray, List.set_cons_zero, List.set_cons_succ]
              refine wpAnyH_take (i := 16) (v := ?_) rfl (by kernel_rfl) (by kernel_rfl) (by kernel_rfl) (fun _ _ _ h => h) (Or.inl ⟨by rfl, ?_⟩) (by assumption) ?_
              rotate_left
              · (intro w hSw; (try dsimp only at hSw); go_simp; (try with_reducible rfl))
              simp only [Act.put, List.getElem_toArray, List.getElem_cons_zero, List.getElem_cons_succ, List.setIfInBounds_toArray, List.set_cons_zero, List.set_cons_succ]
              refine wpAnyH_ready (rs := [17]) (by kernel_rfl) (by simp) ?_
              refine AllReadyH.cons rfl (fun K hK => ?_) AllReadyH.nil
              rw [if_pos (by rfl)]
              go_simp
              ((with_reducible refine (qs _ hHeld).mono ?_); rintro e w' ⟨rfl, bq⟩)
              refine hK.out _ _ (bch hHeld bq) (fun hHeld2 => ?_)
              clear hK K hHeld
              have hHeld := hHeld2; clear hHeld2
              refine wpAnyH_take (i := 18) (v := ?_) rfl (by kernel_rfl) (by kernel_rfl) (by kernel_rfl) (fun _ _ _ h => h) (Or.inl ⟨by rfl, ?_⟩) (by assumption) ?_
              rotate_left
              · (intro w hSw; (try dsimp only at hSw); go_simp; (try with_reducible rfl))
              simp only [Act.put, List.getElem_toArray, List.getElem_cons_zero, List.getElem_cons_succ, List.setIfInBounds_toArray, List.set_cons_zero, List.set_cons_succ]
              refine wpAnyH_take (i := 19) (v := ?_) rfl (by kernel_rfl) (by kernel_rfl) (by kernel_rfl) (fun _ _ _ h => h) (Or.inl ⟨by rfl, ?_⟩) (by assumption) ?_
              rotate_left
              · (intro w hSw; (try dsimp only at hSw); go_simp; (try with_reducible rfl))
              simp only [Act.put, List.getElem_toArray, List.getElem_cons_zero, List.getElem_cons_succ, List.setIfInBounds_toArray, List.set_cons_zero, List.set_cons_succ]
              refine wpAnyH_done (by kernel_rfl) ?_ _
              refine NoPanic.normal ?_
              have HB5 := Lib.hid (bch HBV2.out hHeld)
              have HA5 := Lib.hid (HPV2.out.below hHeld)
              have HR5 := Lib.hid (HL12.out.below hHeld)
              clear hHeld bq qs eqx
              have hpw : IntKind.i64.wrap ((p : Int) + 1) = (p : Int) + 1 := IntWalk.i64_in _ (by omega)
              have HPM : Hid (p ≤ m) := by show p ≤ m; omega
              have HPS : Hid (p + 1 ≤ m) := by show p + 1 ≤ m; omega
              have hpc : p ≤ c2 := by omega
              have hs0 : (0 : Int) ≤ (p : Int) + 1 := by omega
              have hs1 : (p : Int) + 1 ≤ (m : Int) := by omega
              obtain ⟨A5f, hA5f⟩ : ∃ A5f, (if c2 = p + 1 then some (⟨bp, op, none⟩ : Addr) else some ⟨bp, op + (p + 1) * 3, none⟩) = A5f := ⟨_, rfl⟩
              have HF5 : Hid (p + 1 < m → A5f = some ⟨bp, op + (p + 1) * 3, none⟩) := fun h => by rw [← hA5f, if_neg (by omega)]
              have HLN : Hid ((L.take p).length = p) := by show _ = _; rw [List.length_take]; have := HPL2.out; omega
              have HZ : Hid ((L.take p).length + (m - (p + 1)) = n2) := by show _ = _; rw [HLN.out]; have := HN1.out; have := HPS.out; omega
              go_upto_region 19 with fail
              refine wp_region_noPanic ?_
              refine wp_region_held_drew (S := fun W => Below w'.heap.size w' W) (by kernel_rfl) ((Below.refl _ _).drew) (fun hHeld => ?_)
              refine wpAnyH_take (i := 0) (v := ?_) rfl (by kernel_rfl) (by kernel_rfl) (by kernel_rfl) (fun _ _ _ h => h) (Or.inl ⟨by rfl, ?_⟩) (by assumption) ?_
              rotate_left
              · (intro w hSw; (try dsimp only at hSw); go_simp; (try with_reducible rfl))
              simp only [Act.put, List.getElem_toArray, List.getElem_cons_zero, List.setIfInBounds_toArray, List.set_cons_zero, List.set_cons_succ]
              refine wpAnyH_take (i := 1) (v := ?_) rfl (by kernel_rfl) (by kernel_rfl) (by kernel_rfl) (fun _ _ _ h => h) (Or.inl ⟨by rfl, ?_⟩) (by assumption) ?_
              rotate_left
              · (intro w hSw; (try dsimp only at hSw); go_simp; (try with_reducible rfl))
              simp only [Act.put, List.getElem_toArray, List.getElem_cons_zero, List.getElem_cons_succ, List.setIfInBounds_toArray, List.set_cons_zero, List.set_cons_succ]
              refine wpAnyH_take (i := 2) (v := ?_) rfl (by kernel_rfl) (by kernel_rfl) (by kernel_rfl) (fun _ _ _ h => h) (Or.inl ⟨by rfl, ?_⟩) (by assumption) ?_
              rotate_left
              · (intro w hSw; (try dsimp only at hSw); go_simp; (try with_reducible rfl))
              simp only [Act.put, List.getElem_toArray, List.getElem_cons_zero, List.getElem_cons_succ, List.setIfInBounds_toArray, List.set_cons_zero, List.set_cons_succ]
              refine wpAnyH_take (i := 4) (v := ?_) rfl (by kernel_rfl) (by kernel_rfl) (by kernel_rfl) (fun _ _ _ h => h) (Or.inl ⟨by rfl, ?_⟩) (by assumption) ?_
              rotate_left
              · (intro w hSw; (try dsimp only at hSw); go_simp; (try with_reducible rfl))
              simp only [Act.put, List.getElem_toArray, List.getElem_cons_zero, List.getElem_cons_succ, List.setIfInBounds_toArray, List.set_cons_zero, List.set_cons_succ]
              refine wpAnyH_take (i := 5) (v := ?_) rfl (by kernel_rfl) (by kernel_rfl) (by kernel_rfl) (fun _ _ _ h => h) (Or.inl ⟨by rfl, ?_⟩) (by assumption) ?_
              rotate_left
              · (intro w hSw; (try dsimp only at hSw); go_simp; (try with_reducible rfl))
              simp only [Act.put, List.getElem_toArray, List.getElem_cons_zero, List.getElem_cons_succ, List.setIfInBounds_toArray, List.set_cons_zero, List.set_cons_succ]
              refine wpAnyH_take (i := 6) (v := ?_) rfl (by kernel_rfl) (by kernel_rfl) (by kernel_rfl) (fun _ _ _ h => h) (Or.inl ⟨by rfl, ?_⟩) (by assumption) ?_
              rotate_left
              · (intro w hSw; (try dsimp only at hSw); go_simp; (try with_reducible rfl))
              simp only [Act.put, List.getElem_toArray, List.getElem_cons_zero, List.getElem_cons_succ, List.setIfInBounds_toArray, List.set_cons_zero, List.set_cons_succ]
              refine wpAnyH_take (i := 7) (v := ?_) rfl (by kernel_rfl) (by kernel_rfl) (by kernel_rfl) (fun _ _ _ h => h) (Or.inl ⟨by rfl, ?_⟩) (by assumption) ?_
              rotate_left
              · (intro w hSw; (try dsimp only at hSw); go_simp; (try with_reducible rfl))
              simp only [Act.put, List.getElem_toArray, List.getElem_cons_zero, List.getElem_cons_succ, List.setIfInBounds_toArray, List.set_cons_zero, List.set_cons_succ]
              refine wpAnyH_ready (rs := [3]) (by kernel_rfl) (by simp) ?_
              refine AllReadyH.cons rfl (fun K hK => ?_) AllReadyH.nil
              refine step_append_ls rfl _ _ rfl w'.heap.size (.slice none 0 0) [] rfl (rowL_nil _ _) _ p _ (L.take p) rfl ((HA5.out.below hHeld).take HPM.out) (by simp only [List.length_nil]; omega) hHeld.size ?_
              intro A6 cap6 V6 hrow6 hgr6
              try simp only [List.nil_append, List.length_nil, Nat.zero_add] at hrow6 ⊢
              have hb6 := bch hHeld (below_grownL hgr6 (fun g hg => by simp [Value.ownBlock] at hg))
              have HR6 := Lib.hid hrow6
              refine hK.out _ _ hb6 (fun hHeld2 => ?_)
              clear hK K hHeld hgr6 hb6 hrow6
              have hHeld := hHeld2; clear hHeld2
              refine wpAnyH_ready (rs := [8]) (by kernel_rfl) (by simp) ?_
              refine AllReadyH.cons rfl (fun K hK => ?_) AllReadyH.nil
              refine step_append_ls rfl _ _ rfl w'.heap.size _ (L.take p) rfl HR6.out A5f _ _ (L.drop (p + 1)) rfl ((HA5.out.below hHeld).drop HPS.out HF5.out) (by rw [List.length_take]; omega) hHeld.size ?_
              intro A7 cap7 V7 hrow7 hgr7
              rw [HZ.out] at hrow7 ⊢
              have hlt7 := HR6.out.lt
              have hb7 := hHeld.grown hgr7 hHeld.size (fun g hg => (hlt7 g hg).1)
              have HR7 := Lib.hid hrow7
              refine hK.out _ _ hb7 (fun hHeld2 => ?_)
              clear hK K hHeld hgr7 hb7 hrow7 hlt7
              have hHeld := hHeld2; clear hHeld2
              refine wpAnyH_take (i := 9) (v := ?_) rfl (by kernel_rfl) (by kernel_rfl) (by kernel_rfl) (fun _ _ _ h => h) (Or.inl ⟨by rfl, ?_⟩) (by assumption) ?_
              rotate_left
              · (intro w hSw; (try dsimp only at hSw); go_simp; (try with_reducible rfl))
              simp only [Act.put, List.getElem_toArray, List.getElem_cons_zero, List.getElem_cons_succ, List.setIfInBounds_toArray, List.set_cons_zero, List.set_cons_succ]
              refine wpAnyH_done (by kernel_rfl) ?_ _
              refine NoPanic.normal ?_
              have hrow := HR7.out
              rw [← HRE.out] at hrow
              have hwf7 : LtsWf r := by
                rw [HRE.out]
                exact (HA5.out.take HPM.out).2.2.1.append (fun m hm => HA5.out.2.2.1 m (List.mem_of_mem_drop hm))
              obtain ⟨Ar, cr, hv7, hcr, hlr⟩ := hrow.isLs hwf7
              have hA7 : A7 = Ar ∧ cap7 = cr := by cases hv7; exact ⟨rfl, rfl⟩
              obtain ⟨rfl, rfl⟩ := hA7
              have hrn : r.length = n2 := by have := HL1.out.1; omega
              rw [hrn] at hcr hlr
              have HLR := Lib.hid hlr
              have HR57 := Lib.hid (HR5.out.below hHeld)
              have HB7 := Lib.hid (bch HB5.out hHeld)
              have qe := refsameL_any A1 A7 n2 n2 cap1_ cap7 r r V7 HR57.out HLR.out
              rw [sameL_self] at qe
              clear hHeld hrow hv7 hlr hrn hwf7
              go_wp2_with fail
              ((with_reducible refine qe.mono ?_); rintro e W9 ⟨rfl, b9⟩)
              have HLR9 := Lib.hid (HLR.out.below b9)
              have HR59 := Lib.hid (HR57.out.below b9)
              have HB9 := Lib.hid (bch HB7.out b9)
              clear qe b9
              have hn29 : n2 ≤ 30 := by have := HN1.out; omega
              go_wp2_with fail
              go_roundw
              case rel => exact ⟨j + 1, n2, cap7, cap1_, A7, A1, r, _, rfl, by omega, by omega, hn29, by go_num, rfl, hcr, HLR9.out, rfl, hcap1, HR59.out, HB9.out⟩
              case measure => simp [intOf]; omega
            · have hm0 : m = 0 := by omega
              subst hm0
              have hd3 : ¬ (0 : Int) < (0 : Int) := by omega
              have qe := refsameL_any R P 0 0 d2 c2 L L wq HRL.out HPL.out
              rw [sameL_self] at qe
              have HBE := Lib.hid (bch HB1.out HBQ.out)
              go_wp2_with fail
              ((with_reducible refine qe.mono ?_); rintro e W9 ⟨rfl, b9⟩)
              have HB9 := Lib.hid (bch HBE.out b9)
              clear qe b9
              go_wp2_with fail
              go_ret
              exact ⟨rfl, HB9.out⟩
          · have hd2 : (40 : Int) ≤ (j : Int) := by omega
            have hd2d : decide ((j : Int) < 40) = false := decide_eq_false (by omega)
            have qe := refsameL_any R P m m d2 c2 L L wq HRL.out HPL.out
            rw [sameL_self] at qe
            have HBE := Lib.hid (bch HB1.out HBQ.out)
            go_wp2_with fail
            ((with_reducible refine qe.mono ?_); rintro e W9 ⟨rfl, b9⟩)
            have HB9 := Lib.hid (bch HBE.out b9)
            clear qe b9
            go_wp2_with fail
            go_ret
            exact ⟨rfl, HB9.out⟩
        · have hd1 : (len1 : Int) ≤ (j : Int) := by omega
          have hd1d : decide ((j : Int) < (len1 : Int)) = false := decide_eq_false (by omega)
          have qe := refsameL_any R P m m d2 c2 L L wq HRL.out HPL.out
          rw [sameL_self] at qe
          have HBE := Lib.hid (bch HB1.out HBQ.out)
          go_wp2_with fail
          ((with_reducible refine qe.mono ?_); rintro e W9 ⟨rfl, b9⟩)
          have HB9 := Lib.hid (bch HBE.out b9)
          clear qe b9
          go_wp2_with fail
          go_ret
          exact ⟨rfl, HB9.out⟩
end Go.Proofs.Ytljjbpgbddaekaa
