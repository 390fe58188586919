import Derived.Test.YtpnkkiokkhmjpaaTabLaw
import Derived.Test.YtpnkkiokkhmjpaaTabLawMath
/-
  The walk of the law TableGets, over what is asked of the program (stage 12).
-/
namespace Go.Proofs.Ytpnkkiokkhmjpaa
open Go.RowKit
set_option linter.unusedVariables false
set_option linter.unusedSimpArgs false

/-- All that the law asks of one key. -/
theorem gets_math {T : List Rcd} (h : RightT T) (h5 : ∀ r ∈ T, r.rev = maxN → 5 ≤ T.length) {k v : ByteArray} (hk : 1 ≤ k.size ∧ k.size ≤ 16) (hv : v.size ≤ 200) :
    (doT T (⟨2, k, v, 0, ⟨#[]⟩, 0, ⟨#[]⟩⟩ : OpR) = (T, ⟨50, 0, ⟨#[]⟩, []⟩) ∧ 4 ≤ T.length) ∨
    ∃ (ρ : Int) (U1 U2 U3 U4 U5 U6 U7 : List Rcd) (x3 : Nat) (r3 r7 : Int) (v7 : ByteArray), 1 ≤ ρ ∧ ρ ≤ 9007199254740992 ∧ (RightT U1 ∧ RightT U3 ∧ RightT U5) ∧ doT T (⟨2, k, v, 0, ⟨#[]⟩, 0, ⟨#[]⟩⟩ : OpR) = (U1, ⟨0, ρ, ⟨#[]⟩, []⟩) ∧ doT U1 (⟨1, k, ⟨#[]⟩, 0, ⟨#[]⟩, 0, ⟨#[]⟩⟩ : OpR) = (U2, ⟨0, ρ, v, []⟩) ∧ doT U1 (⟨4, k, ⟨#[110, 101, 119]⟩, ρ, ⟨#[]⟩, 0, ⟨#[]⟩⟩ : OpR) = (U3, ⟨x3, r3, ⟨#[]⟩, []⟩) ∧ doT U1 (⟨4, k, ⟨#[110, 101, 119]⟩, (ρ - 1), ⟨#[]⟩, 0, ⟨#[]⟩⟩ : OpR) = (U4, ⟨71, ρ, ⟨#[]⟩, []⟩) ∧ doT U1 (⟨3, k, ⟨#[]⟩, 0, ⟨#[]⟩, 0, ⟨#[]⟩⟩ : OpR) = (U5, ⟨0, ρ, ⟨#[]⟩, []⟩) ∧ doT U5 (⟨1, k, ⟨#[]⟩, 0, ⟨#[]⟩, 0, ⟨#[]⟩⟩ : OpR) = (U6, ⟨70, 0, ⟨#[]⟩, []⟩) ∧ doT U3 (⟨1, k, ⟨#[]⟩, 0, ⟨#[]⟩, 0, ⟨#[]⟩⟩ : OpR) = (U7, ⟨0, r7, v7, []⟩) ∧ (ρ = 9007199254740992 ∧ x3 = 50 ∨ ρ ≠ 9007199254740992 ∧ x3 = 0 ∧ r3 = ρ + 1 ∧ r7 = ρ + 1 ∧ v7 = ⟨#[110, 101, 119]⟩) := by
  have ok : ∀ o : OpR, o.key = k → (1 ≤ o.kind ∧ o.kind ≤ 5) → o.value.size ≤ 200 → o.upto.size ≤ 16 → o.note.size ≤ 40 → (0 ≤ o.rev ∧ o.rev ≤ maxN) → (0 ≤ o.life ∧ o.life ≤ maxN) → checkO 2 o = 0 := fun o e h1 h2 h3 h4 h5 h6 => ok_key h1 (by rw [e]; exact hk) h2 h3 h4 h5 h6
  have z0 : (0 : Int) ≤ 0 ∧ (0 : Int) ≤ maxN := ⟨Int.le_refl 0, by decide⟩
  have zs : (⟨#[]⟩ : ByteArray).size = 0 := rfl
  rcases put_math h (ok (⟨2, k, v, 0, ⟨#[]⟩, 0, ⟨#[]⟩⟩ : OpR) rfl ⟨by simp only; omega, by simp only; omega⟩ hv (by simp only; omega) (by simp only; omega) z0 z0) rfl with ⟨e, hl⟩ | ⟨r, hx, hval, hrep, hr1, hr2, _, _⟩
  · left
    refine ⟨e, ?_⟩
    rcases hl with hl | ⟨r, hr, hm⟩
    · omega
    · have := h5 r hr hm; omega
  · right
    have RU1 := do_right h (⟨2, k, v, 0, ⟨#[]⟩, 0, ⟨#[]⟩⟩ : OpR)
    generalize hU1 : doT T (⟨2, k, v, 0, ⟨#[]⟩, 0, ⟨#[]⟩⟩ : OpR) = X1 at *
    obtain ⟨U1, Y1⟩ := X1
    simp only at hx hrep RU1 hval
    subst hrep
    have c3 : checkO 2 (⟨4, k, ⟨#[110, 101, 119]⟩, r.rev, ⟨#[]⟩, 0, ⟨#[]⟩⟩ : OpR) = 0 := ok _ rfl ⟨by simp only; omega, by simp only; omega⟩ (by show (3 : Nat) ≤ 200; omega) (by simp only; omega) (by simp only; omega) ⟨by simp only; omega, hr2⟩ z0
    have c4 : checkO 2 (⟨4, k, ⟨#[110, 101, 119]⟩, r.rev - 1, ⟨#[]⟩, 0, ⟨#[]⟩⟩ : OpR) = 0 := ok _ rfl ⟨by simp only; omega, by simp only; omega⟩ (by show (3 : Nat) ≤ 200; omega) (by simp only; omega) (by simp only; omega) ⟨by simp only; omega, by simp only; omega⟩ z0
    have cg : checkO 2 (⟨1, k, ⟨#[]⟩, 0, ⟨#[]⟩, 0, ⟨#[]⟩⟩ : OpR) = 0 := ok _ rfl ⟨by simp only; omega, by simp only; omega⟩ (by simp only; omega) (by simp only; omega) (by simp only; omega) z0 z0
    have cd : checkO 2 (⟨3, k, ⟨#[]⟩, 0, ⟨#[]⟩, 0, ⟨#[]⟩⟩ : OpR) = 0 := ok _ rfl ⟨by simp only; omega, by simp only; omega⟩ (by simp only; omega) (by simp only; omega) (by simp only; omega) z0 z0
    have g2 := get_math RU1 cg rfl hx
    have g4 := cas_no RU1 c4 rfl hx (by simp only; omega)
    obtain ⟨g5, l5⟩ := del_math RU1 cd rfl hx
    have RU5 := do_right RU1 (⟨3, k, ⟨#[]⟩, 0, ⟨#[]⟩, 0, ⟨#[]⟩⟩ : OpR)
    have g6 := do_none RU5 cg (.inl rfl) l5
    have RU3 := do_right RU1 (⟨4, k, ⟨#[110, 101, 119]⟩, r.rev, ⟨#[]⟩, 0, ⟨#[]⟩⟩ : OpR)
    have pair : ∀ {t : List Rcd} {o : OpR} {y : RepR}, (doT t o).2 = y → doT t o = ((doT t o).1, y) := fun h => by rw [← h]
    rcases cas_yes RU1 c3 rfl hx rfl with ⟨hm, g3, l3⟩ | ⟨hm, g3, l3⟩
    · have g7 := get_math RU3 cg rfl l3
      exact ⟨r.rev, U1, _, _, _, _, _, _, 50, 0, _, _, hr1, hr2, ⟨RU1, RU3, RU5⟩, rfl, by have e := pair g2; rw [hval] at e; exact e, pair g3, pair g4, pair g5, pair g6, pair g7, .inl ⟨hm, rfl⟩⟩
    · have g7 := get_math RU3 cg rfl l3
      exact ⟨r.rev, U1, _, _, _, _, _, _, 0, r.rev + 1, _, _, hr1, hr2, ⟨RU1, RU3, RU5⟩, rfl, by have e := pair g2; rw [hval] at e; exact e, pair g3, pair g4, pair g5, pair g6, pair g7, .inr ⟨hm, rfl, rfl, rfl, rfl⟩⟩
set_option maxRecDepth 100000 in
set_option maxHeartbeats 8000000 in
theorem tableGets_core (kH : CheckT) (kW : WritesT) (kR : RightQT) (kS : SameQT) (kD : DoT) (a0 : Option Addr) (n0 cap0 : Nat) (f : Nat → Nat → Int) (x1 x2 : Int) (w : World) (h0 : IsRaw w a0 n0 5 f) (w1 : (Lit.int .i64 x1).wf = true) (w2 : (Lit.int .i64 x2).wf = true) :
    Calls Try.prog 5 #[.slice a0 n0 cap0, .int .i64 x1, .int .i64 x2] w fun e w' => e = .returned (.bool true) ∧ Below w.heap.size w w' := by
  have qk := fun W => key_any x1 w1 W
  have qp := fun W => pickN12_nat x2 4 (by omega) (by omega) w2 W
  have hj4 : pickN x2 4 < 4 := by have := pickN_lt x2 4 (by omega); omega
  have hks := keyR_size x1
  generalize keyR x1 = k at *
  generalize pickN x2 4 = j at *
  have hvs := val_size j
  have f3 := @val_get j
  have hva := val_at hj4
  generalize valK j = v at *
  have HTR := Lib.hid (table_right f n0)
  have H5 : Hid (∀ r ∈ tableR f n0, r.rev = maxN → 5 ≤ (tableR f n0).length) := fun r hr hm => max_five f n0 hr hm
  generalize hT : tableR f n0 = T at HTR H5
  have HG := Lib.hid (gets_math HTR.out H5.out (k := k) (v := v) ⟨hks.1, by omega⟩ (by omega))
  have HWF : Hid (∀ o : OpR, o.key = k → (1 ≤ o.kind ∧ o.kind ≤ 6) → o.value.size ≤ 200 → o.upto.size = 0 → o.note.size = 0 → (0 ≤ o.rev ∧ o.rev ≤ 9007199254740992) → o.life = 0 → OpWf o) := fun o e h1 h2 h3 h4 h5 h6 => ⟨wf_within (by omega) (by omega), by rw [e]; omega, by omega, wf_within (by omega) (by omega), by omega, by rw [h6]; decide, by omega⟩
  have HVS : Hid (v.size ≤ 200) := by show v.size ≤ 200; omega
  have Hraw0 := Lib.hid h0; clear h0
  have hj0 : (0 : Int) ≤ (j : Int) := by omega
  have hj4i : (j : Int) < 4 := by omega
  clear hks hvs
  go_enter Try.func5, Try.ntmps5
  have q_aw := fun W => awakeT_any kH kW kR kS kD W
  go_wp2_with fail
  ((with_reducible refine (q_aw _).mono ?_); rintro e W1 ⟨rfl, b_⟩)
  have h_b := b_
  have h_raw := Hraw0.out.below b_
  have HB1 := Lib.hid h_b; clear h_b
  have Hraw1 := Lib.hid h_raw; clear h_raw
  clear b_
  clear q_aw
  have q_tb := table_any a0 n0 cap0 f _ Hraw1.out
  go_wp2_with fail
  ((with_reducible refine q_tb.mono ?_); rintro e W2 ⟨v_, l_, rfl, hr_, hm_, hx_, b_⟩)
  obtain ⟨AT, nT, capT, hv_, hcapT, ht_⟩ := tab_ts hr_ hm_ hx_
  subst hv_
  have h_b := bch HB1.out b_
  have h_TT := ht_
  have HB2 := Lib.hid h_b; clear h_b
  have HTT2 := Lib.hid h_TT; clear h_TT
  clear b_ hr_ hm_ hx_ ht_ q_tb
  rw [hT] at HTT2
  clear hT
  go_wp2_with fail
  ((with_reducible refine (qk _).mono ?_); rintro e W3 ⟨rfl, b_⟩)
  have h_b := bch HB2.out b_
  have h_TT := HTT2.out.below b_
  have HB3 := Lib.hid h_b; clear h_b
  have HTT3 := Lib.hid h_TT; clear h_TT
  clear b_
  have h_b := (HB3.out).alloc HB3.out.size (.cells #[.string ⟨#[]⟩, .string ⟨#[120]⟩, .string ⟨#[121, 121]⟩, .string ⟨#[118, 97, 108, 117, 101]⟩] 9)
  have h_TT := HTT3.out.below ((Below.refl _ _).alloc (Nat.le_refl _) (.cells #[.string ⟨#[]⟩, .string ⟨#[120]⟩, .string ⟨#[121, 121]⟩, .string ⟨#[118, 97, 108, 117, 101]⟩] 9))
  have h_X := Blk.new W3 (.cells #[.string ⟨#[]⟩, .string ⟨#[120]⟩, .string ⟨#[121, 121]⟩, .string ⟨#[118, 97, 108, 117, 101]⟩] 9)
  have HB4 := Lib.hid h_b; clear h_b
  have HTT4 := Lib.hid h_TT; clear h_TT
  have HX4 := Lib.hid h_X; clear h_X
  obtain ⟨V3, hV3⟩ : ∃ V, W3.alloc (.cells #[.string ⟨#[]⟩, .string ⟨#[120]⟩, .string ⟨#[121, 121]⟩, .string ⟨#[118, 97, 108, 117, 101]⟩] 9) = V := ⟨_, rfl⟩
  rw [hV3] at HTT4 HX4 HB4
  have x0 := Blk.cell HX4.out j
  rw [hva] at x0
  go_wp2_with fail
  ((with_reducible refine (qp _).mono ?_); rintro e W_ ⟨rfl, rfl⟩)
  go_upto_region 5 with fail
  clear x0 hva f3 hV3 qk qp
  have hnT : nT ≤ 20 := ts_len HTT4.out HTR.out
  have HTL : Hid (nT = T.length) := HTT4.out.1
  rcases HG.out with ⟨he, hl4⟩ | ⟨ρ, U1, U2, U3, U4, U5, U6, U7, x3, r3, r7, v7, hρ1, hρ2, ⟨RU1, RU3, RU5⟩, h1, h2, h3, h4, h5, h6, h7, hmx⟩
  · have HE := Lib.hid he; clear he
    have q_do := do_at kD HE.out 50 rfl (HWF.out _ rfl ⟨by simp only; omega, by simp only; omega⟩ (HVS.out) rfl rfl (⟨by simp only; omega, by simp only; omega⟩) rfl) hcapT HTT4.out hnT
    go_wp2_with fail
    ((with_reducible refine q_do.mono ?_); rintro e W4 ⟨A1, n1, cap1, K1, k1, kc1, rfl, hcap1, ht_, hkc1, hs_, b_⟩)
    go_upto_region 6 with fail
    have h_b := (bch HB4.out b_).alloc (bch HB4.out b_).size (.cells #[.int .i64 50, .int .i64 0, .string ⟨#[]⟩, .slice K1 k1 kc1] 37)
    have h_TT := (HTT4.out.below b_).below ((Below.refl _ _).alloc (Nat.le_refl _) (.cells #[.int .i64 50, .int .i64 0, .string ⟨#[]⟩, .slice K1 k1 kc1] 37))
    have h_T1 := IsTs.below ht_ ((Below.refl _ _).alloc (Nat.le_refl _) (.cells #[.int .i64 50, .int .i64 0, .string ⟨#[]⟩, .slice K1 k1 kc1] 37))
    have h_P1 := Blk.new W4 (.cells #[.int .i64 50, .int .i64 0, .string ⟨#[]⟩, .slice K1 k1 kc1] 37)
    obtain ⟨V_W4, hV_⟩ : ∃ W, W4.alloc (.cells #[.int .i64 50, .int .i64 0, .string ⟨#[]⟩, .slice K1 k1 kc1] 37) = W := ⟨_, rfl⟩
    rw [hV_] at h_b h_TT h_T1 h_P1 ⊢
    clear hV_
    have HB5 := Lib.hid h_b; clear h_b
    have HTT5 := Lib.hid h_TT; clear h_TT
    have HT15 := Lib.hid h_T1; clear h_T1
    have HP15 := Lib.hid h_P1; clear h_P1
    clear b_ ht_ hs_ q_do
    have c0 := Blk.cell HP15.out 0
    simp only [List.getElem?_toArray, List.getElem?_cons_zero, List.getElem?_cons_succ] at c0
    have q_s := refsame12_any T T _ _ nT n1 capT cap1 _ HTT5.out HT15.out
    rw [sameT_self] at q_s
    have e4 : (4 : Int) ≤ (nT : Int) := by have := HTL.out; omega
    go_wp2_with fail
    ((with_reducible refine q_s.mono ?_); rintro e W5 ⟨rfl, b_⟩)
    have HBE := Lib.hid (bch HB5.out b_)
    clear b_ q_s c0
    go_wp2_with fail
    go_ret
    exact ⟨rfl, HBE.out⟩
  · have E1 := Lib.hid h1; clear h1
    have E2 := Lib.hid h2; clear h2
    have E3 := Lib.hid h3; clear h3
    have E4 := Lib.hid h4; clear h4
    have E5 := Lib.hid h5; clear h5
    have E6 := Lib.hid h6; clear h6
    have E7 := Lib.hid h7; clear h7
    have G1 := Lib.hid RU1; clear RU1
    have G3 := Lib.hid RU3; clear RU3
    have G5 := Lib.hid RU5; clear RU5
    have HMX := Lib.hid hmx; clear hmx
    have hw1 : IntKind.i64.wrap (ρ - 1) = ρ - 1 := IntWalk.i64_in _ (by omega)
    have hw2 : IntKind.i64.wrap (ρ + 1) = ρ + 1 := IntWalk.i64_in _ (by omega)
    have q_do := do_at kD E1.out 0 rfl (HWF.out _ rfl ⟨by simp only; omega, by simp only; omega⟩ (HVS.out) rfl rfl (⟨by simp only; omega, by simp only; omega⟩) rfl) hcapT HTT4.out hnT
    go_wp2_with fail
    ((with_reducible refine q_do.mono ?_); rintro e W4 ⟨A1, n1, cap1, K1, k1, kc1, rfl, hcap1, ht_, hkc1, hs_, b_⟩)
    go_upto_region 6 with fail
    have h_b := (bch HB4.out b_).alloc (bch HB4.out b_).size (.cells #[.int .i64 0, .int .i64 ρ, .string ⟨#[]⟩, .slice K1 k1 kc1] 37)
    have h_T1 := IsTs.below ht_ ((Below.refl _ _).alloc (Nat.le_refl _) (.cells #[.int .i64 0, .int .i64 ρ, .string ⟨#[]⟩, .slice K1 k1 kc1] 37))
    have h_P1 := Blk.new W4 (.cells #[.int .i64 0, .int .i64 ρ, .string ⟨#[]⟩, .slice K1 k1 kc1] 37)
    obtain ⟨V_W4, hV_⟩ : ∃ W, W4.alloc (.cells #[.int .i64 0, .int .i64 ρ, .string ⟨#[]⟩, .slice K1 k1 kc1] 37) = W := ⟨_, rfl⟩
    rw [hV_] at h_b h_T1 h_P1 ⊢
    clear hV_
    have HB5 := Lib.hid h_b; clear h_b
    have HT15 := Lib.hid h_T1; clear h_T1
    have HP15 := Lib.hid h_P1; clear h_P1
    have hnb1 : n1 ≤ 20 := ts_len HT15.out G1.out
    clear b_ ht_ hs_ q_do
    have c0 := Blk.cell HP15.out 0
    have c1 := Blk.cell HP15.out 1
    simp only [List.getElem?_toArray, List.getElem?_cons_zero, List.getElem?_cons_succ] at c0 c1
    have q_do := do_at kD E2.out 0 rfl (HWF.out _ rfl ⟨by simp only; omega, by simp only; omega⟩ (by show (0 : Nat) ≤ 200; omega) rfl rfl (⟨by simp only; omega, by simp only; omega⟩) rfl) hcap1 HT15.out hnb1
    go_wp2_with fail
    ((with_reducible refine q_do.mono ?_); rintro e W5 ⟨A2, n2, cap2, K2, k2, kc2, rfl, hcap2, ht_, hkc2, hs_, b_⟩)
    clear c0 c1
    go_upto_region 9 with fail
    have h_b := (bch HB5.out b_).alloc (bch HB5.out b_).size (.cells #[.int .i64 0, .int .i64 ρ, .string v, .slice K2 k2 kc2] 37)
    have h_T1 := (HT15.out.below b_).below ((Below.refl _ _).alloc (Nat.le_refl _) (.cells #[.int .i64 0, .int .i64 ρ, .string v, .slice K2 k2 kc2] 37))
    have h_P1 := (HP15.out.below b_).below ((Below.refl _ _).alloc (Nat.le_refl _) (.cells #[.int .i64 0, .int .i64 ρ, .string v, .slice K2 k2 kc2] 37))
    have h_T2 := IsTs.below ht_ ((Below.refl _ _).alloc (Nat.le_refl _) (.cells #[.int .i64 0, .int .i64 ρ, .string v, .slice K2 k2 kc2] 37))
    have h_P2 := Blk.new W5 (.cells #[.int .i64 0, .int .i64 ρ, .string v, .slice K2 k2 kc2] 37)
    obtain ⟨V_W5, hV_⟩ : ∃ W, W5.alloc (.cells #[.int .i64 0, .int .i64 ρ, .string v, .slice K2 k2 kc2] 37) = W := ⟨_, rfl⟩
    rw [hV_] at h_b h_T1 h_P1 h_T2 h_P2 ⊢
    clear hV_
    have HB6 := Lib.hid h_b; clear h_b
    have HT16 := Lib.hid h_T1; clear h_T1
    have HP16 := Lib.hid h_P1; clear h_P1
    have HT26 := Lib.hid h_T2; clear h_T2
    have HP26 := Lib.hid h_P2; clear h_P2
    clear b_ ht_ hs_ q_do
    clear HT26
    have c0 := Blk.cell HP16.out 0
    have c1 := Blk.cell HP16.out 1
    simp only [List.getElem?_toArray, List.getElem?_cons_zero, List.getElem?_cons_succ] at c0 c1
    have q_do := do_at kD E3.out x3 rfl (HWF.out _ rfl ⟨by simp only; omega, by simp only; omega⟩ (by show (3 : Nat) ≤ 200; omega) rfl rfl (⟨by simp only; omega, by simp only; omega⟩) rfl) hcap1 HT16.out hnb1
    go_wp2_with fail
    ((with_reducible refine q_do.mono ?_); rintro e W6 ⟨A3, n3, cap3, K3, k3, kc3, rfl, hcap3, ht_, hkc3, hs_, b_⟩)
    clear c0 c1
    go_upto_region 10 with fail
    have h_b := (bch HB6.out b_).alloc (bch HB6.out b_).size (.cells #[.int .i64 (x3 : Int), .int .i64 r3, .string ⟨#[]⟩, .slice K3 k3 kc3] 37)
    have h_T1 := (HT16.out.below b_).below ((Below.refl _ _).alloc (Nat.le_refl _) (.cells #[.int .i64 (x3 : Int), .int .i64 r3, .string ⟨#[]⟩, .slice K3 k3 kc3] 37))
    have h_P1 := (HP16.out.below b_).below ((Below.refl _ _).alloc (Nat.le_refl _) (.cells #[.int .i64 (x3 : Int), .int .i64 r3, .string ⟨#[]⟩, .slice K3 k3 kc3] 37))
    have h_P2 := (HP26.out.below b_).below ((Below.refl _ _).alloc (Nat.le_refl _) (.cells #[.int .i64 (x3 : Int), .int .i64 r3, .string ⟨#[]⟩, .slice K3 k3 kc3] 37))
    have h_T3 := IsTs.below ht_ ((Below.refl _ _).alloc (Nat.le_refl _) (.cells #[.int .i64 (x3 : Int), .int .i64 r3, .string ⟨#[]⟩, .slice K3 k3 kc3] 37))
    have h_P3 := Blk.new W6 (.cells #[.int .i64 (x3 : Int), .int .i64 r3, .string ⟨#[]⟩, .slice K3 k3 kc3] 37)
    obtain ⟨V_W6, hV_⟩ : ∃ W, W6.alloc (.cells #[.int .i64 (x3 : Int), .int .i64 r3, .string ⟨#[]⟩, .slice K3 k3 kc3] 37) = W := ⟨_, rfl⟩
    rw [hV_] at h_b h_T1 h_P1 h_P2 h_T3 h_P3 ⊢
    clear hV_
    have HB7 := Lib.hid h_b; clear h_b
    have HT17 := Lib.hid h_T1; clear h_T1
    have HP17 := Lib.hid h_P1; clear h_P1
    have HP27 := Lib.hid h_P2; clear h_P2
    have HT37 := Lib.hid h_T3; clear h_T3
    have HP37 := Lib.hid h_P3; clear h_P3
    have hnb3 : n3 ≤ 20 := ts_len HT37.out G3.out
    clear b_ ht_ hs_ q_do
    have c0 := Blk.cell HP17.out 0
    have c1 := Blk.cell HP17.out 1
    simp only [List.getElem?_toArray, List.getElem?_cons_zero, List.getElem?_cons_succ] at c0 c1
    have q_do := do_at kD E4.out 71 rfl (HWF.out _ rfl ⟨by simp only; omega, by simp only; omega⟩ (by show (3 : Nat) ≤ 200; omega) rfl rfl (⟨by simp only; omega, by simp only; omega⟩) rfl) hcap1 HT17.out hnb1
    go_wp2_with fail
    ((with_reducible refine q_do.mono ?_); rintro e W7 ⟨A4, n4, cap4, K4, k4, kc4, rfl, hcap4, ht_, hkc4, hs_, b_⟩)
    clear c0 c1
    go_upto_region 11 with fail
    have h_b := (bch HB7.out b_).alloc (bch HB7.out b_).size (.cells #[.int .i64 71, .int .i64 ρ, .string ⟨#[]⟩, .slice K4 k4 kc4] 37)
    have h_T1 := (HT17.out.below b_).below ((Below.refl _ _).alloc (Nat.le_refl _) (.cells #[.int .i64 71, .int .i64 ρ, .string ⟨#[]⟩, .slice K4 k4 kc4] 37))
    have h_P1 := (HP17.out.below b_).below ((Below.refl _ _).alloc (Nat.le_refl _) (.cells #[.int .i64 71, .int .i64 ρ, .string ⟨#[]⟩, .slice K4 k4 kc4] 37))
    have h_P2 := (HP27.out.below b_).below ((Below.refl _ _).alloc (Nat.le_refl _) (.cells #[.int .i64 71, .int .i64 ρ, .string ⟨#[]⟩, .slice K4 k4 kc4] 37))
    have h_T3 := (HT37.out.below b_).below ((Below.refl _ _).alloc (Nat.le_refl _) (.cells #[.int .i64 71, .int .i64 ρ, .string ⟨#[]⟩, .slice K4 k4 kc4] 37))
    have h_P3 := (HP37.out.below b_).below ((Below.refl _ _).alloc (Nat.le_refl _) (.cells #[.int .i64 71, .int .i64 ρ, .string ⟨#[]⟩, .slice K4 k4 kc4] 37))
    have h_T4 := IsTs.below ht_ ((Below.refl _ _).alloc (Nat.le_refl _) (.cells #[.int .i64 71, .int .i64 ρ, .string ⟨#[]⟩, .slice K4 k4 kc4] 37))
    have h_P4 := Blk.new W7 (.cells #[.int .i64 71, .int .i64 ρ, .string ⟨#[]⟩, .slice K4 k4 kc4] 37)
    obtain ⟨V_W7, hV_⟩ : ∃ W, W7.alloc (.cells #[.int .i64 71, .int .i64 ρ, .string ⟨#[]⟩, .slice K4 k4 kc4] 37) = W := ⟨_, rfl⟩
    rw [hV_] at h_b h_T1 h_P1 h_P2 h_T3 h_P3 h_T4 h_P4 ⊢
    clear hV_
    have HB8 := Lib.hid h_b; clear h_b
    have HT18 := Lib.hid h_T1; clear h_T1
    have HP18 := Lib.hid h_P1; clear h_P1
    have HP28 := Lib.hid h_P2; clear h_P2
    have HT38 := Lib.hid h_T3; clear h_T3
    have HP38 := Lib.hid h_P3; clear h_P3
    have HT48 := Lib.hid h_T4; clear h_T4
    have HP48 := Lib.hid h_P4; clear h_P4
    clear b_ ht_ hs_ q_do
    clear HT48
    have q_do := do_at kD E5.out 0 rfl (HWF.out _ rfl ⟨by simp only; omega, by simp only; omega⟩ (by show (0 : Nat) ≤ 200; omega) rfl rfl (⟨by simp only; omega, by simp only; omega⟩) rfl) hcap1 HT18.out hnb1
    go_wp2_with fail
    ((with_reducible refine q_do.mono ?_); rintro e W8 ⟨A5, n5, cap5, K5, k5, kc5, rfl, hcap5, ht_, hkc5, hs_, b_⟩)
    go_upto_region 12 with fail
    have h_b := (bch HB8.out b_).alloc (bch HB8.out b_).size (.cells #[.int .i64 0, .int .i64 ρ, .string ⟨#[]⟩, .slice K5 k5 kc5] 37)
    have h_P1 := (HP18.out.below b_).below ((Below.refl _ _).alloc (Nat.le_refl _) (.cells #[.int .i64 0, .int .i64 ρ, .string ⟨#[]⟩, .slice K5 k5 kc5] 37))
    have h_P2 := (HP28.out.below b_).below ((Below.refl _ _).alloc (Nat.le_refl _) (.cells #[.int .i64 0, .int .i64 ρ, .string ⟨#[]⟩, .slice K5 k5 kc5] 37))
    have h_T3 := (HT38.out.below b_).below ((Below.refl _ _).alloc (Nat.le_refl _) (.cells #[.int .i64 0, .int .i64 ρ, .string ⟨#[]⟩, .slice K5 k5 kc5] 37))
    have h_P3 := (HP38.out.below b_).below ((Below.refl _ _).alloc (Nat.le_refl _) (.cells #[.int .i64 0, .int .i64 ρ, .string ⟨#[]⟩, .slice K5 k5 kc5] 37))
    have h_P4 := (HP48.out.below b_).below ((Below.refl _ _).alloc (Nat.le_refl _) (.cells #[.int .i64 0, .int .i64 ρ, .string ⟨#[]⟩, .slice K5 k5 kc5] 37))
    have h_T5 := IsTs.below ht_ ((Below.refl _ _).alloc (Nat.le_refl _) (.cells #[.int .i64 0, .int .i64 ρ, .string ⟨#[]⟩, .slice K5 k5 kc5] 37))
    have h_P5 := Blk.new W8 (.cells #[.int .i64 0, .int .i64 ρ, .string ⟨#[]⟩, .slice K5 k5 kc5] 37)
    obtain ⟨V_W8, hV_⟩ : ∃ W, W8.alloc (.cells #[.int .i64 0, .int .i64 ρ, .string ⟨#[]⟩, .slice K5 k5 kc5] 37) = W := ⟨_, rfl⟩
    rw [hV_] at h_b h_P1 h_P2 h_T3 h_P3 h_P4 h_T5 h_P5 ⊢
    clear hV_
    have HB9 := Lib.hid h_b; clear h_b
    have HP19 := Lib.hid h_P1; clear h_P1
    have HP29 := Lib.hid h_P2; clear h_P2
    have HT39 := Lib.hid h_T3; clear h_T3
    have HP39 := Lib.hid h_P3; clear h_P3
    have HP49 := Lib.hid h_P4; clear h_P4
    have HT59 := Lib.hid h_T5; clear h_T5
    have HP59 := Lib.hid h_P5; clear h_P5
    have hnb5 : n5 ≤ 20 := ts_len HT59.out G5.out
    clear b_ ht_ hs_ q_do
    have q_do := do_at kD E6.out 70 rfl (HWF.out _ rfl ⟨by simp only; omega, by simp only; omega⟩ (by show (0 : Nat) ≤ 200; omega) rfl rfl (⟨by simp only; omega, by simp only; omega⟩) rfl) hcap5 HT59.out hnb5
    go_wp2_with fail
    ((with_reducible refine q_do.mono ?_); rintro e W9 ⟨A6, n6, cap6, K6, k6, kc6, rfl, hcap6, ht_, hkc6, hs_, b_⟩)
    go_upto_region 13 with fail
    have h_b := (bch HB9.out b_).alloc (bch HB9.out b_).size (.cells #[.int .i64 70, .int .i64 0, .string ⟨#[]⟩, .slice K6 k6 kc6] 37)
    have h_P1 := (HP19.out.below b_).below ((Below.refl _ _).alloc (Nat.le_refl _) (.cells #[.int .i64 70, .int .i64 0, .string ⟨#[]⟩, .slice K6 k6 kc6] 37))
    have h_P2 := (HP29.out.below b_).below ((Below.refl _ _).alloc (Nat.le_refl _) (.cells #[.int .i64 70, .int .i64 0, .string ⟨#[]⟩, .slice K6 k6 kc6] 37))
    have h_T3 := (HT39.out.below b_).below ((Below.refl _ _).alloc (Nat.le_refl _) (.cells #[.int .i64 70, .int .i64 0, .string ⟨#[]⟩, .slice K6 k6 kc6] 37))
    have h_P3 := (HP39.out.below b_).below ((Below.refl _ _).alloc (Nat.le_refl _) (.cells #[.int .i64 70, .int .i64 0, .string ⟨#[]⟩, .slice K6 k6 kc6] 37))
    have h_P4 := (HP49.out.below b_).below ((Below.refl _ _).alloc (Nat.le_refl _) (.cells #[.int .i64 70, .int .i64 0, .string ⟨#[]⟩, .slice K6 k6 kc6] 37))
    have h_P5 := (HP59.out.below b_).below ((Below.refl _ _).alloc (Nat.le_refl _) (.cells #[.int .i64 70, .int .i64 0, .string ⟨#[]⟩, .slice K6 k6 kc6] 37))
    have h_T6 := IsTs.below ht_ ((Below.refl _ _).alloc (Nat.le_refl _) (.cells #[.int .i64 70, .int .i64 0, .string ⟨#[]⟩, .slice K6 k6 kc6] 37))
    have h_P6 := Blk.new W9 (.cells #[.int .i64 70, .int .i64 0, .string ⟨#[]⟩, .slice K6 k6 kc6] 37)
    obtain ⟨V_W9, hV_⟩ : ∃ W, W9.alloc (.cells #[.int .i64 70, .int .i64 0, .string ⟨#[]⟩, .slice K6 k6 kc6] 37) = W := ⟨_, rfl⟩
    rw [hV_] at h_b h_P1 h_P2 h_T3 h_P3 h_P4 h_P5 h_T6 h_P6 ⊢
    clear hV_
    have HB10 := Lib.hid h_b; clear h_b
    have HP110 := Lib.hid h_P1; clear h_P1
    have HP210 := Lib.hid h_P2; clear h_P2
    have HT310 := Lib.hid h_T3; clear h_T3
    have HP310 := Lib.hid h_P3; clear h_P3
    have HP410 := Lib.hid h_P4; clear h_P4
    have HP510 := Lib.hid h_P5; clear h_P5
    have HT610 := Lib.hid h_T6; clear h_T6
    have HP610 := Lib.hid h_P6; clear h_P6
    clear b_ ht_ hs_ q_do
    clear HT610
    have q_do := do_at kD E7.out 0 rfl (HWF.out _ rfl ⟨by simp only; omega, by simp only; omega⟩ (by show (0 : Nat) ≤ 200; omega) rfl rfl (⟨by simp only; omega, by simp only; omega⟩) rfl) hcap3 HT310.out hnb3
    go_wp2_with fail
    ((with_reducible refine q_do.mono ?_); rintro e W10 ⟨A7, n7, cap7, K7, k7, kc7, rfl, hcap7, ht_, hkc7, hs_, b_⟩)
    go_upto_region 14 with fail
    have h_b := (bch HB10.out b_).alloc (bch HB10.out b_).size (.cells #[.int .i64 0, .int .i64 r7, .string v7, .slice K7 k7 kc7] 37)
    have h_P1 := (HP110.out.below b_).below ((Below.refl _ _).alloc (Nat.le_refl _) (.cells #[.int .i64 0, .int .i64 r7, .string v7, .slice K7 k7 kc7] 37))
    have h_P2 := (HP210.out.below b_).below ((Below.refl _ _).alloc (Nat.le_refl _) (.cells #[.int .i64 0, .int .i64 r7, .string v7, .slice K7 k7 kc7] 37))
    have h_P3 := (HP310.out.below b_).below ((Below.refl _ _).alloc (Nat.le_refl _) (.cells #[.int .i64 0, .int .i64 r7, .string v7, .slice K7 k7 kc7] 37))
    have h_P4 := (HP410.out.below b_).below ((Below.refl _ _).alloc (Nat.le_refl _) (.cells #[.int .i64 0, .int .i64 r7, .string v7, .slice K7 k7 kc7] 37))
    have h_P5 := (HP510.out.below b_).below ((Below.refl _ _).alloc (Nat.le_refl _) (.cells #[.int .i64 0, .int .i64 r7, .string v7, .slice K7 k7 kc7] 37))
    have h_P6 := (HP610.out.below b_).below ((Below.refl _ _).alloc (Nat.le_refl _) (.cells #[.int .i64 0, .int .i64 r7, .string v7, .slice K7 k7 kc7] 37))
    have h_T7 := IsTs.below ht_ ((Below.refl _ _).alloc (Nat.le_refl _) (.cells #[.int .i64 0, .int .i64 r7, .string v7, .slice K7 k7 kc7] 37))
    have h_P7 := Blk.new W10 (.cells #[.int .i64 0, .int .i64 r7, .string v7, .slice K7 k7 kc7] 37)
    obtain ⟨V_W10, hV_⟩ : ∃ W, W10.alloc (.cells #[.int .i64 0, .int .i64 r7, .string v7, .slice K7 k7 kc7] 37) = W := ⟨_, rfl⟩
    rw [hV_] at h_b h_P1 h_P2 h_P3 h_P4 h_P5 h_P6 h_T7 h_P7 ⊢
    clear hV_
    have HB11 := Lib.hid h_b; clear h_b
    have HP111 := Lib.hid h_P1; clear h_P1
    have HP211 := Lib.hid h_P2; clear h_P2
    have HP311 := Lib.hid h_P3; clear h_P3
    have HP411 := Lib.hid h_P4; clear h_P4
    have HP511 := Lib.hid h_P5; clear h_P5
    have HP611 := Lib.hid h_P6; clear h_P6
    have HT711 := Lib.hid h_T7; clear h_T7
    have HP711 := Lib.hid h_P7; clear h_P7
    clear b_ ht_ hs_ q_do
    have a0_ := Blk.cell HP111.out 0
    have a1_ := Blk.cell HP111.out 1
    simp only [List.getElem?_toArray, List.getElem?_cons_zero, List.getElem?_cons_succ] at a0_ a1_
    have b0_ := Blk.cell HP211.out 0
    have b1_ := Blk.cell HP211.out 1
    have b2_ := Blk.cell HP211.out 2
    simp only [List.getElem?_toArray, List.getElem?_cons_zero, List.getElem?_cons_succ] at b0_ b1_ b2_
    have c0_ := Blk.cell HP311.out 0
    have c1_ := Blk.cell HP311.out 1
    simp only [List.getElem?_toArray, List.getElem?_cons_zero, List.getElem?_cons_succ] at c0_ c1_
    have d0_ := Blk.cell HP411.out 0
    have d1_ := Blk.cell HP411.out 1
    simp only [List.getElem?_toArray, List.getElem?_cons_zero, List.getElem?_cons_succ] at d0_ d1_
    have e0_ := Blk.cell HP511.out 0
    have e1_ := Blk.cell HP511.out 1
    simp only [List.getElem?_toArray, List.getElem?_cons_zero, List.getElem?_cons_succ] at e0_ e1_
    have f0_ := Blk.cell HP611.out 0
    simp only [List.getElem?_toArray, List.getElem?_cons_zero, List.getElem?_cons_succ] at f0_
    have g1_ := Blk.cell HP711.out 1
    have g2_ := Blk.cell HP711.out 2
    simp only [List.getElem?_toArray, List.getElem?_cons_zero, List.getElem?_cons_succ] at g1_ g2_
    rcases HMX.out with ⟨hm, rfl⟩ | ⟨hm, rfl, rfl, rfl, rfl⟩
    · have em : (ρ == 9007199254740992) = true := by simpa using hm
      clear hm
      go_wp2_with fail
      go_ret
      exact ⟨rfl, HB11.out⟩
    · have em : (ρ == 9007199254740992) = false := by simpa using hm
      clear hm
      go_wp2_with fail
      go_ret
      exact ⟨rfl, HB11.out⟩
end Go.Proofs.Ytpnkkiokkhmjpaa
