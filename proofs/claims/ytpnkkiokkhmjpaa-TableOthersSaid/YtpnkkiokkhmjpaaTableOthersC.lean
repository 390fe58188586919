import Derived.Test.YtpnkkiokkhmjpaaTabLaw
import Derived.Test.YtpnkkiokkhmjpaaTabLawMath
/-
  The walk of the law TableOthers, over what is asked of the program (stage 12).
-/
namespace Go.Proofs.Ytpnkkiokkhmjpaa
open Go.RowKit
set_option linter.unusedVariables false
set_option linter.unusedSimpArgs false

/-- What a pair of records of one key may be. -/
def PairO (o : OpR) (e : Nat) (x y : Rcd) : Prop := x = y ∨ (x.key = y.key ∧ x.key = o.key ∧ writesO o = true ∧ e = 0 ∧ x.extra.length = y.extra.length ∧ (o.kind ≠ 5 ∧ x.life = y.life ∧ x.note = y.note ∨ o.kind = 5 ∧ x.value = y.value) ∧ y.rev = x.rev + 1)
def StepO (T U : List Rcd) (o : OpR) (e : Nat) (St : Nat → Nat → Prop) (a b : Nat) : Prop :=
  (a < T.length ∧ b < U.length ∧ PairO o e (atR T a) (atR U b) ∧ St (a + 1) (b + 1)) ∨
  (a < T.length ∧ (b < U.length → (atR T a).key ≠ (atR U b).key) ∧ (atR T a).key = o.key ∧ o.kind = 3 ∧ e = 0 ∧ St (a + 1) b) ∨
  (b < U.length ∧ (a < T.length → (atR T a).key ≠ (atR U b).key ∧ (atR T a).key ≠ o.key) ∧ (atR U b).key = o.key ∧ (o.kind = 2 ∨ o.kind = 4) ∧ e = 0 ∧ (atR U b).rev = 1 ∧ St a (b + 1))
def WayO (T U : List Rcd) (o : OpR) (e : Nat) : Prop := ∃ St : Nat → Nat → Prop, St 0 0 ∧ ∀ a b, St a b → (a < T.length ∨ b < U.length) → StepO T U o e St a b
theorem way_same (T : List Rcd) (o : OpR) (e : Nat) : WayO T T o e :=
  ⟨fun a b => a = b, rfl, fun a b h hab => by subst h; exact .inl ⟨by omega, by omega, .inl rfl, rfl⟩⟩
theorem way_set {T : List Rcd} {o : OpR} {i : Nat} {r : Rcd} (h : PairO o 0 (atR T i) r) : WayO T (T.set i r) o 0 :=
  ⟨fun a b => a = b, rfl, fun a b hs hab => by
    subst hs
    rw [List.length_set] at hab
    refine .inl ⟨by omega, by rw [List.length_set]; omega, ?_, rfl⟩
    rw [atR_set (by omega)]
    split
    · rename_i e; subst e; exact h
    · exact .inl rfl⟩
theorem ins_shape (r : Rcd) : ∀ T : List Rcd, ∃ j, j ≤ T.length ∧ (∀ a, a < j → atR (insT T r) a = atR T a) ∧ atR (insT T r) j = r ∧ ∀ a, j ≤ a → atR (insT T r) (a + 1) = atR T a
  | [] => ⟨0, Nat.le_refl _, (fun a h => by omega), rfl, fun a _ => rfl⟩
  | x :: l => by
    unfold insT
    split
    · exact ⟨0, Nat.zero_le _, (fun a h => by omega), rfl, fun a _ => rfl⟩
    · obtain ⟨j, h1, h2, h3, h4⟩ := ins_shape r l
      refine ⟨j + 1, by simp only [List.length_cons]; omega, fun a ha => ?_, h3, fun a ha => ?_⟩
      · cases a with
        | zero => rfl
        | succ a => exact h2 a (by omega)
      · cases a with
        | zero => omega
        | succ a => exact h4 a (by omega)
theorem way_ins {T : List Rcd} {o : OpR} (hn : ∀ x ∈ T, x.key ≠ o.key) (hk : o.kind = 2 ∨ o.kind = 4) : WayO T (insT T (newR o)) o 0 := by
  obtain ⟨j, h1, h2, h3, h4⟩ := ins_shape (newR o) T
  refine ⟨fun a b => (a = b ∧ a ≤ j) ∨ (b = a + 1 ∧ j ≤ a), .inl ⟨rfl, Nat.zero_le _⟩, fun a b hs hab => ?_⟩
  rw [ins_len] at hab
  rcases hs with ⟨rfl, hj⟩ | ⟨rfl, hj⟩
  · by_cases e : a = j
    · subst e
      refine .inr (.inr ⟨by rw [ins_len]; omega, fun ha => ?_, by rw [h3]; rfl, hk, rfl, by rw [h3]; rfl, .inr ⟨rfl, Nat.le_refl _⟩⟩)
      have := hn _ (atR_mem ha)
      rw [h3]
      exact ⟨this, this⟩
    · exact .inl ⟨by omega, by rw [ins_len]; omega, .inl (h2 a (by omega)).symm, .inl ⟨rfl, by omega⟩⟩
  · exact .inl ⟨by omega, by rw [ins_len]; omega, .inl (h4 a hj).symm, .inr ⟨rfl, by omega⟩⟩
theorem atR_erase (T : List Rcd) (i a : Nat) : atR (T.eraseIdx i) a = if a < i then atR T a else atR T (a + 1) := by
  unfold atR
  rw [List.getD_eq_getElem?_getD, List.getElem?_eraseIdx]
  split <;> rw [List.getD_eq_getElem?_getD]
theorem way_erase {T : List Rcd} {o : OpR} {i : Nat} (h : Rise T) (hi : i < T.length) (hk : (atR T i).key = o.key) (h3 : o.kind = 3) : WayO T (T.eraseIdx i) o 0 := by
  have hl : (T.eraseIdx i).length = T.length - 1 := by rw [List.length_eraseIdx, if_pos hi]
  refine ⟨fun a b => (a = b ∧ a ≤ i) ∨ (a = b + 1 ∧ i ≤ b), .inl ⟨rfl, Nat.zero_le _⟩, fun a b hs hab => ?_⟩
  rw [hl] at hab
  rcases hs with ⟨rfl, hj⟩ | ⟨rfl, hj⟩
  · by_cases e : a = i
    · subst e
      refine .inr (.inl ⟨hi, fun hb => ?_, hk, h3, rfl, .inr ⟨rfl, Nat.le_refl _⟩⟩)
      rw [hl] at hb
      rw [atR_erase, if_neg (by omega)]
      intro e
      have := rise_inj h hi (by omega) e
      omega
    · exact .inl ⟨by omega, by rw [hl]; omega, .inl (by rw [atR_erase, if_pos (by omega)]), .inl ⟨rfl, by omega⟩⟩
  · exact .inl ⟨by omega, by rw [hl]; omega, .inl (by rw [atR_erase, if_neg (by omega)]), .inr ⟨rfl, by omega⟩⟩
theorem put_way {T : List Rcd} {o : OpR} (hk : o.kind = 2 ∨ o.kind = 4) : WayO T (putT T (idxT T o.key) o).1 o (putT T (idxT T o.key) o).2.errno := by
  have hw : writesO o = true := by unfold writesO; simp; omega
  cases e : idxT T o.key with
  | none =>
    unfold putT
    simp only
    by_cases hl : 20 ≤ T.length
    · rw [if_pos hl]; exact way_same _ _ _
    · rw [if_neg hl]; exact way_ins (idx_none e) hk
  | some i =>
    obtain ⟨hi, hik⟩ := idx_some e
    unfold putT
    simp only
    by_cases hm : (atR T i).rev = maxN
    · rw [if_pos hm]; exact way_same _ _ _
    · rw [if_neg hm]; exact way_set (.inr ⟨rfl, hik, hw, rfl, rfl, .inl ⟨by omega, rfl, rfl⟩, rfl⟩)
theorem others_math {T : List Rcd} (h : RightT T) {o : OpR} (hc : checkO 2 o = 0) : WayO T (doT T o).1 o (doT T o).2.errno := by
  have hkd := (op_ok hc).1
  rw [doT_ok ⟨h, hc⟩]
  by_cases h6 : o.kind = 6
  · rw [if_pos h6]; exact way_same _ _ _
  rw [if_neg h6]
  by_cases h2 : o.kind = 2
  · rw [if_pos h2]; exact put_way (.inl h2)
  rw [if_neg h2]
  by_cases h4 : o.kind = 4
  · rw [if_pos h4]
    split
    · exact way_same _ _ _
    · exact put_way (.inr h4)
  rw [if_neg h4]
  cases e : idxT T o.key with
  | none => exact way_same _ _ _
  | some i =>
    obtain ⟨hi, hik⟩ := idx_some e
    simp only
    by_cases h1 : o.kind = 1
    · rw [if_pos h1]; exact way_same _ _ _
    rw [if_neg h1]
    by_cases h3 : o.kind = 3
    · rw [if_pos h3]; exact way_erase h.rise hi hik h3
    rw [if_neg h3]
    split
    · exact way_same _ _ _
    · exact way_set (.inr ⟨rfl, hik, by unfold writesO; simp; omega, rfl, rfl, .inr ⟨by omega, rfl⟩, rfl⟩)
set_option maxRecDepth 100000 in
set_option maxHeartbeats 8000000 in
theorem tableOthers_core (kH : CheckT) (kW : WritesT) (kR : RightQT) (kS : SameQT) (kD : DoT) (a0 : Option Addr) (n0 cap0 : Nat) (f : Nat → Nat → Int) (x10 x11 x12 x13 x14 : Int) (w : World) (h0 : IsRaw w a0 n0 5 f) (w10 : (Lit.int .i64 x10).wf = true) (w11 : (Lit.int .i64 x11).wf = true) (w12 : (Lit.int .i64 x12).wf = true) (w13 : (Lit.int .i64 x13).wf = true) (w14 : (Lit.int .i64 x14).wf = true) :
    Calls Try.prog 4 #[.slice a0 n0 cap0, .agg #[.int .i64 x10, .int .i64 x11, .int .i64 x12, .int .i64 x13, .int .i64 x14]] w fun e w' => e = .returned (.bool true) ∧ Below w.heap.size w w' := by
  have qa : ∀ W, Calls Try.prog 12 #[.agg #[.int .i64 x10, .int .i64 x11, .int .i64 x12, .int .i64 x13, .int .i64 x14]] W (fun e w' => e = .returned (opV (opR (arr5 x10 x11 x12 x13 x14))) ∧ Below W.heap.size W w') := fun W => op_any (arr5 x10 x11 x12 x13 x14) (arr5_wf w10 w11 w12 w13 w14) W
  have HWF := Lib.hid (opR_wf (arr5 x10 x11 x12 x13 x14))
  have HCA := Lib.hid (opR_ok (arr5 x10 x11 x12 x13 x14))
  generalize opR (arr5 x10 x11 x12 x13 x14) = o at *
  unfold opV at qa
  have HTR := Lib.hid (table_right f n0)
  generalize hT : tableR f n0 = T at HTR
  have HWAY := Lib.hid (others_math HTR.out HCA.out)
  have hru := do_right HTR.out o
  obtain ⟨U, R1, hdo⟩ : ∃ U R, doT T o = (U, R) := ⟨_, _, rfl⟩
  rw [hdo] at HWAY hru
  simp only at HWAY hru
  have HRU := Lib.hid hru; clear hru
  have HDO := Lib.hid hdo; clear hdo
  have hbw : Below w.heap.size w (w.alloc (.cells #[.int .i64 x10, .int .i64 x11, .int .i64 x12, .int .i64 x13, .int .i64 x14] 24)) := (Below.refl _ _).alloc (Nat.le_refl _) _
  have hra := Blk.new w (.cells #[.int .i64 x10, .int .i64 x11, .int .i64 x12, .int .i64 x13, .int .i64 x14] 24)
  have h00 := h0.below hbw
  obtain ⟨W0, hW0⟩ : ∃ W, w.alloc (.cells #[.int .i64 x10, .int .i64 x11, .int .i64 x12, .int .i64 x13, .int .i64 x14] 24) = W := ⟨_, rfl⟩
  rw [hW0] at hbw hra h00
  have HW0 := Lib.hid hW0
  clear h0 hW0
  go_enter Try.func4, Try.ntmps4
  go_upto_region 1 with fail
  rw [HW0.out]
  clear HW0
  have HB0 := Lib.hid hbw; clear hbw
  have Hraw0 := Lib.hid h00; clear h00
  have HA0 := Lib.hid hra; clear hra
  have q_aw := fun W => awakeT_any kH kW kR kS kD W
  go_wp2_with fail
  ((with_reducible refine (q_aw _).mono ?_); rintro e W1 ⟨rfl, b_⟩)
  have h_b := bch HB0.out b_
  have h_raw := Hraw0.out.below b_
  have h_A := HA0.out.below b_
  have HB1 := Lib.hid h_b; clear h_b
  have Hraw1 := Lib.hid h_raw; clear h_raw
  have HA1 := Lib.hid h_A; clear h_A
  clear b_
  clear q_aw
  have q_tb := table_any a0 n0 cap0 f _ Hraw1.out
  go_wp2_with fail
  ((with_reducible refine q_tb.mono ?_); rintro e W2 ⟨v_, l_, rfl, hr_, hm_, hx_, b_⟩)
  obtain ⟨AT, nT, capT, hv_, hcapT, ht_⟩ := tab_ts hr_ hm_ hx_
  subst hv_
  have h_b := bch HB1.out b_
  have h_A := HA1.out.below b_
  have h_TT := ht_
  have HB2 := Lib.hid h_b; clear h_b
  have HA2 := Lib.hid h_A; clear h_A
  have HTT2 := Lib.hid h_TT; clear h_TT
  clear b_ hr_ hm_ hx_ ht_ q_tb
  rw [hT] at HTT2
  clear hT
  have c0 := Blk.cell HA2.out 0
  have c1 := Blk.cell HA2.out 1
  have c2 := Blk.cell HA2.out 2
  have c3 := Blk.cell HA2.out 3
  have c4 := Blk.cell HA2.out 4
  simp only [List.getElem?_toArray, List.getElem?_cons_zero, List.getElem?_cons_succ] at c0 c1 c2 c3 c4
  go_wp2_with fail
  ((with_reducible refine (qa _).mono ?_); rintro e W3 ⟨rfl, b_⟩)
  clear c0 c1 c2 c3 c4
  go_upto_region 4 with fail
  have h_b := (bch HB2.out b_).alloc (bch HB2.out b_).size (.cells #[.int .i64 o.kind, .string o.key, .string o.value, .int .i64 o.rev, .string o.upto, .int .i64 o.life, .string o.note] 26)
  have h_TT := (HTT2.out.below b_).below ((Below.refl _ _).alloc (Nat.le_refl _) (.cells #[.int .i64 o.kind, .string o.key, .string o.value, .int .i64 o.rev, .string o.upto, .int .i64 o.life, .string o.note] 26))
  have h_O := OpBlk.new W3 o
  obtain ⟨V_W3, hV_⟩ : ∃ W, W3.alloc (.cells #[.int .i64 o.kind, .string o.key, .string o.value, .int .i64 o.rev, .string o.upto, .int .i64 o.life, .string o.note] 26) = W := ⟨_, rfl⟩
  rw [hV_] at h_b h_TT h_O ⊢
  clear hV_
  have HB3 := Lib.hid h_b; clear h_b
  have HTT3 := Lib.hid h_TT; clear h_TT
  have HO3 := Lib.hid h_O; clear h_O
  clear b_
  clear qa
  obtain ⟨p0, p1, p2, p3, p4, p5, p6⟩ := HO3.out.cells
  try simp only at p0 p1 p2 p3 p4 p5 p6
  have hnT : nT ≤ 20 := ts_len HTT3.out HTR.out
  have q_do := do_call kD HDO.out HWF.out hcapT HTT3.out hnT
  go_wp2_with fail
  ((with_reducible refine q_do.mono ?_); rintro e W4 ⟨A1, n1, cap1, K1, k1, kc1, rfl, hcap1, ht_, hkc1, hs_, b_⟩)
  clear p0 p1 p2 p3 p4 p5 p6
  go_upto_region 5 with fail
  have h_b := (bch HB3.out b_).alloc (bch HB3.out b_).size (.cells #[.int .i64 R1.errno, .int .i64 R1.rev, .string R1.value, .slice K1 k1 kc1] 37)
  have h_TT := (HTT3.out.below b_).below ((Below.refl _ _).alloc (Nat.le_refl _) (.cells #[.int .i64 R1.errno, .int .i64 R1.rev, .string R1.value, .slice K1 k1 kc1] 37))
  have h_O := (HO3.out.below b_).below ((Below.refl _ _).alloc (Nat.le_refl _) (.cells #[.int .i64 R1.errno, .int .i64 R1.rev, .string R1.value, .slice K1 k1 kc1] 37))
  have h_T1 := IsTs.below ht_ ((Below.refl _ _).alloc (Nat.le_refl _) (.cells #[.int .i64 R1.errno, .int .i64 R1.rev, .string R1.value, .slice K1 k1 kc1] 37))
  have h_P1 := Blk.new W4 (.cells #[.int .i64 R1.errno, .int .i64 R1.rev, .string R1.value, .slice K1 k1 kc1] 37)
  obtain ⟨V_W4, hV_⟩ : ∃ W, W4.alloc (.cells #[.int .i64 R1.errno, .int .i64 R1.rev, .string R1.value, .slice K1 k1 kc1] 37) = W := ⟨_, rfl⟩
  rw [hV_] at h_b h_TT h_O h_T1 h_P1 ⊢
  clear hV_
  have HB4 := Lib.hid h_b; clear h_b
  have HTT4 := Lib.hid h_TT; clear h_TT
  have HO4 := Lib.hid h_O; clear h_O
  have HT14 := Lib.hid h_T1; clear h_T1
  have HP14 := Lib.hid h_P1; clear h_P1
  have hnb1 : n1 ≤ 20 := ts_len HT14.out HRU.out
  clear b_ ht_ hs_ q_do
  have q_r := kR U A1 n1 cap1 _ hcap1 HT14.out (by omega)
  rw [show rightT U = true from decide_eq_true HRU.out] at q_r
  go_wp2_with fail
  ((with_reducible refine q_r.mono ?_); rintro e W5 ⟨rfl, b_⟩)
  have h_b := bch HB4.out b_
  have h_TT := HTT4.out.below b_
  have h_O := HO4.out.below b_
  have h_T1 := HT14.out.below b_
  have h_P1 := HP14.out.below b_
  have HB5 := Lib.hid h_b; clear h_b
  have HTT5 := Lib.hid h_TT; clear h_TT
  have HO5 := Lib.hid h_O; clear h_O
  have HT15 := Lib.hid h_T1; clear h_T1
  have HP15 := Lib.hid h_P1; clear h_P1
  clear b_ q_r
  have HTL : Hid (nT = T.length) := HTT5.out.1
  have HUL : Hid (n1 = U.length) := HT15.out.1
  obtain ⟨St, hst0, hstep⟩ := HWAY.out
  have HST0 := Lib.hid hst0; clear hst0
  have HSTEP := Lib.hid hstep; clear hstep HWAY
  go_wp2_with fail
  go_loopw [10, 11] (fun a' b' wy => ∃ (a b : Nat) (wr : World), wr = wy ∧ a ≤ nT ∧ b ≤ n1 ∧ a' = .int .i64 a ∧ b' = .int .i64 b ∧ St a b ∧ Below W5.heap.size W5 wr) (fun a' b' _ => nT + n1 - (intOf a').toNat - (intOf b').toNat)
  case atStart => exact ⟨0, 0, _, rfl, by omega, by omega, rfl, rfl, HST0.out, Below.refl _ _⟩
  case round =>
    obtain ⟨a, b, wr, rfl, hal, hbl, rfl, rfl, hst, hb⟩ := hrel
    have HST := Lib.hid hst; clear hst
    have HB := Lib.hid hb; clear hb
    have ha0 : (0 : Int) ≤ (a : Int) := by omega
    have hb0 : (0 : Int) ≤ (b : Int) := by omega
    have hda : decide ((a : Int) < 0) = false := decide_eq_false (by omega)
    have hdb : decide ((b : Int) < 0) = false := decide_eq_false (by omega)
    have hwa : IntKind.i64.wrap ((a : Int) + 1) = (a : Int) + 1 := IntWalk.i64_in _ (by omega)
    have hwb : IntKind.i64.wrap ((b : Int) + 1) = (b : Int) + 1 := IntWalk.i64_in _ (by omega)
    by_cases hcnd : a < nT ∨ b < n1
    · have hsp := HSTEP.out a b HST.out (by have := HTL.out; have := HUL.out; omega)
      have HO := Lib.hid (OpBlk.below HO5.out HB.out)
      have HP := Lib.hid (Blk.below HP15.out HB.out)
      rcases hsp with ⟨h1, h2, hpair, hnx⟩ | ⟨h1, h2, hk, hkd, he, hnx⟩ | ⟨h1, h2, hk, hkd, he, hrv, hnx⟩
      · have HNX := Lib.hid hnx; clear hnx
        have h1T := h1
        have h1U := h2
        have h1n : a < nT := by have := HTL.out; omega
        have h2n : b < n1 := by have := HUL.out; omega
        obtain ⟨bT, oT, hAT, hbT⟩ := HTT5.out.block (by omega)
        subst hAT
        obtain ⟨Ex, mx, cx, hx, _, hfx⟩ := HTT5.out.at (i := a) h1T HB.out
        obtain ⟨bU, oU, hAU, hbU⟩ := HT15.out.block (by omega)
        subst hAU
        obtain ⟨Ey, my, cy, hy, _, hfy⟩ := HT15.out.at (i := b) h1U HB.out
        have hai : (a : Int) < (nT : Int) := by omega
        have han : a < nT := by omega
        have hda1 : decide (a < nT) = true := decide_eq_true (by omega)
        have hda2 : decide ((nT : Int) ≤ (a : Int)) = false := decide_eq_false (by omega)
        have hda3 : decide (nT ≤ a) = false := decide_eq_false (by omega)
        have hbi : (b : Int) < (n1 : Int) := by omega
        have hbn : b < n1 := by omega
        have hdb1 : decide (b < n1) = true := decide_eq_true (by omega)
        have hdb2 : decide ((n1 : Int) ≤ (b : Int)) = false := decide_eq_false (by omega)
        have hdb3 : decide (n1 ≤ b) = false := decide_eq_false (by omega)
        have hrx := rev_bounds (HTR.out.1 _ (atR_mem h1T))
        have HX : Hid (∀ W, Below wr.heap.size wr W → RcAt W bT (oT + a * 6) (atR T a) (.slice Ex mx cx)) := fun W h => hx.below h
        have HY : Hid (∀ W, Below wr.heap.size wr W → RcAt W bU (oU + b * 6) (atR U b) (.slice Ey my cy)) := fun W h => hy.below h
        have HFX := Lib.hid hfx; clear hfx
        have HFY := Lib.hid hfy; clear hfy
        generalize atR T a = x at *
        generalize atR U b = y at *
        clear h1 h2 h1T h1U hcnd
        rcases hpair with hxy | ⟨hky, hko, hwr, he, hlen, hkn, hrv⟩
        · subst hxy
          have ek : (x.key.toList == x.key.toList) = true := tb_eq rfl
          obtain ⟨x0, _, _, _, _, _⟩ := hx
          obtain ⟨y0, _, _, _, _, _⟩ := hy
          go_wp2_with fail
          go_quiet (fail)
          clear x0 y0
          generalize hD : wr.drewN _ = D
          have hbD : Below wr.heap.size wr D := by rw [← hD]; exact bdn (Below.refl _ _) _
          clear hD
          obtain ⟨x0, x1, x2, x3, x4, x5⟩ := HX.out _ hbD
          try simp only at x0 x1 x2 x3 x4 x5
          go_upto_region 12 with fail
          clear x0 x1 x2 x3 x4 x5
          have hb1 := hbD.alloc hbD.size (.cells #[.string x.key, .string x.value, .int .i64 x.rev, .int .i64 x.life, .string x.note, .slice Ex mx cx] 47)
          have hbx := Blk.new D (.cells #[.string x.key, .string x.value, .int .i64 x.rev, .int .i64 x.life, .string x.note, .slice Ex mx cx] 47)
          have hgx := World.size_alloc D (.cells #[.string x.key, .string x.value, .int .i64 x.rev, .int .i64 x.life, .string x.note, .slice Ex mx cx] 47)
          obtain ⟨V1, hV1⟩ : ∃ V, D.alloc (.cells #[.string x.key, .string x.value, .int .i64 x.rev, .int .i64 x.life, .string x.note, .slice Ex mx cx] 47) = V := ⟨_, rfl⟩
          rw [hV1] at hb1 hbx hgx ⊢
          clear hV1
          have HGX := Lib.hid hgx; clear hgx
          have HBX := Lib.hid hbx; clear hbx
          obtain ⟨y0, y1, y2, y3, y4, y5⟩ := HY.out _ hb1
          try simp only at y0 y1 y2 y3 y4 y5
          go_upto_region 13 with fail
          clear y0 y1 y2 y3 y4 y5
          have hb2 := hb1.alloc hb1.size (.cells #[.string x.key, .string x.value, .int .i64 x.rev, .int .i64 x.life, .string x.note, .slice Ey my cy] 47)
          have hby := Blk.new V1 (.cells #[.string x.key, .string x.value, .int .i64 x.rev, .int .i64 x.life, .string x.note, .slice Ey my cy] 47)
          have hbx2 := HBX.out.below ((Below.refl _ _).alloc (Nat.le_refl _) (.cells #[.string x.key, .string x.value, .int .i64 x.rev, .int .i64 x.life, .string x.note, .slice Ey my cy] 47))
          obtain ⟨V2, hV2⟩ : ∃ V, V1.alloc (.cells #[.string x.key, .string x.value, .int .i64 x.rev, .int .i64 x.life, .string x.note, .slice Ey my cy] 47) = V := ⟨_, rfl⟩
          rw [hV2] at hb2 hby hbx2 ⊢
          clear hV2 hbD hb1
          have HB20 := Lib.hid hb2; clear hb2
          have HX20 := Lib.hid hbx2; clear hbx2
          have HY20 := Lib.hid hby; clear hby
          have HO20 := Lib.hid (HO.out.below HB20.out)
          have HP20 := Lib.hid (Blk.below HP.out HB20.out)
          have HFX20 := Lib.hid (HFX.out.below HB20.out)
          have HFY20 := Lib.hid (HFY.out.below HB20.out)
          clear HX HY HFX HFY HBX
          have hmy : my = mx := by have h1 := HFX20.out.1; have h2 := HFY20.out.1; omega
          subst hmy
          have hwx : IntKind.i64.wrap (x.rev + 1) = x.rev + 1 := IntWalk.i64_in _ (by have := hrx; unfold maxN at this; omega)
          have hl1 : decide (x.rev < x.rev) = false := decide_eq_false (by omega)
          have hl2 : decide (x.rev + 1 < x.rev) = false := decide_eq_false (by omega)
          clear hrx
          have HBB20 := HB20
          go_cut [101] (fun s wx => s = .bool false ∧ Below V2.heap.size V2 wx)
          case first =>
            as_aux_lemma =>
              have HBV2 : Hid (Below V2.heap.size V2 V2) := Below.refl _ _
              by_cases hc : x.key = o.key
              · have eko : (x.key.toList == o.key.toList) = true := tb_eq hc
                clear hc
                by_cases hc : writesO o = true
                · have hwr : writesO o = true := by simpa using hc
                  clear hc
                  have q_w := kW o HWF.out V2
                  rw [hwr] at q_w
                  unfold opV at q_w
                  have u0 := Blk.cell HX20.out 0
                  have u1 := Blk.cell HX20.out 1
                  have u2 := Blk.cell HX20.out 2
                  have u3 := Blk.cell HX20.out 3
                  have u4 := Blk.cell HX20.out 4
                  have u5 := Blk.cell HX20.out 5
                  simp only [List.getElem?_toArray, List.getElem?_cons_zero, List.getElem?_cons_succ] at u0 u1 u2 u3 u4 u5
                  have v0 := Blk.cell HY20.out 0
                  have v1 := Blk.cell HY20.out 1
                  have v2 := Blk.cell HY20.out 2
                  have v3 := Blk.cell HY20.out 3
                  have v4 := Blk.cell HY20.out 4
                  have v5 := Blk.cell HY20.out 5
                  simp only [List.getElem?_toArray, List.getElem?_cons_zero, List.getElem?_cons_succ] at v0 v1 v2 v3 v4 v5
                  obtain ⟨c0, c1, c2, c3, c4, c5, c6⟩ := HO20.out.cells
                  try simp only at c0 c1 c2 c3 c4 c5 c6
                  have r0 := Blk.cell HP20.out 0
                  simp only [List.getElem?_toArray, List.getElem?_cons_zero, List.getElem?_cons_succ] at r0
                  go_wp2_with fail
                  ((with_reducible refine q_w.mono ?_); rintro e W8 ⟨rfl, b_⟩)
                  clear u0 u1 u2 u3 u4 u5 v0 v1 v2 v3 v4 v5 c0 c1 c2 c3 c4 c5 c6 r0
                  have h_b := bch HBV2.out b_
                  have h_X := HX20.out.below b_
                  have h_Y := HY20.out.below b_
                  have h_O := HO20.out.below b_
                  have h_P := HP20.out.below b_
                  have h_FX := HFX20.out.below b_
                  have h_FY := HFY20.out.below b_
                  have HB21 := Lib.hid h_b; clear h_b
                  have HX21 := Lib.hid h_X; clear h_X
                  have HY21 := Lib.hid h_Y; clear h_Y
                  have HO21 := Lib.hid h_O; clear h_O
                  have HP21 := Lib.hid h_P; clear h_P
                  have HFX21 := Lib.hid h_FX; clear h_FX
                  have HFY21 := Lib.hid h_FY; clear h_FY
                  clear b_
                  clear q_w
                  by_cases hc : R1.errno = 0
                  · have ez : (R1.errno = 0) = True := eq_true hc
                    clear hc
                    have u0 := Blk.cell HX21.out 0
                    have u1 := Blk.cell HX21.out 1
                    have u2 := Blk.cell HX21.out 2
                    have u3 := Blk.cell HX21.out 3
                    have u4 := Blk.cell HX21.out 4
                    have u5 := Blk.cell HX21.out 5
                    simp only [List.getElem?_toArray, List.getElem?_cons_zero, List.getElem?_cons_succ] at u0 u1 u2 u3 u4 u5
                    have v0 := Blk.cell HY21.out 0
                    have v1 := Blk.cell HY21.out 1
                    have v2 := Blk.cell HY21.out 2
                    have v3 := Blk.cell HY21.out 3
                    have v4 := Blk.cell HY21.out 4
                    have v5 := Blk.cell HY21.out 5
                    simp only [List.getElem?_toArray, List.getElem?_cons_zero, List.getElem?_cons_succ] at v0 v1 v2 v3 v4 v5
                    obtain ⟨c0, c1, c2, c3, c4, c5, c6⟩ := HO21.out.cells
                    try simp only at c0 c1 c2 c3 c4 c5 c6
                    have r0 := Blk.cell HP21.out 0
                    simp only [List.getElem?_toArray, List.getElem?_cons_zero, List.getElem?_cons_succ] at r0
                    go_wp2_with fail
                    go_meet
                    clear u0 u1 u2 u3 u4 u5 v0 v1 v2 v3 v4 v5 c0 c1 c2 c3 c4 c5 c6 r0
                    exact ⟨rfl, (HB21.out : Below V2.heap.size V2 _)⟩
                  · have ez : (R1.errno = 0) = False := eq_false hc
                    clear hc
                    have q_s := refSame_any x x Ex Ey my my cx cy _ HFX21.out HFY21.out
                    rw [sameR_self] at q_s
                    unfold rcV at q_s
                    try simp only at q_s
                    have u0 := Blk.cell HX21.out 0
                    have u1 := Blk.cell HX21.out 1
                    have u2 := Blk.cell HX21.out 2
                    have u3 := Blk.cell HX21.out 3
                    have u4 := Blk.cell HX21.out 4
                    have u5 := Blk.cell HX21.out 5
                    simp only [List.getElem?_toArray, List.getElem?_cons_zero, List.getElem?_cons_succ] at u0 u1 u2 u3 u4 u5
                    have v0 := Blk.cell HY21.out 0
                    have v1 := Blk.cell HY21.out 1
                    have v2 := Blk.cell HY21.out 2
                    have v3 := Blk.cell HY21.out 3
                    have v4 := Blk.cell HY21.out 4
                    have v5 := Blk.cell HY21.out 5
                    simp only [List.getElem?_toArray, List.getElem?_cons_zero, List.getElem?_cons_succ] at v0 v1 v2 v3 v4 v5
                    obtain ⟨c0, c1, c2, c3, c4, c5, c6⟩ := HO21.out.cells
                    try simp only at c0 c1 c2 c3 c4 c5 c6
                    have r0 := Blk.cell HP21.out 0
                    simp only [List.getElem?_toArray, List.getElem?_cons_zero, List.getElem?_cons_succ] at r0
                    go_wp2_with fail
                    ((with_reducible refine q_s.mono ?_); rintro e W10 ⟨rfl, b_⟩)
                    clear u0 u1 u2 u3 u4 u5 v0 v1 v2 v3 v4 v5 c0 c1 c2 c3 c4 c5 c6 r0
                    have h_b := bch HB21.out b_
                    have h_X := HX21.out.below b_
                    have h_Y := HY21.out.below b_
                    have h_O := HO21.out.below b_
                    have h_P := HP21.out.below b_
                    have h_FX := HFX21.out.below b_
                    have h_FY := HFY21.out.below b_
                    have HB22 := Lib.hid h_b; clear h_b
                    have HX22 := Lib.hid h_X; clear h_X
                    have HY22 := Lib.hid h_Y; clear h_Y
                    have HO22 := Lib.hid h_O; clear h_O
                    have HP22 := Lib.hid h_P; clear h_P
                    have HFX22 := Lib.hid h_FX; clear h_FX
                    have HFY22 := Lib.hid h_FY; clear h_FY
                    clear b_
                    clear q_s
                    have u0 := Blk.cell HX22.out 0
                    have u1 := Blk.cell HX22.out 1
                    have u2 := Blk.cell HX22.out 2
                    have u3 := Blk.cell HX22.out 3
                    have u4 := Blk.cell HX22.out 4
                    have u5 := Blk.cell HX22.out 5
                    simp only [List.getElem?_toArray, List.getElem?_cons_zero, List.getElem?_cons_succ] at u0 u1 u2 u3 u4 u5
                    have v0 := Blk.cell HY22.out 0
                    have v1 := Blk.cell HY22.out 1
                    have v2 := Blk.cell HY22.out 2
                    have v3 := Blk.cell HY22.out 3
                    have v4 := Blk.cell HY22.out 4
                    have v5 := Blk.cell HY22.out 5
                    simp only [List.getElem?_toArray, List.getElem?_cons_zero, List.getElem?_cons_succ] at v0 v1 v2 v3 v4 v5
                    obtain ⟨c0, c1, c2, c3, c4, c5, c6⟩ := HO22.out.cells
                    try simp only at c0 c1 c2 c3 c4 c5 c6
                    have r0 := Blk.cell HP22.out 0
                    simp only [List.getElem?_toArray, List.getElem?_cons_zero, List.getElem?_cons_succ] at r0
                    go_wp2_with fail
                    go_meet
                    clear u0 u1 u2 u3 u4 u5 v0 v1 v2 v3 v4 v5 c0 c1 c2 c3 c4 c5 c6 r0
                    exact ⟨rfl, (HB22.out : Below V2.heap.size V2 _)⟩
                · have hwr : writesO o = false := by simpa using hc
                  clear hc
                  have q_w := kW o HWF.out V2
                  rw [hwr] at q_w
                  unfold opV at q_w
                  have u0 := Blk.cell HX20.out 0
                  have u1 := Blk.cell HX20.out 1
                  have u2 := Blk.cell HX20.out 2
                  have u3 := Blk.cell HX20.out 3
                  have u4 := Blk.cell HX20.out 4
                  have u5 := Blk.cell HX20.out 5
                  simp only [List.getElem?_toArray, List.getElem?_cons_zero, List.getElem?_cons_succ] at u0 u1 u2 u3 u4 u5
                  have v0 := Blk.cell HY20.out 0
                  have v1 := Blk.cell HY20.out 1
                  have v2 := Blk.cell HY20.out 2
                  have v3 := Blk.cell HY20.out 3
                  have v4 := Blk.cell HY20.out 4
                  have v5 := Blk.cell HY20.out 5
                  simp only [List.getElem?_toArray, List.getElem?_cons_zero, List.getElem?_cons_succ] at v0 v1 v2 v3 v4 v5
                  obtain ⟨c0, c1, c2, c3, c4, c5, c6⟩ := HO20.out.cells
                  try simp only at c0 c1 c2 c3 c4 c5 c6
                  have r0 := Blk.cell HP20.out 0
                  simp only [List.getElem?_toArray, List.getElem?_cons_zero, List.getElem?_cons_succ] at r0
                  go_wp2_with fail
                  ((with_reducible refine q_w.mono ?_); rintro e W8 ⟨rfl, b_⟩)
                  clear u0 u1 u2 u3 u4 u5 v0 v1 v2 v3 v4 v5 c0 c1 c2 c3 c4 c5 c6 r0
                  have h_b := bch HBV2.out b_
                  have h_X := HX20.out.below b_
                  have h_Y := HY20.out.below b_
                  have h_O := HO20.out.below b_
                  have h_P := HP20.out.below b_
                  have h_FX := HFX20.out.below b_
                  have h_FY := HFY20.out.below b_
                  have HB21 := Lib.hid h_b; clear h_b
                  have HX21 := Lib.hid h_X; clear h_X
                  have HY21 := Lib.hid h_Y; clear h_Y
                  have HO21 := Lib.hid h_O; clear h_O
                  have HP21 := Lib.hid h_P; clear h_P
                  have HFX21 := Lib.hid h_FX; clear h_FX
                  have HFY21 := Lib.hid h_FY; clear h_FY
                  clear b_
                  clear q_w
                  have q_s := refSame_any x x Ex Ey my my cx cy _ HFX21.out HFY21.out
                  rw [sameR_self] at q_s
                  unfold rcV at q_s
                  try simp only at q_s
                  have u0 := Blk.cell HX21.out 0
                  have u1 := Blk.cell HX21.out 1
                  have u2 := Blk.cell HX21.out 2
                  have u3 := Blk.cell HX21.out 3
                  have u4 := Blk.cell HX21.out 4
                  have u5 := Blk.cell HX21.out 5
                  simp only [List.getElem?_toArray, List.getElem?_cons_zero, List.getElem?_cons_succ] at u0 u1 u2 u3 u4 u5
                  have v0 := Blk.cell HY21.out 0
                  have v1 := Blk.cell HY21.out 1
                  have v2 := Blk.cell HY21.out 2
                  have v3 := Blk.cell HY21.out 3
                  have v4 := Blk.cell HY21.out 4
                  have v5 := Blk.cell HY21.out 5
                  simp only [List.getElem?_toArray, List.getElem?_cons_zero, List.getElem?_cons_succ] at v0 v1 v2 v3 v4 v5
                  obtain ⟨c0, c1, c2, c3, c4, c5, c6⟩ := HO21.out.cells
                  try simp only at c0 c1 c2 c3 c4 c5 c6
                  have r0 := Blk.cell HP21.out 0
                  simp only [List.getElem?_toArray, List.getElem?_cons_zero, List.getElem?_cons_succ] at r0
                  go_wp2_with fail
                  ((with_reducible refine q_s.mono ?_); rintro e W9 ⟨rfl, b_⟩)
                  clear u0 u1 u2 u3 u4 u5 v0 v1 v2 v3 v4 v5 c0 c1 c2 c3 c4 c5 c6 r0
                  have h_b := bch HB21.out b_
                  have h_X := HX21.out.below b_
                  have h_Y := HY21.out.below b_
                  have h_O := HO21.out.below b_
                  have h_P := HP21.out.below b_
                  have h_FX := HFX21.out.below b_
                  have h_FY := HFY21.out.below b_
                  have HB22 := Lib.hid h_b; clear h_b
                  have HX22 := Lib.hid h_X; clear h_X
                  have HY22 := Lib.hid h_Y; clear h_Y
                  have HO22 := Lib.hid h_O; clear h_O
                  have HP22 := Lib.hid h_P; clear h_P
                  have HFX22 := Lib.hid h_FX; clear h_FX
                  have HFY22 := Lib.hid h_FY; clear h_FY
                  clear b_
                  clear q_s
                  by_cases hc : R1.errno = 0
                  · have ez : (R1.errno = 0) = True := eq_true hc
                    clear hc
                    have u0 := Blk.cell HX22.out 0
                    have u1 := Blk.cell HX22.out 1
                    have u2 := Blk.cell HX22.out 2
                    have u3 := Blk.cell HX22.out 3
                    have u4 := Blk.cell HX22.out 4
                    have u5 := Blk.cell HX22.out 5
                    simp only [List.getElem?_toArray, List.getElem?_cons_zero, List.getElem?_cons_succ] at u0 u1 u2 u3 u4 u5
                    have v0 := Blk.cell HY22.out 0
                    have v1 := Blk.cell HY22.out 1
                    have v2 := Blk.cell HY22.out 2
                    have v3 := Blk.cell HY22.out 3
                    have v4 := Blk.cell HY22.out 4
                    have v5 := Blk.cell HY22.out 5
                    simp only [List.getElem?_toArray, List.getElem?_cons_zero, List.getElem?_cons_succ] at v0 v1 v2 v3 v4 v5
                    obtain ⟨c0, c1, c2, c3, c4, c5, c6⟩ := HO22.out.cells
                    try simp only at c0 c1 c2 c3 c4 c5 c6
                    have r0 := Blk.cell HP22.out 0
                    simp only [List.getElem?_toArray, List.getElem?_cons_zero, List.getElem?_cons_succ] at r0
                    go_wp2_with fail
                    go_meet
                    clear u0 u1 u2 u3 u4 u5 v0 v1 v2 v3 v4 v5 c0 c1 c2 c3 c4 c5 c6 r0
                    exact ⟨rfl, (HB22.out : Below V2.heap.size V2 _)⟩
                  · have ez : (R1.errno = 0) = False := eq_false hc
                    clear hc
                    have q_s := refSame_any x x Ex Ey my my cx cy _ HFX22.out HFY22.out
                    rw [sameR_self] at q_s
                    unfold rcV at q_s
                    try simp only at q_s
                    have u0 := Blk.cell HX22.out 0
                    have u1 := Blk.cell HX22.out 1
                    have u2 := Blk.cell HX22.out 2
                    have u3 := Blk.cell HX22.out 3
                    have u4 := Blk.cell HX22.out 4
                    have u5 := Blk.cell HX22.out 5
                    simp only [List.getElem?_toArray, List.getElem?_cons_zero, List.getElem?_cons_succ] at u0 u1 u2 u3 u4 u5
                    have v0 := Blk.cell HY22.out 0
                    have v1 := Blk.cell HY22.out 1
                    have v2 := Blk.cell HY22.out 2
                    have v3 := Blk.cell HY22.out 3
                    have v4 := Blk.cell HY22.out 4
                    have v5 := Blk.cell HY22.out 5
                    simp only [List.getElem?_toArray, List.getElem?_cons_zero, List.getElem?_cons_succ] at v0 v1 v2 v3 v4 v5
                    obtain ⟨c0, c1, c2, c3, c4, c5, c6⟩ := HO22.out.cells
                    try simp only at c0 c1 c2 c3 c4 c5 c6
                    have r0 := Blk.cell HP22.out 0
                    simp only [List.getElem?_toArray, List.getElem?_cons_zero, List.getElem?_cons_succ] at r0
                    go_wp2_with fail
                    ((with_reducible refine q_s.mono ?_); rintro e W10 ⟨rfl, b_⟩)
                    clear u0 u1 u2 u3 u4 u5 v0 v1 v2 v3 v4 v5 c0 c1 c2 c3 c4 c5 c6 r0
                    have h_b := bch HB22.out b_
                    have h_X := HX22.out.below b_
                    have h_Y := HY22.out.below b_
                    have h_O := HO22.out.below b_
                    have h_P := HP22.out.below b_
                    have h_FX := HFX22.out.below b_
                    have h_FY := HFY22.out.below b_
                    have HB23 := Lib.hid h_b; clear h_b
                    have HX23 := Lib.hid h_X; clear h_X
                    have HY23 := Lib.hid h_Y; clear h_Y
                    have HO23 := Lib.hid h_O; clear h_O
                    have HP23 := Lib.hid h_P; clear h_P
                    have HFX23 := Lib.hid h_FX; clear h_FX
                    have HFY23 := Lib.hid h_FY; clear h_FY
                    clear b_
                    clear q_s
                    have u0 := Blk.cell HX23.out 0
                    have u1 := Blk.cell HX23.out 1
                    have u2 := Blk.cell HX23.out 2
                    have u3 := Blk.cell HX23.out 3
                    have u4 := Blk.cell HX23.out 4
                    have u5 := Blk.cell HX23.out 5
                    simp only [List.getElem?_toArray, List.getElem?_cons_zero, List.getElem?_cons_succ] at u0 u1 u2 u3 u4 u5
                    have v0 := Blk.cell HY23.out 0
                    have v1 := Blk.cell HY23.out 1
                    have v2 := Blk.cell HY23.out 2
                    have v3 := Blk.cell HY23.out 3
                    have v4 := Blk.cell HY23.out 4
                    have v5 := Blk.cell HY23.out 5
                    simp only [List.getElem?_toArray, List.getElem?_cons_zero, List.getElem?_cons_succ] at v0 v1 v2 v3 v4 v5
                    obtain ⟨c0, c1, c2, c3, c4, c5, c6⟩ := HO23.out.cells
                    try simp only at c0 c1 c2 c3 c4 c5 c6
                    have r0 := Blk.cell HP23.out 0
                    simp only [List.getElem?_toArray, List.getElem?_cons_zero, List.getElem?_cons_succ] at r0
                    go_wp2_with fail
                    go_meet
                    clear u0 u1 u2 u3 u4 u5 v0 v1 v2 v3 v4 v5 c0 c1 c2 c3 c4 c5 c6 r0
                    exact ⟨rfl, (HB23.out : Below V2.heap.size V2 _)⟩
              · have eko : (x.key.toList == o.key.toList) = false := tb_ne hc
                clear hc
                have q_s := refSame_any x x Ex Ey my my cx cy _ HFX20.out HFY20.out
                rw [sameR_self] at q_s
                unfold rcV at q_s
                try simp only at q_s
                have u0 := Blk.cell HX20.out 0
                have u1 := Blk.cell HX20.out 1
                have u2 := Blk.cell HX20.out 2
                have u3 := Blk.cell HX20.out 3
                have u4 := Blk.cell HX20.out 4
                have u5 := Blk.cell HX20.out 5
                simp only [List.getElem?_toArray, List.getElem?_cons_zero, List.getElem?_cons_succ] at u0 u1 u2 u3 u4 u5
                have v0 := Blk.cell HY20.out 0
                have v1 := Blk.cell HY20.out 1
                have v2 := Blk.cell HY20.out 2
                have v3 := Blk.cell HY20.out 3
                have v4 := Blk.cell HY20.out 4
                have v5 := Blk.cell HY20.out 5
                simp only [List.getElem?_toArray, List.getElem?_cons_zero, List.getElem?_cons_succ] at v0 v1 v2 v3 v4 v5
                obtain ⟨c0, c1, c2, c3, c4, c5, c6⟩ := HO20.out.cells
                try simp only at c0 c1 c2 c3 c4 c5 c6
                have r0 := Blk.cell HP20.out 0
                simp only [List.getElem?_toArray, List.getElem?_cons_zero, List.getElem?_cons_succ] at r0
                go_wp2_with fail
                ((with_reducible refine q_s.mono ?_); rintro e W6 ⟨rfl, b_⟩)
                clear u0 u1 u2 u3 u4 u5 v0 v1 v2 v3 v4 v5 c0 c1 c2 c3 c4 c5 c6 r0
                have h_b := bch HBV2.out b_
                have h_X := HX20.out.below b_
                have h_Y := HY20.out.below b_
                have h_O := HO20.out.below b_
                have h_P := HP20.out.below b_
                have h_FX := HFX20.out.below b_
                have h_FY := HFY20.out.below b_
                have HB21 := Lib.hid h_b; clear h_b
                have HX21 := Lib.hid h_X; clear h_X
                have HY21 := Lib.hid h_Y; clear h_Y
                have HO21 := Lib.hid h_O; clear h_O
                have HP21 := Lib.hid h_P; clear h_P
                have HFX21 := Lib.hid h_FX; clear h_FX
                have HFY21 := Lib.hid h_FY; clear h_FY
                clear b_
                clear q_s
                by_cases hc : writesO o = true
                · have hwr : writesO o = true := by simpa using hc
                  clear hc
                  have q_w := kW o HWF.out W6
                  rw [hwr] at q_w
                  unfold opV at q_w
                  have u0 := Blk.cell HX21.out 0
                  have u1 := Blk.cell HX21.out 1
                  have u2 := Blk.cell HX21.out 2
                  have u3 := Blk.cell HX21.out 3
                  have u4 := Blk.cell HX21.out 4
                  have u5 := Blk.cell HX21.out 5
                  simp only [List.getElem?_toArray, List.getElem?_cons_zero, List.getElem?_cons_succ] at u0 u1 u2 u3 u4 u5
                  have v0 := Blk.cell HY21.out 0
                  have v1 := Blk.cell HY21.out 1
                  have v2 := Blk.cell HY21.out 2
                  have v3 := Blk.cell HY21.out 3
                  have v4 := Blk.cell HY21.out 4
                  have v5 := Blk.cell HY21.out 5
                  simp only [List.getElem?_toArray, List.getElem?_cons_zero, List.getElem?_cons_succ] at v0 v1 v2 v3 v4 v5
                  obtain ⟨c0, c1, c2, c3, c4, c5, c6⟩ := HO21.out.cells
                  try simp only at c0 c1 c2 c3 c4 c5 c6
                  have r0 := Blk.cell HP21.out 0
                  simp only [List.getElem?_toArray, List.getElem?_cons_zero, List.getElem?_cons_succ] at r0
                  go_wp2_with fail
                  ((with_reducible refine q_w.mono ?_); rintro e W8 ⟨rfl, b_⟩)
                  clear u0 u1 u2 u3 u4 u5 v0 v1 v2 v3 v4 v5 c0 c1 c2 c3 c4 c5 c6 r0
                  have h_b := bch HB21.out b_
                  have h_X := HX21.out.below b_
                  have h_Y := HY21.out.below b_
                  have h_O := HO21.out.below b_
                  have h_P := HP21.out.below b_
                  have h_FX := HFX21.out.below b_
                  have h_FY := HFY21.out.below b_
                  have HB22 := Lib.hid h_b; clear h_b
                  have HX22 := Lib.hid h_X; clear h_X
                  have HY22 := Lib.hid h_Y; clear h_Y
                  have HO22 := Lib.hid h_O; clear h_O
                  have HP22 := Lib.hid h_P; clear h_P
                  have HFX22 := Lib.hid h_FX; clear h_FX
                  have HFY22 := Lib.hid h_FY; clear h_FY
                  clear b_
                  clear q_w
                  by_cases hc : R1.errno = 0
                  · have ez : (R1.errno = 0) = True := eq_true hc
                    clear hc
                    have u0 := Blk.cell HX22.out 0
                    have u1 := Blk.cell HX22.out 1
                    have u2 := Blk.cell HX22.out 2
                    have u3 := Blk.cell HX22.out 3
                    have u4 := Blk.cell HX22.out 4
                    have u5 := Blk.cell HX22.out 5
                    simp only [List.getElem?_toArray, List.getElem?_cons_zero, List.getElem?_cons_succ] at u0 u1 u2 u3 u4 u5
                    have v0 := Blk.cell HY22.out 0
                    have v1 := Blk.cell HY22.out 1
                    have v2 := Blk.cell HY22.out 2
                    have v3 := Blk.cell HY22.out 3
                    have v4 := Blk.cell HY22.out 4
                    have v5 := Blk.cell HY22.out 5
                    simp only [List.getElem?_toArray, List.getElem?_cons_zero, List.getElem?_cons_succ] at v0 v1 v2 v3 v4 v5
                    obtain ⟨c0, c1, c2, c3, c4, c5, c6⟩ := HO22.out.cells
                    try simp only at c0 c1 c2 c3 c4 c5 c6
                    have r0 := Blk.cell HP22.out 0
                    simp only [List.getElem?_toArray, List.getElem?_cons_zero, List.getElem?_cons_succ] at r0
                    go_wp2_with fail
                    go_meet
                    clear u0 u1 u2 u3 u4 u5 v0 v1 v2 v3 v4 v5 c0 c1 c2 c3 c4 c5 c6 r0
                    exact ⟨rfl, (HB22.out : Below V2.heap.size V2 _)⟩
                  · have ez : (R1.errno = 0) = False := eq_false hc
                    clear hc
                    have q_s := refSame_any x x Ex Ey my my cx cy _ HFX22.out HFY22.out
                    rw [sameR_self] at q_s
                    unfold rcV at q_s
                    try simp only at q_s
                    have u0 := Blk.cell HX22.out 0
                    have u1 := Blk.cell HX22.out 1
                    have u2 := Blk.cell HX22.out 2
                    have u3 := Blk.cell HX22.out 3
                    have u4 := Blk.cell HX22.out 4
                    have u5 := Blk.cell HX22.out 5
                    simp only [List.getElem?_toArray, List.getElem?_cons_zero, List.getElem?_cons_succ] at u0 u1 u2 u3 u4 u5
                    have v0 := Blk.cell HY22.out 0
                    have v1 := Blk.cell HY22.out 1
                    have v2 := Blk.cell HY22.out 2
                    have v3 := Blk.cell HY22.out 3
                    have v4 := Blk.cell HY22.out 4
                    have v5 := Blk.cell HY22.out 5
                    simp only [List.getElem?_toArray, List.getElem?_cons_zero, List.getElem?_cons_succ] at v0 v1 v2 v3 v4 v5
                    obtain ⟨c0, c1, c2, c3, c4, c5, c6⟩ := HO22.out.cells
                    try simp only at c0 c1 c2 c3 c4 c5 c6
                    have r0 := Blk.cell HP22.out 0
                    simp only [List.getElem?_toArray, List.getElem?_cons_zero, List.getElem?_cons_succ] at r0
                    go_wp2_with fail
                    ((with_reducible refine q_s.mono ?_); rintro e W10 ⟨rfl, b_⟩)
                    clear u0 u1 u2 u3 u4 u5 v0 v1 v2 v3 v4 v5 c0 c1 c2 c3 c4 c5 c6 r0
                    have h_b := bch HB22.out b_
                    have h_X := HX22.out.below b_
                    have h_Y := HY22.out.below b_
                    have h_O := HO22.out.below b_
                    have h_P := HP22.out.below b_
                    have h_FX := HFX22.out.below b_
                    have h_FY := HFY22.out.below b_
                    have HB23 := Lib.hid h_b; clear h_b
                    have HX23 := Lib.hid h_X; clear h_X
                    have HY23 := Lib.hid h_Y; clear h_Y
                    have HO23 := Lib.hid h_O; clear h_O
                    have HP23 := Lib.hid h_P; clear h_P
                    have HFX23 := Lib.hid h_FX; clear h_FX
                    have HFY23 := Lib.hid h_FY; clear h_FY
                    clear b_
                    clear q_s
                    have u0 := Blk.cell HX23.out 0
                    have u1 := Blk.cell HX23.out 1
                    have u2 := Blk.cell HX23.out 2
                    have u3 := Blk.cell HX23.out 3
                    have u4 := Blk.cell HX23.out 4
                    have u5 := Blk.cell HX23.out 5
                    simp only [List.getElem?_toArray, List.getElem?_cons_zero, List.getElem?_cons_succ] at u0 u1 u2 u3 u4 u5
                    have v0 := Blk.cell HY23.out 0
                    have v1 := Blk.cell HY23.out 1
                    have v2 := Blk.cell HY23.out 2
                    have v3 := Blk.cell HY23.out 3
                    have v4 := Blk.cell HY23.out 4
                    have v5 := Blk.cell HY23.out 5
                    simp only [List.getElem?_toArray, List.getElem?_cons_zero, List.getElem?_cons_succ] at v0 v1 v2 v3 v4 v5
                    obtain ⟨c0, c1, c2, c3, c4, c5, c6⟩ := HO23.out.cells
                    try simp only at c0 c1 c2 c3 c4 c5 c6
                    have r0 := Blk.cell HP23.out 0
                    simp only [List.getElem?_toArray, List.getElem?_cons_zero, List.getElem?_cons_succ] at r0
                    go_wp2_with fail
                    go_meet
                    clear u0 u1 u2 u3 u4 u5 v0 v1 v2 v3 v4 v5 c0 c1 c2 c3 c4 c5 c6 r0
                    exact ⟨rfl, (HB23.out : Below V2.heap.size V2 _)⟩
                · have hwr : writesO o = false := by simpa using hc
                  clear hc
                  have q_w := kW o HWF.out W6
                  rw [hwr] at q_w
                  unfold opV at q_w
                  have u0 := Blk.cell HX21.out 0
                  have u1 := Blk.cell HX21.out 1
                  have u2 := Blk.cell HX21.out 2
                  have u3 := Blk.cell HX21.out 3
                  have u4 := Blk.cell HX21.out 4
                  have u5 := Blk.cell HX21.out 5
                  simp only [List.getElem?_toArray, List.getElem?_cons_zero, List.getElem?_cons_succ] at u0 u1 u2 u3 u4 u5
                  have v0 := Blk.cell HY21.out 0
                  have v1 := Blk.cell HY21.out 1
                  have v2 := Blk.cell HY21.out 2
                  have v3 := Blk.cell HY21.out 3
                  have v4 := Blk.cell HY21.out 4
                  have v5 := Blk.cell HY21.out 5
                  simp only [List.getElem?_toArray, List.getElem?_cons_zero, List.getElem?_cons_succ] at v0 v1 v2 v3 v4 v5
                  obtain ⟨c0, c1, c2, c3, c4, c5, c6⟩ := HO21.out.cells
                  try simp only at c0 c1 c2 c3 c4 c5 c6
                  have r0 := Blk.cell HP21.out 0
                  simp only [List.getElem?_toArray, List.getElem?_cons_zero, List.getElem?_cons_succ] at r0
                  go_wp2_with fail
                  ((with_reducible refine q_w.mono ?_); rintro e W8 ⟨rfl, b_⟩)
                  clear u0 u1 u2 u3 u4 u5 v0 v1 v2 v3 v4 v5 c0 c1 c2 c3 c4 c5 c6 r0
                  have h_b := bch HB21.out b_
                  have h_X := HX21.out.below b_
                  have h_Y := HY21.out.below b_
                  have h_O := HO21.out.below b_
                  have h_P := HP21.out.below b_
                  have h_FX := HFX21.out.below b_
                  have h_FY := HFY21.out.below b_
                  have HB22 := Lib.hid h_b; clear h_b
                  have HX22 := Lib.hid h_X; clear h_X
                  have HY22 := Lib.hid h_Y; clear h_Y
                  have HO22 := Lib.hid h_O; clear h_O
                  have HP22 := Lib.hid h_P; clear h_P
                  have HFX22 := Lib.hid h_FX; clear h_FX
                  have HFY22 := Lib.hid h_FY; clear h_FY
                  clear b_
                  clear q_w
                  have q_s := refSame_any x x Ex Ey my my cx cy _ HFX22.out HFY22.out
                  rw [sameR_self] at q_s
                  unfold rcV at q_s
                  try simp only at q_s
                  have u0 := Blk.cell HX22.out 0
                  have u1 := Blk.cell HX22.out 1
                  have u2 := Blk.cell HX22.out 2
                  have u3 := Blk.cell HX22.out 3
                  have u4 := Blk.cell HX22.out 4
                  have u5 := Blk.cell HX22.out 5
                  simp only [List.getElem?_toArray, List.getElem?_cons_zero, List.getElem?_cons_succ] at u0 u1 u2 u3 u4 u5
                  have v0 := Blk.cell HY22.out 0
                  have v1 := Blk.cell HY22.out 1
                  have v2 := Blk.cell HY22.out 2
                  have v3 := Blk.cell HY22.out 3
                  have v4 := Blk.cell HY22.out 4
                  have v5 := Blk.cell HY22.out 5
                  simp only [List.getElem?_toArray, List.getElem?_cons_zero, List.getElem?_cons_succ] at v0 v1 v2 v3 v4 v5
                  obtain ⟨c0, c1, c2, c3, c4, c5, c6⟩ := HO22.out.cells
                  try simp only at c0 c1 c2 c3 c4 c5 c6
                  have r0 := Blk.cell HP22.out 0
                  simp only [List.getElem?_toArray, List.getElem?_cons_zero, List.getElem?_cons_succ] at r0
                  go_wp2_with fail
                  ((with_reducible refine q_s.mono ?_); rintro e W9 ⟨rfl, b_⟩)
                  clear u0 u1 u2 u3 u4 u5 v0 v1 v2 v3 v4 v5 c0 c1 c2 c3 c4 c5 c6 r0
                  have h_b := bch HB22.out b_
                  have h_X := HX22.out.below b_
                  have h_Y := HY22.out.below b_
                  have h_O := HO22.out.below b_
                  have h_P := HP22.out.below b_
                  have h_FX := HFX22.out.below b_
                  have h_FY := HFY22.out.below b_
                  have HB23 := Lib.hid h_b; clear h_b
                  have HX23 := Lib.hid h_X; clear h_X
                  have HY23 := Lib.hid h_Y; clear h_Y
                  have HO23 := Lib.hid h_O; clear h_O
                  have HP23 := Lib.hid h_P; clear h_P
                  have HFX23 := Lib.hid h_FX; clear h_FX
                  have HFY23 := Lib.hid h_FY; clear h_FY
                  clear b_
                  clear q_s
                  by_cases hc : R1.errno = 0
                  · have ez : (R1.errno = 0) = True := eq_true hc
                    clear hc
                    have u0 := Blk.cell HX23.out 0
                    have u1 := Blk.cell HX23.out 1
                    have u2 := Blk.cell HX23.out 2
                    have u3 := Blk.cell HX23.out 3
                    have u4 := Blk.cell HX23.out 4
                    have u5 := Blk.cell HX23.out 5
                    simp only [List.getElem?_toArray, List.getElem?_cons_zero, List.getElem?_cons_succ] at u0 u1 u2 u3 u4 u5
                    have v0 := Blk.cell HY23.out 0
                    have v1 := Blk.cell HY23.out 1
                    have v2 := Blk.cell HY23.out 2
                    have v3 := Blk.cell HY23.out 3
                    have v4 := Blk.cell HY23.out 4
                    have v5 := Blk.cell HY23.out 5
                    simp only [List.getElem?_toArray, List.getElem?_cons_zero, List.getElem?_cons_succ] at v0 v1 v2 v3 v4 v5
                    obtain ⟨c0, c1, c2, c3, c4, c5, c6⟩ := HO23.out.cells
                    try simp only at c0 c1 c2 c3 c4 c5 c6
                    have r0 := Blk.cell HP23.out 0
                    simp only [List.getElem?_toArray, List.getElem?_cons_zero, List.getElem?_cons_succ] at r0
                    go_wp2_with fail
                    go_meet
                    clear u0 u1 u2 u3 u4 u5 v0 v1 v2 v3 v4 v5 c0 c1 c2 c3 c4 c5 c6 r0
                    exact ⟨rfl, (HB23.out : Below V2.heap.size V2 _)⟩
                  · have ez : (R1.errno = 0) = False := eq_false hc
                    clear hc
                    have q_s := refSame_any x x Ex Ey my my cx cy _ HFX23.out HFY23.out
                    rw [sameR_self] at q_s
                    unfold rcV at q_s
                    try simp only at q_s
                    have u0 := Blk.cell HX23.out 0
                    have u1 := Blk.cell HX23.out 1
                    have u2 := Blk.cell HX23.out 2
                    have u3 := Blk.cell HX23.out 3
                    have u4 := Blk.cell HX23.out 4
                    have u5 := Blk.cell HX23.out 5
                    simp only [List.getElem?_toArray, List.getElem?_cons_zero, List.getElem?_cons_succ] at u0 u1 u2 u3 u4 u5
                    have v0 := Blk.cell HY23.out 0
                    have v1 := Blk.cell HY23.out 1
                    have v2 := Blk.cell HY23.out 2
                    have v3 := Blk.cell HY23.out 3
                    have v4 := Blk.cell HY23.out 4
                    have v5 := Blk.cell HY23.out 5
                    simp only [List.getElem?_toArray, List.getElem?_cons_zero, List.getElem?_cons_succ] at v0 v1 v2 v3 v4 v5
                    obtain ⟨c0, c1, c2, c3, c4, c5, c6⟩ := HO23.out.cells
                    try simp only at c0 c1 c2 c3 c4 c5 c6
                    have r0 := Blk.cell HP23.out 0
                    simp only [List.getElem?_toArray, List.getElem?_cons_zero, List.getElem?_cons_succ] at r0
                    go_wp2_with fail
                    ((with_reducible refine q_s.mono ?_); rintro e W10 ⟨rfl, b_⟩)
                    clear u0 u1 u2 u3 u4 u5 v0 v1 v2 v3 v4 v5 c0 c1 c2 c3 c4 c5 c6 r0
                    have h_b := bch HB23.out b_
                    have h_X := HX23.out.below b_
                    have h_Y := HY23.out.below b_
                    have h_O := HO23.out.below b_
                    have h_P := HP23.out.below b_
                    have h_FX := HFX23.out.below b_
                    have h_FY := HFY23.out.below b_
                    have HB24 := Lib.hid h_b; clear h_b
                    have HX24 := Lib.hid h_X; clear h_X
                    have HY24 := Lib.hid h_Y; clear h_Y
                    have HO24 := Lib.hid h_O; clear h_O
                    have HP24 := Lib.hid h_P; clear h_P
                    have HFX24 := Lib.hid h_FX; clear h_FX
                    have HFY24 := Lib.hid h_FY; clear h_FY
                    clear b_
                    clear q_s
                    have u0 := Blk.cell HX24.out 0
                    have u1 := Blk.cell HX24.out 1
                    have u2 := Blk.cell HX24.out 2
                    have u3 := Blk.cell HX24.out 3
                    have u4 := Blk.cell HX24.out 4
                    have u5 := Blk.cell HX24.out 5
                    simp only [List.getElem?_toArray, List.getElem?_cons_zero, List.getElem?_cons_succ] at u0 u1 u2 u3 u4 u5
                    have v0 := Blk.cell HY24.out 0
                    have v1 := Blk.cell HY24.out 1
                    have v2 := Blk.cell HY24.out 2
                    have v3 := Blk.cell HY24.out 3
                    have v4 := Blk.cell HY24.out 4
                    have v5 := Blk.cell HY24.out 5
                    simp only [List.getElem?_toArray, List.getElem?_cons_zero, List.getElem?_cons_succ] at v0 v1 v2 v3 v4 v5
                    obtain ⟨c0, c1, c2, c3, c4, c5, c6⟩ := HO24.out.cells
                    try simp only at c0 c1 c2 c3 c4 c5 c6
                    have r0 := Blk.cell HP24.out 0
                    simp only [List.getElem?_toArray, List.getElem?_cons_zero, List.getElem?_cons_succ] at r0
                    go_wp2_with fail
                    go_meet
                    clear u0 u1 u2 u3 u4 u5 v0 v1 v2 v3 v4 v5 c0 c1 c2 c3 c4 c5 c6 r0
                    exact ⟨rfl, (HB24.out : Below V2.heap.size V2 _)⟩
          obtain ⟨rfl, hbc⟩ := hcut
          obtain ⟨W13, hW13⟩ : ∃ W, W = wc := ⟨_, rfl⟩
          subst hW13
          have h_b := bch HB20.out hbc
          have h_X := HX20.out.below hbc
          have h_Y := HY20.out.below hbc
          have h_O := HO20.out.below hbc
          have h_P := HP20.out.below hbc
          have h_FX := HFX20.out.below hbc
          have h_FY := HFY20.out.below hbc
          have HB21 := Lib.hid h_b; clear h_b
          have HX21 := Lib.hid h_X; clear h_X
          have HY21 := Lib.hid h_Y; clear h_Y
          have HO21 := Lib.hid h_O; clear h_O
          have HP21 := Lib.hid h_P; clear h_P
          have HFX21 := Lib.hid h_FX; clear h_FX
          have HFY21 := Lib.hid h_FY; clear h_FY
          clear hbc
          go_upto_region 15 with fail
          go_cut [154] (fun s wx => s = .bool false ∧ wx = W13)
          case first =>
            have u0 := Blk.cell HX21.out 0
            have u1 := Blk.cell HX21.out 1
            have u2 := Blk.cell HX21.out 2
            have u3 := Blk.cell HX21.out 3
            have u4 := Blk.cell HX21.out 4
            have u5 := Blk.cell HX21.out 5
            simp only [List.getElem?_toArray, List.getElem?_cons_zero, List.getElem?_cons_succ] at u0 u1 u2 u3 u4 u5
            have v0 := Blk.cell HY21.out 0
            have v1 := Blk.cell HY21.out 1
            have v2 := Blk.cell HY21.out 2
            have v3 := Blk.cell HY21.out 3
            have v4 := Blk.cell HY21.out 4
            have v5 := Blk.cell HY21.out 5
            simp only [List.getElem?_toArray, List.getElem?_cons_zero, List.getElem?_cons_succ] at v0 v1 v2 v3 v4 v5
            obtain ⟨c0, c1, c2, c3, c4, c5, c6⟩ := HO21.out.cells
            try simp only at c0 c1 c2 c3 c4 c5 c6
            have r0 := Blk.cell HP21.out 0
            simp only [List.getElem?_toArray, List.getElem?_cons_zero, List.getElem?_cons_succ] at r0
            by_cases hk5 : o.kind = 5
            · have e5 : (o.kind == 5) = true := by simpa using hk5
              as_aux_lemma =>
                go_wp2_with fail
                go_meet
                exact ⟨rfl, rfl⟩
            · have e5 : (o.kind == 5) = false := by simpa using hk5
              as_aux_lemma =>
                go_wp2_with fail
                go_meet
                exact ⟨rfl, rfl⟩
          obtain ⟨rfl, rfl⟩ := hcut
          go_wp2_with fail
          go_roundw
          case rel => exact ⟨a + 1, b + 1, _, rfl, by omega, by omega, by go_num, by go_num, HNX.out, bch HB.out HB21.out⟩
          case measure => simp [intOf]; omega
        · obtain ⟨xk, xv, xr, xl, xn, xe⟩ := x
          obtain ⟨yk, yv, yr, yl, yn, ye⟩ := y
          simp only at hky hko hlen hkn hrv hrx
          subst hky
          subst hrv
          have ek : (xk.toList == xk.toList) = true := tb_eq rfl
          have eko : (xk.toList == o.key.toList) = true := tb_eq hko
          have ez : (R1.errno = 0) = True := eq_true he
          have hwx : IntKind.i64.wrap (xr + 1) = xr + 1 := IntWalk.i64_in _ (by have := hrx; unfold maxN at this; omega)
          have hl1 : decide (xr + 1 < xr) = false := decide_eq_false (by omega)
          have hl2 : decide (xr + 1 < xr + 1) = false := decide_eq_false (by omega)
          have HLEN := Lib.hid hlen; clear hlen
          clear hrx he hko
          rcases hkn with ⟨hk5, hl, hn⟩ | ⟨hk5, hv⟩
          · subst hl
            subst hn
            have HK5 := Lib.hid hk5; clear hk5
            obtain ⟨x0, _, _, _, _, _⟩ := hx
            obtain ⟨y0, _, _, _, _, _⟩ := hy
            go_wp2_with fail
            go_quiet (fail)
            clear x0 y0
            generalize hD : wr.drewN _ = D
            have hbD : Below wr.heap.size wr D := by rw [← hD]; exact bdn (Below.refl _ _) _
            clear hD
            obtain ⟨x0, x1, x2, x3, x4, x5⟩ := HX.out _ hbD
            try simp only at x0 x1 x2 x3 x4 x5
            go_upto_region 12 with fail
            clear x0 x1 x2 x3 x4 x5
            have hb1 := hbD.alloc hbD.size (.cells #[.string xk, .string xv, .int .i64 xr, .int .i64 xl, .string xn, .slice Ex mx cx] 47)
            have hbx := Blk.new D (.cells #[.string xk, .string xv, .int .i64 xr, .int .i64 xl, .string xn, .slice Ex mx cx] 47)
            have hgx := World.size_alloc D (.cells #[.string xk, .string xv, .int .i64 xr, .int .i64 xl, .string xn, .slice Ex mx cx] 47)
            obtain ⟨V1, hV1⟩ : ∃ V, D.alloc (.cells #[.string xk, .string xv, .int .i64 xr, .int .i64 xl, .string xn, .slice Ex mx cx] 47) = V := ⟨_, rfl⟩
            rw [hV1] at hb1 hbx hgx ⊢
            clear hV1
            have HGX := Lib.hid hgx; clear hgx
            have HBX := Lib.hid hbx; clear hbx
            obtain ⟨y0, y1, y2, y3, y4, y5⟩ := HY.out _ hb1
            try simp only at y0 y1 y2 y3 y4 y5
            go_upto_region 13 with fail
            clear y0 y1 y2 y3 y4 y5
            have hb2 := hb1.alloc hb1.size (.cells #[.string xk, .string yv, .int .i64 (xr + 1), .int .i64 xl, .string xn, .slice Ey my cy] 47)
            have hby := Blk.new V1 (.cells #[.string xk, .string yv, .int .i64 (xr + 1), .int .i64 xl, .string xn, .slice Ey my cy] 47)
            have hbx2 := HBX.out.below ((Below.refl _ _).alloc (Nat.le_refl _) (.cells #[.string xk, .string yv, .int .i64 (xr + 1), .int .i64 xl, .string xn, .slice Ey my cy] 47))
            obtain ⟨V2, hV2⟩ : ∃ V, V1.alloc (.cells #[.string xk, .string yv, .int .i64 (xr + 1), .int .i64 xl, .string xn, .slice Ey my cy] 47) = V := ⟨_, rfl⟩
            rw [hV2] at hb2 hby hbx2 ⊢
            clear hV2 hbD hb1
            have HB20 := Lib.hid hb2; clear hb2
            have HX20 := Lib.hid hbx2; clear hbx2
            have HY20 := Lib.hid hby; clear hby
            have HO20 := Lib.hid (HO.out.below HB20.out)
            have HP20 := Lib.hid (Blk.below HP.out HB20.out)
            have HFX20 := Lib.hid (HFX.out.below HB20.out)
            have HFY20 := Lib.hid (HFY.out.below HB20.out)
            clear HX HY HFX HFY HBX
            have hmy : my = mx := by have h1 := HFX20.out.1; have h2 := HFY20.out.1; have h3 := HLEN.out; (try simp only at h1); (try simp only at h2); (try simp only at h3); omega
            subst hmy
            have HBB20 := HB20
            go_cut [101] (fun s wx => s = .bool false ∧ Below V2.heap.size V2 wx)
            case first =>
              as_aux_lemma =>
                have HBV2 : Hid (Below V2.heap.size V2 V2) := Below.refl _ _
                have q_w := kW o HWF.out V2
                rw [hwr] at q_w
                unfold opV at q_w
                have u0 := Blk.cell HX20.out 0
                have u1 := Blk.cell HX20.out 1
                have u2 := Blk.cell HX20.out 2
                have u3 := Blk.cell HX20.out 3
                have u4 := Blk.cell HX20.out 4
                have u5 := Blk.cell HX20.out 5
                simp only [List.getElem?_toArray, List.getElem?_cons_zero, List.getElem?_cons_succ] at u0 u1 u2 u3 u4 u5
                have v0 := Blk.cell HY20.out 0
                have v1 := Blk.cell HY20.out 1
                have v2 := Blk.cell HY20.out 2
                have v3 := Blk.cell HY20.out 3
                have v4 := Blk.cell HY20.out 4
                have v5 := Blk.cell HY20.out 5
                simp only [List.getElem?_toArray, List.getElem?_cons_zero, List.getElem?_cons_succ] at v0 v1 v2 v3 v4 v5
                obtain ⟨c0, c1, c2, c3, c4, c5, c6⟩ := HO20.out.cells
                try simp only at c0 c1 c2 c3 c4 c5 c6
                have r0 := Blk.cell HP20.out 0
                simp only [List.getElem?_toArray, List.getElem?_cons_zero, List.getElem?_cons_succ] at r0
                go_wp2_with fail
                ((with_reducible refine q_w.mono ?_); rintro e W6 ⟨rfl, b_⟩)
                clear u0 u1 u2 u3 u4 u5 v0 v1 v2 v3 v4 v5 c0 c1 c2 c3 c4 c5 c6 r0
                have h_b := bch HBV2.out b_
                have h_X := HX20.out.below b_
                have h_Y := HY20.out.below b_
                have h_O := HO20.out.below b_
                have h_P := HP20.out.below b_
                have h_FX := HFX20.out.below b_
                have h_FY := HFY20.out.below b_
                have HB21 := Lib.hid h_b; clear h_b
                have HX21 := Lib.hid h_X; clear h_X
                have HY21 := Lib.hid h_Y; clear h_Y
                have HO21 := Lib.hid h_O; clear h_O
                have HP21 := Lib.hid h_P; clear h_P
                have HFX21 := Lib.hid h_FX; clear h_FX
                have HFY21 := Lib.hid h_FY; clear h_FY
                clear b_
                clear q_w
                have u0 := Blk.cell HX21.out 0
                have u1 := Blk.cell HX21.out 1
                have u2 := Blk.cell HX21.out 2
                have u3 := Blk.cell HX21.out 3
                have u4 := Blk.cell HX21.out 4
                have u5 := Blk.cell HX21.out 5
                simp only [List.getElem?_toArray, List.getElem?_cons_zero, List.getElem?_cons_succ] at u0 u1 u2 u3 u4 u5
                have v0 := Blk.cell HY21.out 0
                have v1 := Blk.cell HY21.out 1
                have v2 := Blk.cell HY21.out 2
                have v3 := Blk.cell HY21.out 3
                have v4 := Blk.cell HY21.out 4
                have v5 := Blk.cell HY21.out 5
                simp only [List.getElem?_toArray, List.getElem?_cons_zero, List.getElem?_cons_succ] at v0 v1 v2 v3 v4 v5
                obtain ⟨c0, c1, c2, c3, c4, c5, c6⟩ := HO21.out.cells
                try simp only at c0 c1 c2 c3 c4 c5 c6
                have r0 := Blk.cell HP21.out 0
                simp only [List.getElem?_toArray, List.getElem?_cons_zero, List.getElem?_cons_succ] at r0
                go_wp2_with fail
                go_meet
                clear u0 u1 u2 u3 u4 u5 v0 v1 v2 v3 v4 v5 c0 c1 c2 c3 c4 c5 c6 r0
                exact ⟨rfl, (HB21.out : Below V2.heap.size V2 _)⟩
            obtain ⟨rfl, hbc⟩ := hcut
            obtain ⟨W13, hW13⟩ : ∃ W, W = wc := ⟨_, rfl⟩
            subst hW13
            have h_b := bch HB20.out hbc
            have h_X := HX20.out.below hbc
            have h_Y := HY20.out.below hbc
            have h_O := HO20.out.below hbc
            have h_P := HP20.out.below hbc
            have h_FX := HFX20.out.below hbc
            have h_FY := HFY20.out.below hbc
            have HB21 := Lib.hid h_b; clear h_b
            have HX21 := Lib.hid h_X; clear h_X
            have HY21 := Lib.hid h_Y; clear h_Y
            have HO21 := Lib.hid h_O; clear h_O
            have HP21 := Lib.hid h_P; clear h_P
            have HFX21 := Lib.hid h_FX; clear h_FX
            have HFY21 := Lib.hid h_FY; clear h_FY
            clear hbc
            go_upto_region 15 with fail
            go_cut [154] (fun s wx => s = .bool false ∧ wx = W13)
            case first =>
              have u0 := Blk.cell HX21.out 0
              have u1 := Blk.cell HX21.out 1
              have u2 := Blk.cell HX21.out 2
              have u3 := Blk.cell HX21.out 3
              have u4 := Blk.cell HX21.out 4
              have u5 := Blk.cell HX21.out 5
              simp only [List.getElem?_toArray, List.getElem?_cons_zero, List.getElem?_cons_succ] at u0 u1 u2 u3 u4 u5
              have v0 := Blk.cell HY21.out 0
              have v1 := Blk.cell HY21.out 1
              have v2 := Blk.cell HY21.out 2
              have v3 := Blk.cell HY21.out 3
              have v4 := Blk.cell HY21.out 4
              have v5 := Blk.cell HY21.out 5
              simp only [List.getElem?_toArray, List.getElem?_cons_zero, List.getElem?_cons_succ] at v0 v1 v2 v3 v4 v5
              obtain ⟨c0, c1, c2, c3, c4, c5, c6⟩ := HO21.out.cells
              try simp only at c0 c1 c2 c3 c4 c5 c6
              have r0 := Blk.cell HP21.out 0
              simp only [List.getElem?_toArray, List.getElem?_cons_zero, List.getElem?_cons_succ] at r0
              have hk5 := HK5.out
              have e5 : (o.kind == 5) = false := by simpa using hk5
              as_aux_lemma =>
                go_wp2_with fail
                go_meet
                exact ⟨rfl, rfl⟩
            obtain ⟨rfl, rfl⟩ := hcut
            go_wp2_with fail
            go_roundw
            case rel => exact ⟨a + 1, b + 1, _, rfl, by omega, by omega, by go_num, by go_num, HNX.out, bch HB.out HB21.out⟩
            case measure => simp [intOf]; omega
          · subst hv
            have HK5 := Lib.hid hk5; clear hk5
            obtain ⟨x0, _, _, _, _, _⟩ := hx
            obtain ⟨y0, _, _, _, _, _⟩ := hy
            go_wp2_with fail
            go_quiet (fail)
            clear x0 y0
            generalize hD : wr.drewN _ = D
            have hbD : Below wr.heap.size wr D := by rw [← hD]; exact bdn (Below.refl _ _) _
            clear hD
            obtain ⟨x0, x1, x2, x3, x4, x5⟩ := HX.out _ hbD
            try simp only at x0 x1 x2 x3 x4 x5
            go_upto_region 12 with fail
            clear x0 x1 x2 x3 x4 x5
            have hb1 := hbD.alloc hbD.size (.cells #[.string xk, .string xv, .int .i64 xr, .int .i64 xl, .string xn, .slice Ex mx cx] 47)
            have hbx := Blk.new D (.cells #[.string xk, .string xv, .int .i64 xr, .int .i64 xl, .string xn, .slice Ex mx cx] 47)
            have hgx := World.size_alloc D (.cells #[.string xk, .string xv, .int .i64 xr, .int .i64 xl, .string xn, .slice Ex mx cx] 47)
            obtain ⟨V1, hV1⟩ : ∃ V, D.alloc (.cells #[.string xk, .string xv, .int .i64 xr, .int .i64 xl, .string xn, .slice Ex mx cx] 47) = V := ⟨_, rfl⟩
            rw [hV1] at hb1 hbx hgx ⊢
            clear hV1
            have HGX := Lib.hid hgx; clear hgx
            have HBX := Lib.hid hbx; clear hbx
            obtain ⟨y0, y1, y2, y3, y4, y5⟩ := HY.out _ hb1
            try simp only at y0 y1 y2 y3 y4 y5
            go_upto_region 13 with fail
            clear y0 y1 y2 y3 y4 y5
            have hb2 := hb1.alloc hb1.size (.cells #[.string xk, .string xv, .int .i64 (xr + 1), .int .i64 yl, .string yn, .slice Ey my cy] 47)
            have hby := Blk.new V1 (.cells #[.string xk, .string xv, .int .i64 (xr + 1), .int .i64 yl, .string yn, .slice Ey my cy] 47)
            have hbx2 := HBX.out.below ((Below.refl _ _).alloc (Nat.le_refl _) (.cells #[.string xk, .string xv, .int .i64 (xr + 1), .int .i64 yl, .string yn, .slice Ey my cy] 47))
            obtain ⟨V2, hV2⟩ : ∃ V, V1.alloc (.cells #[.string xk, .string xv, .int .i64 (xr + 1), .int .i64 yl, .string yn, .slice Ey my cy] 47) = V := ⟨_, rfl⟩
            rw [hV2] at hb2 hby hbx2 ⊢
            clear hV2 hbD hb1
            have HB20 := Lib.hid hb2; clear hb2
            have HX20 := Lib.hid hbx2; clear hbx2
            have HY20 := Lib.hid hby; clear hby
            have HO20 := Lib.hid (HO.out.below HB20.out)
            have HP20 := Lib.hid (Blk.below HP.out HB20.out)
            have HFX20 := Lib.hid (HFX.out.below HB20.out)
            have HFY20 := Lib.hid (HFY.out.below HB20.out)
            clear HX HY HFX HFY HBX
            have hmy : my = mx := by have h1 := HFX20.out.1; have h2 := HFY20.out.1; have h3 := HLEN.out; (try simp only at h1); (try simp only at h2); (try simp only at h3); omega
            subst hmy
            have HBB20 := HB20
            go_cut [101] (fun s wx => s = .bool false ∧ Below V2.heap.size V2 wx)
            case first =>
              as_aux_lemma =>
                have HBV2 : Hid (Below V2.heap.size V2 V2) := Below.refl _ _
                have q_w := kW o HWF.out V2
                rw [hwr] at q_w
                unfold opV at q_w
                have u0 := Blk.cell HX20.out 0
                have u1 := Blk.cell HX20.out 1
                have u2 := Blk.cell HX20.out 2
                have u3 := Blk.cell HX20.out 3
                have u4 := Blk.cell HX20.out 4
                have u5 := Blk.cell HX20.out 5
                simp only [List.getElem?_toArray, List.getElem?_cons_zero, List.getElem?_cons_succ] at u0 u1 u2 u3 u4 u5
                have v0 := Blk.cell HY20.out 0
                have v1 := Blk.cell HY20.out 1
                have v2 := Blk.cell HY20.out 2
                have v3 := Blk.cell HY20.out 3
                have v4 := Blk.cell HY20.out 4
                have v5 := Blk.cell HY20.out 5
                simp only [List.getElem?_toArray, List.getElem?_cons_zero, List.getElem?_cons_succ] at v0 v1 v2 v3 v4 v5
                obtain ⟨c0, c1, c2, c3, c4, c5, c6⟩ := HO20.out.cells
                try simp only at c0 c1 c2 c3 c4 c5 c6
                have r0 := Blk.cell HP20.out 0
                simp only [List.getElem?_toArray, List.getElem?_cons_zero, List.getElem?_cons_succ] at r0
                go_wp2_with fail
                ((with_reducible refine q_w.mono ?_); rintro e W6 ⟨rfl, b_⟩)
                clear u0 u1 u2 u3 u4 u5 v0 v1 v2 v3 v4 v5 c0 c1 c2 c3 c4 c5 c6 r0
                have h_b := bch HBV2.out b_
                have h_X := HX20.out.below b_
                have h_Y := HY20.out.below b_
                have h_O := HO20.out.below b_
                have h_P := HP20.out.below b_
                have h_FX := HFX20.out.below b_
                have h_FY := HFY20.out.below b_
                have HB21 := Lib.hid h_b; clear h_b
                have HX21 := Lib.hid h_X; clear h_X
                have HY21 := Lib.hid h_Y; clear h_Y
                have HO21 := Lib.hid h_O; clear h_O
                have HP21 := Lib.hid h_P; clear h_P
                have HFX21 := Lib.hid h_FX; clear h_FX
                have HFY21 := Lib.hid h_FY; clear h_FY
                clear b_
                clear q_w
                have u0 := Blk.cell HX21.out 0
                have u1 := Blk.cell HX21.out 1
                have u2 := Blk.cell HX21.out 2
                have u3 := Blk.cell HX21.out 3
                have u4 := Blk.cell HX21.out 4
                have u5 := Blk.cell HX21.out 5
                simp only [List.getElem?_toArray, List.getElem?_cons_zero, List.getElem?_cons_succ] at u0 u1 u2 u3 u4 u5
                have v0 := Blk.cell HY21.out 0
                have v1 := Blk.cell HY21.out 1
                have v2 := Blk.cell HY21.out 2
                have v3 := Blk.cell HY21.out 3
                have v4 := Blk.cell HY21.out 4
                have v5 := Blk.cell HY21.out 5
                simp only [List.getElem?_toArray, List.getElem?_cons_zero, List.getElem?_cons_succ] at v0 v1 v2 v3 v4 v5
                obtain ⟨c0, c1, c2, c3, c4, c5, c6⟩ := HO21.out.cells
                try simp only at c0 c1 c2 c3 c4 c5 c6
                have r0 := Blk.cell HP21.out 0
                simp only [List.getElem?_toArray, List.getElem?_cons_zero, List.getElem?_cons_succ] at r0
                go_wp2_with fail
                go_meet
                clear u0 u1 u2 u3 u4 u5 v0 v1 v2 v3 v4 v5 c0 c1 c2 c3 c4 c5 c6 r0
                exact ⟨rfl, (HB21.out : Below V2.heap.size V2 _)⟩
            obtain ⟨rfl, hbc⟩ := hcut
            obtain ⟨W13, hW13⟩ : ∃ W, W = wc := ⟨_, rfl⟩
            subst hW13
            have h_b := bch HB20.out hbc
            have h_X := HX20.out.below hbc
            have h_Y := HY20.out.below hbc
            have h_O := HO20.out.below hbc
            have h_P := HP20.out.below hbc
            have h_FX := HFX20.out.below hbc
            have h_FY := HFY20.out.below hbc
            have HB21 := Lib.hid h_b; clear h_b
            have HX21 := Lib.hid h_X; clear h_X
            have HY21 := Lib.hid h_Y; clear h_Y
            have HO21 := Lib.hid h_O; clear h_O
            have HP21 := Lib.hid h_P; clear h_P
            have HFX21 := Lib.hid h_FX; clear h_FX
            have HFY21 := Lib.hid h_FY; clear h_FY
            clear hbc
            go_upto_region 15 with fail
            go_cut [154] (fun s wx => s = .bool false ∧ wx = W13)
            case first =>
              have u0 := Blk.cell HX21.out 0
              have u1 := Blk.cell HX21.out 1
              have u2 := Blk.cell HX21.out 2
              have u3 := Blk.cell HX21.out 3
              have u4 := Blk.cell HX21.out 4
              have u5 := Blk.cell HX21.out 5
              simp only [List.getElem?_toArray, List.getElem?_cons_zero, List.getElem?_cons_succ] at u0 u1 u2 u3 u4 u5
              have v0 := Blk.cell HY21.out 0
              have v1 := Blk.cell HY21.out 1
              have v2 := Blk.cell HY21.out 2
              have v3 := Blk.cell HY21.out 3
              have v4 := Blk.cell HY21.out 4
              have v5 := Blk.cell HY21.out 5
              simp only [List.getElem?_toArray, List.getElem?_cons_zero, List.getElem?_cons_succ] at v0 v1 v2 v3 v4 v5
              obtain ⟨c0, c1, c2, c3, c4, c5, c6⟩ := HO21.out.cells
              try simp only at c0 c1 c2 c3 c4 c5 c6
              have r0 := Blk.cell HP21.out 0
              simp only [List.getElem?_toArray, List.getElem?_cons_zero, List.getElem?_cons_succ] at r0
              have hk5 := HK5.out
              have e5 : (o.kind == 5) = true := by simpa using hk5
              as_aux_lemma =>
                go_wp2_with fail
                go_meet
                exact ⟨rfl, rfl⟩
            obtain ⟨rfl, rfl⟩ := hcut
            go_wp2_with fail
            go_roundw
            case rel => exact ⟨a + 1, b + 1, _, rfl, by omega, by omega, by go_num, by go_num, HNX.out, bch HB.out HB21.out⟩
            case measure => simp [intOf]; omega
      · have HNX := Lib.hid hnx; clear hnx
        as_aux_lemma =>
          have h1T := h1
          have h1n : a < nT := by have := HTL.out; omega
          obtain ⟨bT, oT, hAT, hbT⟩ := HTT5.out.block (by omega)
          subst hAT
          obtain ⟨Ex, mx, cx, hx, _, hfx⟩ := HTT5.out.at (i := a) h1T HB.out
          have hai : (a : Int) < (nT : Int) := by omega
          have han : a < nT := by omega
          have hda1 : decide (a < nT) = true := decide_eq_true (by omega)
          have hda2 : decide ((nT : Int) ≤ (a : Int)) = false := decide_eq_false (by omega)
          have hda3 : decide (nT ≤ a) = false := decide_eq_false (by omega)
          have ek := tb_eq hk
          have e3 : (o.kind == 3) = true := by simpa using hkd
          have ez : ((R1.errno : Int) == 0) = true := by simp; omega
          have HKEY := Lib.hid h2; clear h2
          have HK := Lib.hid hk; clear hk
          have HKD := Lib.hid hkd; clear hkd
          have HER := Lib.hid he; clear he
          obtain ⟨c0, c1, c2, c3, c4, c5, c6⟩ := HO.out.cells
          try simp only at c0 c1 c2 c3 c4 c5 c6
          have r0 := Blk.cell HP.out 0
          simp only [List.getElem?_toArray, List.getElem?_cons_zero, List.getElem?_cons_succ] at r0
          by_cases hbc : b < n1
          · have h1U : b < U.length := by have := HUL.out; omega
            obtain ⟨bU, oU, hAU, hbU⟩ := HT15.out.block (by omega)
            subst hAU
            obtain ⟨Ey, my, cy, hy, _, hfy⟩ := HT15.out.at (i := b) h1U HB.out
            have hbi : (b : Int) < (n1 : Int) := by omega
            have hbn : b < n1 := by omega
            have hdb1 : decide (b < n1) = true := decide_eq_true (by omega)
            have hdb2 : decide ((n1 : Int) ≤ (b : Int)) = false := decide_eq_false (by omega)
            have hdb3 : decide (n1 ≤ b) = false := decide_eq_false (by omega)
            have ekk := tb_ne (HKEY.out h1U)
            obtain ⟨x0, _, _, _, _, _⟩ := hx
            obtain ⟨y0, _, _, _, _, _⟩ := hy
            have HRE : Hid (a + 1 ≤ nT) := h1n
            generalize atR T a = x at *
            generalize atR U b = y at *
            clear hfx hfy h1U h1T h1 hbc hcnd
            go_wp2_with fail
            go_quiet (fail)
            go_wp2_with fail
            go_quiet (fail)
            go_wp2_with fail
            go_roundw
            case rel => exact ⟨a + 1, b, _, rfl, by omega, by omega, by go_num, by go_num, HNX.out, by first | exact bdn (bdn (bdn HB.out _) _) _ | exact bdn (bdn HB.out _) _ | exact bdn HB.out _ | exact HB.out⟩
            case measure => simp [intOf]; omega
          · have hbi : ¬ ((b : Int) < (n1 : Int)) := by omega
            have hdb1 : decide (b < n1) = false := decide_eq_false (by omega)
            have hdb2 : decide ((b : Int) < (n1 : Int)) = false := decide_eq_false (by omega)
            obtain ⟨x0, _, _, _, _, _⟩ := hx
            generalize atR T a = x at *
            clear hfx h1T h1 hbc hcnd
            go_wp2_with fail
            go_quiet (fail)
            go_wp2_with fail
            go_quiet (fail)
            go_wp2_with fail
            go_roundw
            case rel => exact ⟨a + 1, b, _, rfl, by omega, by omega, by go_num, by go_num, HNX.out, by first | exact bdn (bdn (bdn HB.out _) _) _ | exact bdn (bdn HB.out _) _ | exact bdn HB.out _ | exact HB.out⟩
            case measure => simp [intOf]; omega
      · have HNX := Lib.hid hnx; clear hnx
        as_aux_lemma =>
          have h1U := h1
          have h1n : b < n1 := by have := HUL.out; omega
          obtain ⟨bU, oU, hAU, hbU⟩ := HT15.out.block (by omega)
          subst hAU
          obtain ⟨Ey, my, cy, hy, _, hfy⟩ := HT15.out.at (i := b) h1U HB.out
          have hbi : (b : Int) < (n1 : Int) := by omega
          have hbn : b < n1 := by omega
          have hdb1 : decide (b < n1) = true := decide_eq_true (by omega)
          have hdb2 : decide ((n1 : Int) ≤ (b : Int)) = false := decide_eq_false (by omega)
          have hdb3 : decide (n1 ≤ b) = false := decide_eq_false (by omega)
          have ek := tb_eq hk
          have ez : ((R1.errno : Int) == 0) = true := by simp; omega
          obtain ⟨y0, _, y2, _, _, _⟩ := hy
          rw [hrv] at y2
          have HKEY := Lib.hid h2; clear h2
          have HK := Lib.hid hk; clear hk
          have HER := Lib.hid he; clear he
          have HKD := Lib.hid hkd; clear hkd
          clear hrv
          obtain ⟨c0, c1, c2, c3, c4, c5, c6⟩ := HO.out.cells
          try simp only at c0 c1 c2 c3 c4 c5 c6
          have r0 := Blk.cell HP.out 0
          simp only [List.getElem?_toArray, List.getElem?_cons_zero, List.getElem?_cons_succ] at r0
          by_cases hac : a < nT
          · have h1T : a < T.length := by have := HTL.out; omega
            obtain ⟨bT, oT, hAT, hbT⟩ := HTT5.out.block (by omega)
            subst hAT
            obtain ⟨Ex, mx, cx, hx, _, hfx⟩ := HTT5.out.at (i := a) h1T HB.out
            have hai : (a : Int) < (nT : Int) := by omega
            have han : a < nT := by omega
            have hda1 : decide (a < nT) = true := decide_eq_true (by omega)
            have hda2 : decide ((nT : Int) ≤ (a : Int)) = false := decide_eq_false (by omega)
            have hda3 : decide (nT ≤ a) = false := decide_eq_false (by omega)
            have ekk := tb_ne (HKEY.out h1T).1
            have eko := tb_ne (HKEY.out h1T).2
            obtain ⟨x0, _, _, _, _, _⟩ := hx
            generalize atR T a = x at *
            generalize atR U b = y at *
            clear hfx hfy h1U h1T h1 hac hcnd
            rcases HKD.out with hkd | hkd
            · have e2 : (o.kind == 2) = true := by simpa using hkd
              clear hkd
              go_wp2_with fail
              go_quiet (fail)
              go_wp2_with fail
              go_quiet (fail)
              go_wp2_with fail
              go_quiet (fail)
              go_wp2_with fail
              go_roundw
              case rel => exact ⟨a, b + 1, _, rfl, by omega, by omega, by go_num, by go_num, HNX.out, by first | exact bdn (bdn (bdn HB.out _) _) _ | exact bdn (bdn HB.out _) _ | exact bdn HB.out _ | exact HB.out⟩
              case measure => simp [intOf]; omega
            · have e2 : (o.kind == 2) = false := by simp; omega
              have e4 : (o.kind == 4) = true := by simpa using hkd
              clear hkd
              go_wp2_with fail
              go_quiet (fail)
              go_wp2_with fail
              go_quiet (fail)
              go_wp2_with fail
              go_quiet (fail)
              go_wp2_with fail
              go_roundw
              case rel => exact ⟨a, b + 1, _, rfl, by omega, by omega, by go_num, by go_num, HNX.out, by first | exact bdn (bdn (bdn HB.out _) _) _ | exact bdn (bdn HB.out _) _ | exact bdn HB.out _ | exact HB.out⟩
              case measure => simp [intOf]; omega
          · have hai : ¬ ((a : Int) < (nT : Int)) := by omega
            have hda1 : decide (a < nT) = false := decide_eq_false (by omega)
            have hda2 : decide ((a : Int) < (nT : Int)) = false := decide_eq_false (by omega)
            generalize atR U b = y at *
            clear hfy h1U h1 hac hcnd
            rcases HKD.out with hkd | hkd
            · have e2 : (o.kind == 2) = true := by simpa using hkd
              clear hkd
              go_wp2_with fail
              go_quiet (fail)
              go_wp2_with fail
              go_quiet (fail)
              go_wp2_with fail
              go_quiet (fail)
              go_wp2_with fail
              go_roundw
              case rel => exact ⟨a, b + 1, _, rfl, by omega, by omega, by go_num, by go_num, HNX.out, by first | exact bdn (bdn (bdn HB.out _) _) _ | exact bdn (bdn HB.out _) _ | exact bdn HB.out _ | exact HB.out⟩
              case measure => simp [intOf]; omega
            · have e2 : (o.kind == 2) = false := by simp; omega
              have e4 : (o.kind == 4) = true := by simpa using hkd
              clear hkd
              go_wp2_with fail
              go_quiet (fail)
              go_wp2_with fail
              go_quiet (fail)
              go_wp2_with fail
              go_quiet (fail)
              go_wp2_with fail
              go_roundw
              case rel => exact ⟨a, b + 1, _, rfl, by omega, by omega, by go_num, by go_num, HNX.out, by first | exact bdn (bdn (bdn HB.out _) _) _ | exact bdn (bdn HB.out _) _ | exact bdn HB.out _ | exact HB.out⟩
              case measure => simp [intOf]; omega
    · have hai : ¬ ((a : Int) < (nT : Int)) := by omega
      have hbi : ¬ ((b : Int) < (n1 : Int)) := by omega
      clear hcnd
      go_wp2_with fail
      go_ret
      exact ⟨rfl, bch HB5.out HB.out⟩
end Go.Proofs.Ytpnkkiokkhmjpaa
