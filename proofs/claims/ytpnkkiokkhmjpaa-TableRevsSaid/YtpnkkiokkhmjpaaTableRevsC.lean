import Derived.Test.YtpnkkiokkhmjpaaTabLaw
import Derived.Test.YtpnkkiokkhmjpaaTabLawMath
/-
  The walk of the law TableRevs, over what is asked of the program (stage 12).
-/
namespace Go.Proofs.Ytpnkkiokkhmjpaa
open Go.RowKit
set_option linter.unusedVariables false
set_option linter.unusedSimpArgs false

def KB : ByteArray := ⟨#[107]⟩
/-- What one key may have: nothing, or a record of that rev. -/
def HasK (x : Option Rcd) (ρ : Int) : Prop := (x = none ∧ ρ = 0) ∨ ∃ r, x = some r ∧ r.key = KB ∧ r.rev = ρ ∧ 0 < ρ
/-- A table of one key, at most. -/
def OneK (T : List Rcd) (ρ : Int) : Prop := (T = [] ∧ ρ = 0) ∨ ∃ r, T = [r] ∧ r.key = KB ∧ r.rev = ρ ∧ 0 < ρ
theorem one_look {T : List Rcd} {ρ : Int} (h : OneK T ρ) : ∃ x, (∀ q, lookT T q = if q = KB then x else none) ∧ HasK x ρ := by
  rcases h with ⟨rfl, h0⟩ | ⟨r, rfl, hk, hr, hp⟩
  · exact ⟨none, fun q => by simp [lookT], .inl ⟨rfl, h0⟩⟩
  · refine ⟨some r, fun q => ?_, .inr ⟨r, rfl, hk, hr, hp⟩⟩
    by_cases e : q = KB
    · rw [if_pos e]; simp [lookT, hk, e]
    · rw [if_neg e]; simp [lookT, hk]; exact fun h => e h.symm
theorem one_of {U : List Rcd} {ρ : Int} {x : Option Rcd} (h : RightT U) (hl : ∀ q, lookT U q = if q = KB then x else none) (hx : HasK x ρ) : OneK U ρ := by
  rcases hx with ⟨rfl, h0⟩ | ⟨r, rfl, hk, hr, hp⟩
  · refine .inl ⟨look_ext h.rise List.Pairwise.nil fun q => ?_, h0⟩
    rw [hl]; simp [lookT]
  · refine .inr ⟨r, look_ext h.rise (List.pairwise_singleton _ _) fun q => ?_, hk, hr, hp⟩
    rw [hl]
    by_cases e : q = KB
    · rw [if_pos e]; simp [lookT, hk, e]
    · rw [if_neg e]; simp [lookT, hk]; exact fun h => e h.symm
/-- What comes of one op of the key. -/
def RevCase (k : Int) (x : Nat) (ρ ρa ρ2 : Int) : Prop :=
  (x = 70 ∧ ρ = 0 ∧ ρ2 = 0) ∨ (x = 71 ∧ ρ2 = ρ) ∨ (x = 0 ∧ k = 3 ∧ ρa = ρ ∧ ρ2 = 0) ∨ (x = 0 ∧ k = 1 ∧ ρa = ρ ∧ ρ2 = ρ) ∨ (x = 0 ∧ k = 6 ∧ ρ2 = ρ) ∨ (x = 0 ∧ (k = 2 ∨ k = 4 ∨ k = 5) ∧ ρa = ρ + 1 ∧ ρ2 = ρ + 1)
theorem put_revs {x : Option Rcd} {ρ : Int} (h : HasK x ρ) (h30 : 0 ≤ ρ ∧ ρ ≤ 30) {o : OpR} (hk : o.key = KB) :
    ∃ y v ks, putF x o = (y, ⟨0, ρ + 1, v, ks⟩) ∧ HasK y (ρ + 1) := by
  rcases h with ⟨rfl, h0⟩ | ⟨r, rfl, hr1, hr2, hp⟩
  · subst h0
    exact ⟨_, _, _, rfl, .inr ⟨newR o, rfl, hk, rfl, by omega⟩⟩
  · unfold putF
    simp only
    rw [if_neg (by unfold maxN; omega), hr2]
    exact ⟨_, _, _, rfl, .inr ⟨putR r o, rfl, hr1, by show r.rev + 1 = _; omega, by omega⟩⟩
theorem key_revs {x : Option Rcd} {ρ : Int} (h : HasK x ρ) (h30 : 0 ≤ ρ ∧ ρ ≤ 30) {o : OpR} (hk : o.key = KB) (hkd : 1 ≤ o.kind ∧ o.kind ≤ 5) :
    ∃ y e ρa v ks ρ2, keyF x o = (y, ⟨e, ρa, v, ks⟩) ∧ HasK y ρ2 ∧ (0 ≤ ρ2 ∧ ρ2 ≤ ρ + 1) ∧ RevCase o.kind e ρ ρa ρ2 := by
  have hrv : revF x = ρ := by
    rcases h with ⟨rfl, h0⟩ | ⟨r, rfl, _, hr2, _⟩
    · exact h0.symm
    · exact hr2
  obtain ⟨y, v, ks, hput, hy⟩ := put_revs h h30 hk
  unfold keyF
  by_cases h2 : o.kind = 2
  · rw [if_pos h2, hput]
    exact ⟨_, _, _, _, _, ρ + 1, rfl, hy, ⟨by omega, by omega⟩, by unfold RevCase; omega⟩
  rw [if_neg h2]
  by_cases h4 : o.kind = 4
  · rw [if_pos h4, hrv]
    by_cases hr : ρ ≠ o.rev
    · rw [if_pos hr]
      exact ⟨_, _, _, _, _, ρ, rfl, h, ⟨by omega, by omega⟩, by unfold RevCase; omega⟩
    · rw [if_neg hr, hput]
      exact ⟨_, _, _, _, _, ρ + 1, rfl, hy, ⟨by omega, by omega⟩, by unfold RevCase; omega⟩
  rw [if_neg h4]
  rcases h with ⟨rfl, h0⟩ | ⟨r, rfl, hr1, hr2, hp⟩
  · exact ⟨_, _, _, _, _, 0, rfl, .inl ⟨rfl, rfl⟩, ⟨by omega, by omega⟩, .inl ⟨rfl, h0, rfl⟩⟩
  · simp only
    by_cases h1 : o.kind = 1
    · rw [if_pos h1, hr2]
      exact ⟨_, _, _, _, _, ρ, rfl, .inr ⟨r, rfl, hr1, hr2, hp⟩, ⟨by omega, by omega⟩, by unfold RevCase; omega⟩
    rw [if_neg h1]
    by_cases h3 : o.kind = 3
    · rw [if_pos h3, hr2]
      exact ⟨_, _, _, _, _, 0, rfl, .inl ⟨rfl, rfl⟩, ⟨by omega, by omega⟩, by unfold RevCase; omega⟩
    rw [if_neg h3, if_neg (by unfold maxN; omega), hr2]
    exact ⟨_, _, _, _, _, ρ + 1, rfl, .inr ⟨markR r o, rfl, hr1, by show r.rev + 1 = _; omega, by omega⟩, ⟨by omega, by omega⟩, by unfold RevCase; omega⟩
theorem revs_math {T : List Rcd} {ρ : Int} (h : RightT T) (h1 : OneK T ρ) (h30 : 0 ≤ ρ ∧ ρ ≤ 30) {o : OpR} (hc : checkO 2 o = 0) (hk : o.key = KB) :
    ∃ U x ρa v ks ρ2, doT T o = (U, ⟨x, ρa, v, ks⟩) ∧ RightT U ∧ OneK U ρ2 ∧ (0 ≤ ρ2 ∧ ρ2 ≤ ρ + 1) ∧ RevCase o.kind x ρ ρa ρ2 := by
  have hkd := (op_ok hc).1
  by_cases h6 : o.kind = 6
  · rw [doT_ok ⟨h, hc⟩, if_pos h6]
    exact ⟨_, _, _, _, _, ρ, rfl, h, h1, ⟨by omega, by omega⟩, by unfold RevCase; omega⟩
  · have hlen : T.length ≤ 19 := by
      rcases h1 with ⟨rfl, _⟩ | ⟨r, rfl, _⟩ <;> simp
    obtain ⟨x, hl, hx⟩ := one_look h1
    obtain ⟨e1, e2⟩ := do_eff h hc h6 (.inl hlen)
    have hx0 : lookT T o.key = x := by rw [hl, if_pos hk]
    rw [hx0] at e1 e2
    obtain ⟨y, e, ρa, v, ks, ρ2, ek, hy, hb, hcase⟩ := key_revs hx h30 hk ⟨hkd.1, by omega⟩
    rw [ek] at e1 e2
    refine ⟨(doT T o).1, e, ρa, v, ks, ρ2, Prod.ext rfl e1, e2.1, one_of e2.1 (x := y) (fun q => ?_) hy, hb, hcase⟩
    rw [e2.2.2, hk]
    by_cases eq : q = KB
    · rw [if_pos eq, if_pos eq]
    · rw [if_neg eq, if_neg eq, hl, if_neg eq]
theorem revs_wf (a : Nat → Int) : OpWf ⟨(opR a).kind, ⟨#[107]⟩, (opR a).value, (opR a).rev, (opR a).upto, (opR a).life, (opR a).note⟩ := by
  obtain ⟨h1, _, h3, h4, h5, h6, h7⟩ := opR_wf a
  exact ⟨h1, by show (1 : Nat) ≤ _; omega, h3, h4, h5, h6, h7⟩
theorem revs_ok (a : Nat → Int) : checkO 2 ⟨(opR a).kind, ⟨#[107]⟩, (opR a).value, (opR a).rev, (opR a).upto, (opR a).life, (opR a).note⟩ = 0 := by
  obtain ⟨h1, h2, h3, h4, h5, h6, h7, h8⟩ := opR_bounds a
  have hs : (⟨#[107]⟩ : ByteArray).size = 1 := rfl
  unfold checkO
  rw [if_neg, if_neg (by omega)]
  unfold BadO maxN
  intro h
  rcases h with h | h | h | h | h | h | h | h | h | h | h | h
  · exact h (.inr rfl)
  all_goals first | omega | (simp only at h; omega)
set_option maxRecDepth 100000 in
set_option maxHeartbeats 8000000 in
theorem tableRevs_core (kH : CheckT) (kW : WritesT) (kR : RightQT) (kS : SameQT) (kD : DoT) (a0 : Option Addr) (n0 cap0 : Nat) (f : Nat → Nat → Int) (w : World) (h0 : IsRaw w a0 n0 5 f) :
    Calls Try.prog 10 #[.slice a0 n0 cap0] w fun e w' => e = .returned (.bool true) ∧ Below w.heap.size w w' := by
  have hn9 := h0.1
  have HC := Lib.hid h0.2; clear h0
  go_enter Try.func10, Try.ntmps10
  have q_aw := fun W => awakeT_any kH kW kR kS kD W
  go_wp2_with fail
  ((with_reducible refine (q_aw _).mono ?_); rintro e W1 ⟨rfl, b_⟩)
  have h_b := b_
  have HB1 := Lib.hid h_b; clear h_b
  clear b_
  clear q_aw
  go_wp2_with fail
  go_loopw [4, 5, 6] (fun t' r' i' wy => ∃ (k : Nat) (wr : World) (A : Option Addr) (m cap : Nat) (T : List Rcd) (ρ : Int), wr = wy ∧ k ≤ n0 ∧ k ≤ 30 ∧ t' = .slice A m cap ∧ r' = .int .i64 ρ ∧ i' = .int .i64 k ∧ m ≤ cap ∧ IsTs wr A m T ∧ RightT T ∧ OneK T ρ ∧ (0 ≤ ρ ∧ ρ ≤ k) ∧ Below w.heap.size w wr) (fun _ _ i _ => n0 - (intOf i).toNat)
  case atStart => exact ⟨0, _, none, 0, 0, [], 0, rfl, by omega, by omega, rfl, rfl, rfl, by omega, isTs_nil _ _, right_nil, .inl ⟨rfl, rfl⟩, ⟨by omega, by omega⟩, HB1.out⟩
  case round =>
    obtain ⟨k, wr, A, m, cap, T, ρ, rfl, hk, hk30, rfl, rfl, rfl, hcapT, hts, hRT, hone, hρ, hb⟩ := hrel
    have hnT : m ≤ 20 := ts_len hts hRT
    have HTS := Lib.hid hts; clear hts
    have HRT := Lib.hid hRT; clear hRT
    have HONE := Lib.hid hone; clear hone
    have HB := Lib.hid hb; clear hb
    by_cases hcnd : k < n0 ∧ k < 30
    · obtain ⟨hlt, h40⟩ := hcnd
      obtain ⟨b, off, hA, hbb, hc⟩ := HC.out (by omega)
      subst hA
      have z0 := hc k 0 hlt (by omega)
      rw [Nat.add_zero] at z0
      have z1 := hc k 1 hlt (by omega)
      have z2 := hc k 2 hlt (by omega)
      have z3 := hc k 3 hlt (by omega)
      have z4 := hc k 4 hlt (by omega)
      have ha : ∀ j, j < 5 → (Lit.int .i64 (f k j)).wf = true := fun j hj => (hc k j hlt hj).2
      have x0 := (HB.out.cell (p := ⟨b, off + k * 5, none⟩) hbb).trans z0.1
      have x1 := (HB.out.cell (p := ⟨b, off + k * 5 + 1, none⟩) hbb).trans z1.1
      have x2 := (HB.out.cell (p := ⟨b, off + k * 5 + 2, none⟩) hbb).trans z2.1
      have x3 := (HB.out.cell (p := ⟨b, off + k * 5 + 3, none⟩) hbb).trans z3.1
      have x4 := (HB.out.cell (p := ⟨b, off + k * 5 + 4, none⟩) hbb).trans z4.1
      have qo := op_any (f k) ha wr
      have HWF := Lib.hid (revs_wf (f k))
      have HOK := Lib.hid (revs_ok (f k))
      unfold fiveV at qo
      generalize opR (f k) = o at *
      unfold opV at qo
      obtain ⟨U, x, ρa, va, ks, ρ2, hdo, hrU, h1U, hb2, hcase⟩ := revs_math HRT.out HONE.out ⟨hρ.1, by omega⟩ HOK.out rfl
      have HDO := Lib.hid hdo; clear hdo
      have HRU := Lib.hid hrU; clear hrU
      have HON2 := Lib.hid h1U; clear h1U
      have HR2 := Lib.hid hb2; clear hb2
      have HCA := Lib.hid hcase; clear hcase
      have HR := Lib.hid hρ; clear hρ
      have hki : (k : Int) < (n0 : Int) := by omega
      have hk4 : (k : Int) < 30 := by omega
      have hk0 : (0 : Int) ≤ (k : Int) := by omega
      clear hc z0 z1 z2 z3 z4 ha
      go_wp2_with fail
      ((with_reducible refine qo.mono ?_); rintro e W2 ⟨rfl, b_⟩)
      clear qo x0 x1 x2 x3 x4
      go_upto_region 8 with fail
      have bX : Below wr.heap.size wr (W2.alloc (.cells #[.int .i64 o.kind, .string o.key, .string o.value, .int .i64 o.rev, .string o.upto, .int .i64 o.life, .string o.note] 26)) := b_.alloc b_.size _
      have gX := OpBlk.new W2 o
      obtain ⟨V2, hV2⟩ : ∃ W, W2.alloc (.cells #[.int .i64 o.kind, .string o.key, .string o.value, .int .i64 o.rev, .string o.upto, .int .i64 o.life, .string o.note] 26) = W := ⟨_, rfl⟩
      rw [hV2] at bX gX ⊢
      clear hV2
      have hs := b_.size
      obtain ⟨c0, c1, c2, c3, c4, c5, c6⟩ := gX.cells
      try simp only at c0 c1 c2 c3 c4 c5 c6
      have fz := OpBlk.frozen gX 1
      have hsg : OpBlk (V2.setCell ⟨W2.heap.size, 1, none⟩ (.string ⟨#[107]⟩)) W2.heap.size (⟨o.kind, ⟨#[107]⟩, o.value, o.rev, o.upto, o.life, o.note⟩ : OpR) := Blk.set gX 1 (.string ⟨#[107]⟩) _ rfl
      have hsb := bX.setCell (p := ⟨W2.heap.size, 1, none⟩) hs (.string ⟨#[107]⟩)
      have HSG := Lib.hid hsg; clear hsg
      have HSB := Lib.hid hsb; clear hsb
      clear gX bX b_ hs
      go_upto_region 9 with fail
      clear c0 c1 c2 c3 c4 c5 c6 fz
      obtain ⟨V3, hV3⟩ : ∃ V, V2.setCell ⟨W2.heap.size, 1, none⟩ (.string ⟨#[107]⟩) = V := ⟨_, rfl⟩
      rw [hV3] at HSG HSB ⊢
      clear hV3
      have HB3 := Lib.hid (bch HB.out HSB.out)
      have HTS3 := Lib.hid (HTS.out.below HSB.out)
      clear HB HTS HSB
      obtain ⟨d0, d1, d2, d3, d4, d5, d6⟩ := HSG.out.cells
      try simp only at d0 d1 d2 d3 d4 d5 d6
      have q_do := do_at kD HDO.out x rfl HWF.out hcapT HTS3.out hnT
      go_wp2_with fail
      ((with_reducible refine q_do.mono ?_); rintro e W5 ⟨A1, n1, cap1, K1, k1, kc1, rfl, hcap1, ht_, hkc1, hs_, b_⟩)
      clear d0 d1 d2 d3 d4 d5 d6
      go_upto_region 10 with fail
      have h_b := (bch HB3.out b_).alloc (bch HB3.out b_).size (.cells #[.int .i64 (x : Int), .int .i64 ρa, .string va, .slice K1 k1 kc1] 37)
      have h_O := (HSG.out.below b_).below ((Below.refl _ _).alloc (Nat.le_refl _) (.cells #[.int .i64 (x : Int), .int .i64 ρa, .string va, .slice K1 k1 kc1] 37))
      have h_T1 := IsTs.below ht_ ((Below.refl _ _).alloc (Nat.le_refl _) (.cells #[.int .i64 (x : Int), .int .i64 ρa, .string va, .slice K1 k1 kc1] 37))
      have h_P1 := Blk.new W5 (.cells #[.int .i64 (x : Int), .int .i64 ρa, .string va, .slice K1 k1 kc1] 37)
      obtain ⟨V_W5, hV_⟩ : ∃ W, W5.alloc (.cells #[.int .i64 (x : Int), .int .i64 ρa, .string va, .slice K1 k1 kc1] 37) = W := ⟨_, rfl⟩
      rw [hV_] at h_b h_O h_T1 h_P1 ⊢
      clear hV_
      have HB4 := Lib.hid h_b; clear h_b
      have HO4 := Lib.hid h_O; clear h_O
      have HT14 := Lib.hid h_T1; clear h_T1
      have HP14 := Lib.hid h_P1; clear h_P1
      clear b_ ht_ hs_ q_do
      obtain ⟨d0, d1, d2, d3, d4, d5, d6⟩ := HO4.out.cells
      try simp only at d0 d1 d2 d3 d4 d5 d6
      clear d1 d2 d3 d4 d5 d6
      rcases HCA.out with ⟨rfl, hr0, hr2⟩ | ⟨rfl, hr2⟩ | ⟨rfl, hkd, hra, hr2⟩ | ⟨rfl, hkd, hra, hr2⟩ | ⟨rfl, hkd, hr2⟩ | ⟨rfl, hkd, hra, hr2⟩
      · subst hr0
        subst hr2
        have r0 := Blk.cell HP14.out 0
        have r1 := Blk.cell HP14.out 1
        simp only [List.getElem?_toArray, List.getElem?_cons_zero, List.getElem?_cons_succ] at r0 r1
        have HV := HON2.out
        rcases HV with ⟨hU, hz⟩ | ⟨r, hU, _, hr, hpos⟩
        · have hn1 : n1 = 0 := by have h := HT14.out.1; rw [hU] at h; exact h
          subst hn1
          clear hU
          go_wp2_with fail
          go_roundw
          case rel => exact ⟨k + 1, _, _, _, _, U, 0, rfl, by omega, by omega, rfl, rfl, by go_num, hcap1, HT14.out, HRU.out, HON2.out, by have := HR2.out; have := HR.out; exact ⟨by omega, by omega⟩, HB4.out⟩
          case measure => simp [intOf]; omega
        · exfalso; omega
      · subst hr2
        have r0 := Blk.cell HP14.out 0
        have r1 := Blk.cell HP14.out 1
        simp only [List.getElem?_toArray, List.getElem?_cons_zero, List.getElem?_cons_succ] at r0 r1
        have HV := HON2.out
        rcases HV with ⟨hU, hz⟩ | ⟨r, hU, _, hr, hpos⟩
        · subst hz
          have hn1 : n1 = 0 := by have h := HT14.out.1; rw [hU] at h; exact h
          subst hn1
          clear hU
          go_wp2_with fail
          go_roundw
          case rel => exact ⟨k + 1, _, _, _, _, U, 0, rfl, by omega, by omega, rfl, rfl, by go_num, hcap1, HT14.out, HRU.out, HON2.out, by have := HR2.out; have := HR.out; exact ⟨by omega, by omega⟩, HB4.out⟩
          case measure => simp [intOf]; omega
        · have hn1 : n1 = 1 := by have h := HT14.out.1; rw [hU] at h; exact h
          subst hn1
          obtain ⟨b1, o1, hA1, hlt1⟩ := HT14.out.block (by omega)
          subst hA1
          obtain ⟨E1, m1, cE, hat, _, _⟩ := HT14.out.at (i := 0) (by rw [hU]; show 0 < 1; omega) (Below.refl _ _)
          rw [hU] at hat
          have hat2 : RcAt V_W5 b1 o1 r (.slice E1 m1 cE) := by have h : RcAt V_W5 b1 (o1 + 0 * 6) r (.slice E1 m1 cE) := hat; rw [Nat.zero_mul, Nat.add_zero] at h; exact h
          obtain ⟨_, _, y2, _, _, _⟩ := hat2
          rw [hr] at y2
          clear hat hlt1
          have hpd : decide ((0 : Int) < ρ2) = true := decide_eq_true hpos
          clear hU
          go_wp2_with fail
          go_roundw
          case rel => exact ⟨k + 1, _, _, _, _, U, ρ2, rfl, by omega, by omega, rfl, rfl, by go_num, hcap1, HT14.out, HRU.out, HON2.out, by have := HR2.out; have := HR.out; exact ⟨by omega, by omega⟩, HB4.out⟩
          case measure => simp [intOf]; omega
      · subst hra
        subst hr2
        have r0 := Blk.cell HP14.out 0
        have r1 := Blk.cell HP14.out 1
        simp only [List.getElem?_toArray, List.getElem?_cons_zero, List.getElem?_cons_succ] at r0 r1
        have e3 : (o.kind == 3) = true := by simpa using hkd
        have HV := HON2.out
        rcases HV with ⟨hU, hz⟩ | ⟨r, hU, _, hr, hpos⟩
        · have hn1 : n1 = 0 := by have h := HT14.out.1; rw [hU] at h; exact h
          subst hn1
          clear hU
          go_wp2_with fail
          go_roundw
          case rel => exact ⟨k + 1, _, _, _, _, U, 0, rfl, by omega, by omega, rfl, rfl, by go_num, hcap1, HT14.out, HRU.out, HON2.out, by have := HR2.out; have := HR.out; exact ⟨by omega, by omega⟩, HB4.out⟩
          case measure => simp [intOf]; omega
        · exfalso; omega
      · subst hra
        subst hr2
        have r0 := Blk.cell HP14.out 0
        have r1 := Blk.cell HP14.out 1
        simp only [List.getElem?_toArray, List.getElem?_cons_zero, List.getElem?_cons_succ] at r0 r1
        have e3 : (o.kind == 3) = false := by simp; omega
        have e1 : (o.kind == 1) = true := by simpa using hkd
        have HV := HON2.out
        rcases HV with ⟨hU, hz⟩ | ⟨r, hU, _, hr, hpos⟩
        · subst hz
          have hn1 : n1 = 0 := by have h := HT14.out.1; rw [hU] at h; exact h
          subst hn1
          clear hU
          go_wp2_with fail
          go_roundw
          case rel => exact ⟨k + 1, _, _, _, _, U, 0, rfl, by omega, by omega, rfl, rfl, by go_num, hcap1, HT14.out, HRU.out, HON2.out, by have := HR2.out; have := HR.out; exact ⟨by omega, by omega⟩, HB4.out⟩
          case measure => simp [intOf]; omega
        · have hn1 : n1 = 1 := by have h := HT14.out.1; rw [hU] at h; exact h
          subst hn1
          obtain ⟨b1, o1, hA1, hlt1⟩ := HT14.out.block (by omega)
          subst hA1
          obtain ⟨E1, m1, cE, hat, _, _⟩ := HT14.out.at (i := 0) (by rw [hU]; show 0 < 1; omega) (Below.refl _ _)
          rw [hU] at hat
          have hat2 : RcAt V_W5 b1 o1 r (.slice E1 m1 cE) := by have h : RcAt V_W5 b1 (o1 + 0 * 6) r (.slice E1 m1 cE) := hat; rw [Nat.zero_mul, Nat.add_zero] at h; exact h
          obtain ⟨_, _, y2, _, _, _⟩ := hat2
          rw [hr] at y2
          clear hat hlt1
          have hpd : decide ((0 : Int) < ρ2) = true := decide_eq_true hpos
          clear hU
          go_wp2_with fail
          go_roundw
          case rel => exact ⟨k + 1, _, _, _, _, U, ρ2, rfl, by omega, by omega, rfl, rfl, by go_num, hcap1, HT14.out, HRU.out, HON2.out, by have := HR2.out; have := HR.out; exact ⟨by omega, by omega⟩, HB4.out⟩
          case measure => simp [intOf]; omega
      · subst hr2
        have r0 := Blk.cell HP14.out 0
        have r1 := Blk.cell HP14.out 1
        simp only [List.getElem?_toArray, List.getElem?_cons_zero, List.getElem?_cons_succ] at r0 r1
        have e3 : (o.kind == 3) = false := by simp; omega
        have e1 : (o.kind == 1) = false := by simp; omega
        have e6 : (o.kind == 6) = true := by simpa using hkd
        have HV := HON2.out
        rcases HV with ⟨hU, hz⟩ | ⟨r, hU, _, hr, hpos⟩
        · subst hz
          have hn1 : n1 = 0 := by have h := HT14.out.1; rw [hU] at h; exact h
          subst hn1
          clear hU
          go_wp2_with fail
          go_roundw
          case rel => exact ⟨k + 1, _, _, _, _, U, 0, rfl, by omega, by omega, rfl, rfl, by go_num, hcap1, HT14.out, HRU.out, HON2.out, by have := HR2.out; have := HR.out; exact ⟨by omega, by omega⟩, HB4.out⟩
          case measure => simp [intOf]; omega
        · have hn1 : n1 = 1 := by have h := HT14.out.1; rw [hU] at h; exact h
          subst hn1
          obtain ⟨b1, o1, hA1, hlt1⟩ := HT14.out.block (by omega)
          subst hA1
          obtain ⟨E1, m1, cE, hat, _, _⟩ := HT14.out.at (i := 0) (by rw [hU]; show 0 < 1; omega) (Below.refl _ _)
          rw [hU] at hat
          have hat2 : RcAt V_W5 b1 o1 r (.slice E1 m1 cE) := by have h : RcAt V_W5 b1 (o1 + 0 * 6) r (.slice E1 m1 cE) := hat; rw [Nat.zero_mul, Nat.add_zero] at h; exact h
          obtain ⟨_, _, y2, _, _, _⟩ := hat2
          rw [hr] at y2
          clear hat hlt1
          have hpd : decide ((0 : Int) < ρ2) = true := decide_eq_true hpos
          clear hU
          go_wp2_with fail
          go_roundw
          case rel => exact ⟨k + 1, _, _, _, _, U, ρ2, rfl, by omega, by omega, rfl, rfl, by go_num, hcap1, HT14.out, HRU.out, HON2.out, by have := HR2.out; have := HR.out; exact ⟨by omega, by omega⟩, HB4.out⟩
          case measure => simp [intOf]; omega
      · subst hra
        subst hr2
        have r0 := Blk.cell HP14.out 0
        have r1 := Blk.cell HP14.out 1
        simp only [List.getElem?_toArray, List.getElem?_cons_zero, List.getElem?_cons_succ] at r0 r1
        have e3 : (o.kind == 3) = false := by simp; omega
        have e1 : (o.kind == 1) = false := by simp; omega
        have e6 : (o.kind == 6) = false := by simp; omega
        have hw1 : IntKind.i64.wrap (ρ + 1) = ρ + 1 := IntWalk.i64_in _ (by have := HR.out; omega)
        have HV := HON2.out
        rcases HV with ⟨hU, hz⟩ | ⟨r, hU, _, hr, hpos⟩
        · exfalso; have := HR.out; omega
        · have hn1 : n1 = 1 := by have h := HT14.out.1; rw [hU] at h; exact h
          subst hn1
          obtain ⟨b1, o1, hA1, hlt1⟩ := HT14.out.block (by omega)
          subst hA1
          obtain ⟨E1, m1, cE, hat, _, _⟩ := HT14.out.at (i := 0) (by rw [hU]; show 0 < 1; omega) (Below.refl _ _)
          rw [hU] at hat
          have hat2 : RcAt V_W5 b1 o1 r (.slice E1 m1 cE) := by have h : RcAt V_W5 b1 (o1 + 0 * 6) r (.slice E1 m1 cE) := hat; rw [Nat.zero_mul, Nat.add_zero] at h; exact h
          obtain ⟨_, _, y2, _, _, _⟩ := hat2
          rw [hr] at y2
          clear hat hlt1
          have hpd : decide ((0 : Int) < (ρ + 1)) = true := decide_eq_true hpos
          clear hU
          go_wp2_with fail
          go_roundw
          case rel => exact ⟨k + 1, _, _, _, _, U, (ρ + 1), rfl, by omega, by omega, rfl, rfl, by go_num, hcap1, HT14.out, HRU.out, HON2.out, by have := HR2.out; have := HR.out; exact ⟨by omega, by omega⟩, HB4.out⟩
          case measure => simp [intOf]; omega
    · have hcnd2 : (n0 : Int) ≤ (k : Int) ∨ ((k : Int) < (n0 : Int) ∧ (30 : Int) ≤ (k : Int)) := by omega
      clear hcnd
      rcases hcnd2 with h1 | ⟨h1, h2⟩
      · have hk9 : ¬ ((k : Int) < (n0 : Int)) := by omega
        go_wp2_with fail
        go_ret
        exact ⟨rfl, HB.out⟩
      · have hk9 : ¬ ((k : Int) < 30) := by omega
        go_wp2_with fail
        go_ret
        exact ⟨rfl, HB.out⟩
end Go.Proofs.Ytpnkkiokkhmjpaa
