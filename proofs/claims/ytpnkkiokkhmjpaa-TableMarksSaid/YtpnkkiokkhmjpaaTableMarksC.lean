import Derived.Test.YtpnkkiokkhmjpaaTabLaw
import Derived.Test.YtpnkkiokkhmjpaaTabLawMath
/-
  The walk of the law TableMarks, over what is asked of the program (stage 12).
-/
namespace Go.Proofs.Ytpnkkiokkhmjpaa
open Go.RowKit
set_option linter.unusedVariables false
set_option linter.unusedSimpArgs false

theorem marks_math {T : List Rcd} (h : RightT T) {k : ByteArray} (hk : 1 ≤ k.size ∧ k.size ≤ 16) {y : Int} (hy : 0 ≤ y ∧ y ≤ 99) :
    doT T (⟨2, k, ⟨#[102, 105, 114, 115, 116]⟩, 0, ⟨#[]⟩, 0, ⟨#[]⟩⟩ : OpR) = (T, ⟨50, 0, ⟨#[]⟩, []⟩) ∨
    ∃ (ρ : Int) (U1 : List Rcd), (1 ≤ ρ ∧ ρ ≤ 9007199254740992) ∧ RightT U1 ∧ doT T (⟨2, k, ⟨#[102, 105, 114, 115, 116]⟩, 0, ⟨#[]⟩, 0, ⟨#[]⟩⟩ : OpR) = (U1, ⟨0, ρ, ⟨#[]⟩, []⟩) ∧
      ((ρ = 9007199254740992 ∧ ∃ U2, doT U1 (⟨5, k, ⟨#[]⟩, 0, ⟨#[]⟩, y, ⟨#[110, 111, 116, 101]⟩⟩ : OpR) = (U2, ⟨50, 0, ⟨#[]⟩, []⟩)) ∨
       (ρ ≠ 9007199254740992 ∧ ∃ U2, RightT U2 ∧ doT U1 (⟨5, k, ⟨#[]⟩, 0, ⟨#[]⟩, y, ⟨#[110, 111, 116, 101]⟩⟩ : OpR) = (U2, ⟨0, ρ + 1, ⟨#[]⟩, []⟩) ∧
        ((ρ + 1 = 9007199254740992 ∧ ∃ V, doT U2 (⟨2, k, ⟨#[115, 101, 99, 111, 110, 100]⟩, 0, ⟨#[]⟩, 0, ⟨#[]⟩⟩ : OpR) = (V, ⟨50, 0, ⟨#[]⟩, []⟩)) ∨
         (ρ + 1 ≠ 9007199254740992 ∧ ∃ (V : List Rcd) (i : Nat), doT U2 (⟨2, k, ⟨#[115, 101, 99, 111, 110, 100]⟩, 0, ⟨#[]⟩, 0, ⟨#[]⟩⟩ : OpR) = (V, ⟨0, ρ + 1 + 1, ⟨#[]⟩, []⟩) ∧ RightT V ∧ i < V.length ∧ V.length = U2.length ∧ (∀ j, j < i → (atR V j).key ≠ k) ∧
           ((atR V i).key = k ∧ (atR V i).value = ⟨#[115, 101, 99, 111, 110, 100]⟩ ∧ (atR V i).life = y ∧ (atR V i).note = ⟨#[110, 111, 116, 101]⟩ ∧ (atR V i).rev = ρ + 1 + 1) ∧ (atR U2 i).value = ⟨#[102, 105, 114, 115, 116]⟩)))) := by
  have ok : ∀ o : OpR, o.key = k → (1 ≤ o.kind ∧ o.kind ≤ 5) → o.value.size ≤ 200 → o.upto.size ≤ 16 → o.note.size ≤ 40 → (0 ≤ o.rev ∧ o.rev ≤ maxN) → (0 ≤ o.life ∧ o.life ≤ maxN) → checkO 2 o = 0 := fun o e h1 h2 h3 h4 h5 h6 => ok_key h1 (by rw [e]; exact hk) h2 h3 h4 h5 h6
  have z0 : (0 : Int) ≤ 0 ∧ (0 : Int) ≤ maxN := ⟨Int.le_refl 0, by decide⟩
  have zs : (⟨#[]⟩ : ByteArray).size = 0 := rfl
  have hmx : maxN = 9007199254740992 := rfl
  have c1 : checkO 2 (⟨2, k, ⟨#[102, 105, 114, 115, 116]⟩, 0, ⟨#[]⟩, 0, ⟨#[]⟩⟩ : OpR) = 0 := ok _ rfl ⟨by simp only; omega, by simp only; omega⟩ (by show (5 : Nat) ≤ 200; omega) (by simp only; omega) (by simp only; omega) z0 z0
  have c2 : checkO 2 (⟨5, k, ⟨#[]⟩, 0, ⟨#[]⟩, y, ⟨#[110, 111, 116, 101]⟩⟩ : OpR) = 0 := ok _ rfl ⟨by simp only; omega, by simp only; omega⟩ (by simp only; omega) (by simp only; omega) (by show (4 : Nat) ≤ 40; omega) z0 ⟨by simp only; omega, by simp only; omega⟩
  have c3 : checkO 2 (⟨2, k, ⟨#[115, 101, 99, 111, 110, 100]⟩, 0, ⟨#[]⟩, 0, ⟨#[]⟩⟩ : OpR) = 0 := ok _ rfl ⟨by simp only; omega, by simp only; omega⟩ (by show (6 : Nat) ≤ 200; omega) (by simp only; omega) (by simp only; omega) z0 z0
  have pair : ∀ {t : List Rcd} {o : OpR} {y : RepR}, (doT t o).2 = y → doT t o = ((doT t o).1, y) := fun h => by rw [← h]
  rcases put_math h c1 rfl with ⟨e, _⟩ | ⟨r, hx, hval, hrep, hr1, hr2, _, _⟩
  · exact .inl e
  · right
    have RU1 := do_right h (⟨2, k, ⟨#[102, 105, 114, 115, 116]⟩, 0, ⟨#[]⟩, 0, ⟨#[]⟩⟩ : OpR)
    generalize hU1 : doT T (⟨2, k, ⟨#[102, 105, 114, 115, 116]⟩, 0, ⟨#[]⟩, 0, ⟨#[]⟩⟩ : OpR) = X1 at *
    obtain ⟨U1, Y1⟩ := X1
    simp only at hx hrep RU1 hval
    subst hrep
    refine ⟨r.rev, U1, ⟨hr1, hr2⟩, RU1, rfl, ?_⟩
    by_cases hm : r.rev = 9007199254740992
    · left
      exact ⟨hm, U1, do_max RU1 c2 (.inr rfl) hx hm⟩
    · right
      obtain ⟨e1, e2⟩ := do_one RU1 c2 (by simp only; omega) hx
      have ek : keyF (some r) (⟨5, k, ⟨#[]⟩, 0, ⟨#[]⟩, y, ⟨#[110, 111, 116, 101]⟩⟩ : OpR) = (some (markR r (⟨5, k, ⟨#[]⟩, 0, ⟨#[]⟩, y, ⟨#[110, 111, 116, 101]⟩⟩ : OpR)), ⟨0, r.rev + 1, ByteArray.empty, []⟩) := by
        unfold keyF
        rw [if_neg (by simp only; omega), if_neg (by simp only; omega)]
        simp only
        rw [if_neg (by omega), if_neg (by omega), if_neg (show ¬ r.rev = maxN from hm)]
      rw [ek] at e1 e2
      have RU2 := do_right RU1 (⟨5, k, ⟨#[]⟩, 0, ⟨#[]⟩, y, ⟨#[110, 111, 116, 101]⟩⟩ : OpR)
      have hU2 := pair e1
      generalize (doT U1 (⟨5, k, ⟨#[]⟩, 0, ⟨#[]⟩, y, ⟨#[110, 111, 116, 101]⟩⟩ : OpR)).1 = U2 at *
      refine ⟨hm, U2, RU2, hU2, ?_⟩
      simp only at e2
      have hlk := look_idx (k := k) RU2.rise
      rw [e2] at hlk
      cases hi : idxT U2 k with
      | none => rw [hi] at hlk; cases hlk
      | some i =>
        rw [hi] at hlk
        simp only [Option.map_some, Option.some.injEq] at hlk
        obtain ⟨hil, hik⟩ := idx_some hi
        have hd : doT U2 (⟨2, k, ⟨#[115, 101, 99, 111, 110, 100]⟩, 0, ⟨#[]⟩, 0, ⟨#[]⟩⟩ : OpR) = putT U2 (some i) (⟨2, k, ⟨#[115, 101, 99, 111, 110, 100]⟩, 0, ⟨#[]⟩, 0, ⟨#[]⟩⟩ : OpR) := by
          rw [doT_ok ⟨RU2, c3⟩, if_neg (by simp only; omega), if_pos rfl, hi]
        have hrv : (atR U2 i).rev = r.rev + 1 := by rw [← hlk]; rfl
        by_cases hm2 : r.rev + 1 = 9007199254740992
        · left
          refine ⟨hm2, U2, ?_⟩
          rw [hd]
          unfold putT
          simp only
          rw [if_pos (by rw [hrv]; exact hm2)]
          rfl
        · right
          have he : doT U2 (⟨2, k, ⟨#[115, 101, 99, 111, 110, 100]⟩, 0, ⟨#[]⟩, 0, ⟨#[]⟩⟩ : OpR) = (U2.set i (putR (atR U2 i) (⟨2, k, ⟨#[115, 101, 99, 111, 110, 100]⟩, 0, ⟨#[]⟩, 0, ⟨#[]⟩⟩ : OpR)), ⟨0, r.rev + 1 + 1, ⟨#[]⟩, []⟩) := by
            rw [hd]
            unfold putT
            simp only
            rw [if_neg (by rw [hrv]; exact hm2), hrv]
            rfl
          have RV := do_right RU2 (⟨2, k, ⟨#[115, 101, 99, 111, 110, 100]⟩, 0, ⟨#[]⟩, 0, ⟨#[]⟩⟩ : OpR)
          rw [he] at RV
          have ha : ∀ j, j < U2.length → atR (U2.set i (putR (atR U2 i) (⟨2, k, ⟨#[115, 101, 99, 111, 110, 100]⟩, 0, ⟨#[]⟩, 0, ⟨#[]⟩⟩ : OpR))) j = if i = j then putR (atR U2 i) (⟨2, k, ⟨#[115, 101, 99, 111, 110, 100]⟩, 0, ⟨#[]⟩, 0, ⟨#[]⟩⟩ : OpR) else atR U2 j := fun j hj => atR_set hj
          refine ⟨hm2, U2.set i (putR (atR U2 i) (⟨2, k, ⟨#[115, 101, 99, 111, 110, 100]⟩, 0, ⟨#[]⟩, 0, ⟨#[]⟩⟩ : OpR)), i, he, RV, by rw [List.length_set]; exact hil, List.length_set, fun j hj => ?_, ?_, ?_⟩
          · rw [ha j (by omega), if_neg (by omega)]
            intro e
            have := rise_inj RU2.rise (i := j) (j := i) (by omega) hil (by rw [e, hik])
            omega
          · rw [ha i hil, if_pos rfl]
            rw [← hlk]
            refine ⟨?_, rfl, rfl, rfl, rfl⟩
            rw [← hlk] at hik
            exact hik
          · rw [← hlk]; exact hval
set_option maxRecDepth 100000 in
set_option maxHeartbeats 8000000 in
theorem tableMarks_core (kH : CheckT) (kW : WritesT) (kR : RightQT) (kS : SameQT) (kD : DoT) (a0 : Option Addr) (n0 cap0 : Nat) (f : Nat → Nat → Int) (x1 x2 : Int) (w : World) (h0 : IsRaw w a0 n0 5 f) (w1 : (Lit.int .i64 x1).wf = true) (w2 : (Lit.int .i64 x2).wf = true) :
    Calls Try.prog 9 #[.slice a0 n0 cap0, .int .i64 x1, .int .i64 x2] w fun e w' => e = .returned (.bool true) ∧ Below w.heap.size w w' := by
  have qk := fun W => key_any x1 w1 W
  have qp := fun W => pickN12_nat x2 100 (by omega) (by omega) w2 W
  have hj4 : pickN x2 100 < 100 := by have := pickN_lt x2 100 (by omega); omega
  have hks := keyR_size x1
  generalize keyR x1 = k at *
  have hy : 0 ≤ ((pickN x2 100 : Nat) : Int) ∧ ((pickN x2 100 : Nat) : Int) ≤ 99 := ⟨by omega, by omega⟩
  generalize ((pickN x2 100 : Nat) : Int) = y at *
  have HTR := Lib.hid (table_right f n0)
  generalize hT : tableR f n0 = T at HTR
  have HG := Lib.hid (marks_math HTR.out (k := k) (y := y) ⟨hks.1, by omega⟩ hy)
  have HWF : Hid (∀ o : OpR, o.key = k → (1 ≤ o.kind ∧ o.kind ≤ 6) → o.value.size ≤ 200 → o.upto.size = 0 → o.note.size ≤ 40 → o.rev = 0 → (0 ≤ o.life ∧ o.life ≤ 99) → OpWf o) := fun o e h1 h2 h3 h4 h5 h6 => ⟨wf_within (by omega) (by omega), by rw [e]; omega, by omega, by rw [h5]; decide, by omega, wf_within (by omega) (by omega), by omega⟩
  have HY := Lib.hid hy
  have Hraw0 := Lib.hid h0; clear h0
  clear hks hy hj4
  go_enter Try.func9, Try.ntmps9
  have q_aw := fun W => awakeT_any kH kW kR kS kD W
  go_wp2_with fail
  ((with_reducible refine (q_aw _).mono ?_); rintro e W1 ⟨rfl, b_⟩)
  have h_b := b_
  have h_raw := Hraw0.out.below b_
  have HB1 := Lib.hid h_b; clear h_b
  have Hraw1 := Lib.hid h_raw; clear h_raw
  clear b_
  clear q_aw
  go_wp2_with fail
  ((with_reducible refine (qk _).mono ?_); rintro e W2 ⟨rfl, b_⟩)
  have h_b := bch HB1.out b_
  have h_raw := Hraw1.out.below b_
  have HB2 := Lib.hid h_b; clear h_b
  have Hraw2 := Lib.hid h_raw; clear h_raw
  clear b_
  have q_tb := table_any a0 n0 cap0 f _ Hraw2.out
  go_wp2_with fail
  ((with_reducible refine q_tb.mono ?_); rintro e W3 ⟨v_, l_, rfl, hr_, hm_, hx_, b_⟩)
  obtain ⟨AT, nT, capT, hv_, hcapT, ht_⟩ := tab_ts hr_ hm_ hx_
  subst hv_
  have h_b := bch HB2.out b_
  have h_TT := ht_
  have HB3 := Lib.hid h_b; clear h_b
  have HTT3 := Lib.hid h_TT; clear h_TT
  clear b_ hr_ hm_ hx_ ht_ q_tb
  rw [hT] at HTT3
  clear hT qk
  have hnT : nT ≤ 20 := ts_len HTT3.out HTR.out
  rcases HG.out with he | ⟨ρ, U1, hρ, RU1, h1, hg⟩
  · have HE := Lib.hid he; clear he
    have q_do := do_at kD HE.out 50 rfl (HWF.out _ rfl ⟨by simp only; omega, by simp only; omega⟩ (by show (5 : Nat) ≤ 200; omega) rfl (by show (0 : Nat) ≤ 40; omega) rfl (⟨by simp only; omega, by simp only; omega⟩)) hcapT HTT3.out hnT
    go_wp2_with fail
    ((with_reducible refine q_do.mono ?_); rintro e W4 ⟨A1, n1, cap1, K1, k1, kc1, rfl, hcap1, ht_, hkc1, hs_, b_⟩)
    go_upto_region 4 with fail
    have h_b := (bch HB3.out b_).alloc (bch HB3.out b_).size (.cells #[.int .i64 50, .int .i64 0, .string ⟨#[]⟩, .slice K1 k1 kc1] 37)
    have h_T1 := IsTs.below ht_ ((Below.refl _ _).alloc (Nat.le_refl _) (.cells #[.int .i64 50, .int .i64 0, .string ⟨#[]⟩, .slice K1 k1 kc1] 37))
    have h_P1 := Blk.new W4 (.cells #[.int .i64 50, .int .i64 0, .string ⟨#[]⟩, .slice K1 k1 kc1] 37)
    obtain ⟨V_W4, hV_⟩ : ∃ W, W4.alloc (.cells #[.int .i64 50, .int .i64 0, .string ⟨#[]⟩, .slice K1 k1 kc1] 37) = W := ⟨_, rfl⟩
    rw [hV_] at h_b h_T1 h_P1 ⊢
    clear hV_
    have HB4 := Lib.hid h_b; clear h_b
    have HT14 := Lib.hid h_T1; clear h_T1
    have HP14 := Lib.hid h_P1; clear h_P1
    clear b_ ht_ hs_ q_do
    have c0 := Blk.cell HP14.out 0
    simp only [List.getElem?_toArray, List.getElem?_cons_zero, List.getElem?_cons_succ] at c0
    go_wp2_with fail
    go_ret
    exact ⟨rfl, HB4.out⟩
  have E1 := Lib.hid h1; clear h1
  have G1 := Lib.hid RU1; clear RU1
  have HG2 := Lib.hid hg; clear hg
  have HR := Lib.hid hρ; clear hρ HG
  have q_do := do_at kD E1.out 0 rfl (HWF.out _ rfl ⟨by simp only; omega, by simp only; omega⟩ (by show (5 : Nat) ≤ 200; omega) rfl (by show (0 : Nat) ≤ 40; omega) rfl (⟨by simp only; omega, by simp only; omega⟩)) hcapT HTT3.out hnT
  go_wp2_with fail
  ((with_reducible refine q_do.mono ?_); rintro e W4 ⟨A1, n1, cap1, K1, k1, kc1, rfl, hcap1, ht_, hkc1, hs_, b_⟩)
  go_upto_region 4 with fail
  have h_b := (bch HB3.out b_).alloc (bch HB3.out b_).size (.cells #[.int .i64 0, .int .i64 ρ, .string ⟨#[]⟩, .slice K1 k1 kc1] 37)
  have h_T1 := IsTs.below ht_ ((Below.refl _ _).alloc (Nat.le_refl _) (.cells #[.int .i64 0, .int .i64 ρ, .string ⟨#[]⟩, .slice K1 k1 kc1] 37))
  have h_P1 := Blk.new W4 (.cells #[.int .i64 0, .int .i64 ρ, .string ⟨#[]⟩, .slice K1 k1 kc1] 37)
  obtain ⟨V_W4, hV_⟩ : ∃ W, W4.alloc (.cells #[.int .i64 0, .int .i64 ρ, .string ⟨#[]⟩, .slice K1 k1 kc1] 37) = W := ⟨_, rfl⟩
  rw [hV_] at h_b h_T1 h_P1 ⊢
  clear hV_
  have HB4 := Lib.hid h_b; clear h_b
  have HT14 := Lib.hid h_T1; clear h_T1
  have HP14 := Lib.hid h_P1; clear h_P1
  have hnb1 : n1 ≤ 20 := ts_len HT14.out G1.out
  clear b_ ht_ hs_ q_do
  have c0 := Blk.cell HP14.out 0
  have c1 := Blk.cell HP14.out 1
  simp only [List.getElem?_toArray, List.getElem?_cons_zero, List.getElem?_cons_succ] at c0 c1
  rcases HG2.out with ⟨hm, U2, h2⟩ | ⟨hm, U2, RU2, h2, hg⟩
  · have E2 := Lib.hid h2; clear h2
    have em : (ρ == 9007199254740992) = true := by simpa using hm
    clear hm
    go_wp2_with fail
    ((with_reducible refine (qp _).mono ?_); rintro e W_ ⟨rfl, rfl⟩)
    have q_do := do_at kD E2.out 50 rfl (HWF.out _ rfl ⟨by simp only; omega, by simp only; omega⟩ (by show (0 : Nat) ≤ 200; omega) rfl (by show (4 : Nat) ≤ 40; omega) rfl (HY.out)) hcap1 HT14.out hnb1
    go_wp2_with fail
    ((with_reducible refine q_do.mono ?_); rintro e W5 ⟨A2, n2, cap2, K2, k2, kc2, rfl, hcap2, ht_, hkc2, hs_, b_⟩)
    clear c0 c1
    go_upto_region 7 with fail
    have h_b := (bch HB4.out b_).alloc (bch HB4.out b_).size (.cells #[.int .i64 50, .int .i64 0, .string ⟨#[]⟩, .slice K2 k2 kc2] 37)
    have h_P1 := (HP14.out.below b_).below ((Below.refl _ _).alloc (Nat.le_refl _) (.cells #[.int .i64 50, .int .i64 0, .string ⟨#[]⟩, .slice K2 k2 kc2] 37))
    have h_T2 := IsTs.below ht_ ((Below.refl _ _).alloc (Nat.le_refl _) (.cells #[.int .i64 50, .int .i64 0, .string ⟨#[]⟩, .slice K2 k2 kc2] 37))
    have h_P2 := Blk.new W5 (.cells #[.int .i64 50, .int .i64 0, .string ⟨#[]⟩, .slice K2 k2 kc2] 37)
    obtain ⟨V_W5, hV_⟩ : ∃ W, W5.alloc (.cells #[.int .i64 50, .int .i64 0, .string ⟨#[]⟩, .slice K2 k2 kc2] 37) = W := ⟨_, rfl⟩
    rw [hV_] at h_b h_P1 h_T2 h_P2 ⊢
    clear hV_
    have HB5 := Lib.hid h_b; clear h_b
    have HP15 := Lib.hid h_P1; clear h_P1
    have HT25 := Lib.hid h_T2; clear h_T2
    have HP25 := Lib.hid h_P2; clear h_P2
    clear b_ ht_ hs_ q_do
    have c0 := Blk.cell HP15.out 0
    have c1 := Blk.cell HP15.out 1
    simp only [List.getElem?_toArray, List.getElem?_cons_zero, List.getElem?_cons_succ] at c0 c1
    have d0 := Blk.cell HP25.out 0
    simp only [List.getElem?_toArray, List.getElem?_cons_zero, List.getElem?_cons_succ] at d0
    go_wp2_with fail
    go_ret
    exact ⟨rfl, HB5.out⟩
  have E2 := Lib.hid h2; clear h2
  have G2 := Lib.hid RU2; clear RU2
  have HG3 := Lib.hid hg; clear hg HG2
  clear hm
  go_wp2_with fail
  ((with_reducible refine (qp _).mono ?_); rintro e W_ ⟨rfl, rfl⟩)
  have q_do := do_at kD E2.out 0 rfl (HWF.out _ rfl ⟨by simp only; omega, by simp only; omega⟩ (by show (0 : Nat) ≤ 200; omega) rfl (by show (4 : Nat) ≤ 40; omega) rfl (HY.out)) hcap1 HT14.out hnb1
  go_wp2_with fail
  ((with_reducible refine q_do.mono ?_); rintro e W5 ⟨A2, n2, cap2, K2, k2, kc2, rfl, hcap2, ht_, hkc2, hs_, b_⟩)
  clear c0 c1
  go_upto_region 7 with fail
  have h_b := (bch HB4.out b_).alloc (bch HB4.out b_).size (.cells #[.int .i64 0, .int .i64 (ρ + 1), .string ⟨#[]⟩, .slice K2 k2 kc2] 37)
  have h_P1 := (HP14.out.below b_).below ((Below.refl _ _).alloc (Nat.le_refl _) (.cells #[.int .i64 0, .int .i64 (ρ + 1), .string ⟨#[]⟩, .slice K2 k2 kc2] 37))
  have h_T2 := IsTs.below ht_ ((Below.refl _ _).alloc (Nat.le_refl _) (.cells #[.int .i64 0, .int .i64 (ρ + 1), .string ⟨#[]⟩, .slice K2 k2 kc2] 37))
  have h_P2 := Blk.new W5 (.cells #[.int .i64 0, .int .i64 (ρ + 1), .string ⟨#[]⟩, .slice K2 k2 kc2] 37)
  obtain ⟨V_W5, hV_⟩ : ∃ W, W5.alloc (.cells #[.int .i64 0, .int .i64 (ρ + 1), .string ⟨#[]⟩, .slice K2 k2 kc2] 37) = W := ⟨_, rfl⟩
  rw [hV_] at h_b h_P1 h_T2 h_P2 ⊢
  clear hV_
  have HB5 := Lib.hid h_b; clear h_b
  have HP15 := Lib.hid h_P1; clear h_P1
  have HT25 := Lib.hid h_T2; clear h_T2
  have HP25 := Lib.hid h_P2; clear h_P2
  have hnb2 : n2 ≤ 20 := ts_len HT25.out G2.out
  clear b_ ht_ hs_ q_do
  have d0 := Blk.cell HP25.out 0
  have d1 := Blk.cell HP25.out 1
  simp only [List.getElem?_toArray, List.getElem?_cons_zero, List.getElem?_cons_succ] at d0 d1
  rcases HG3.out with ⟨hm, V, h3⟩ | ⟨hm, V, i, h3, RV, hil, hlen, hne, ⟨hk0, hk1, hk2, hk3, hk4⟩, hf⟩
  · have E3 := Lib.hid h3; clear h3
    have em : (ρ + 1 == 9007199254740992) = true := by simpa using hm
    clear hm
    have q_do := do_at kD E3.out 50 rfl (HWF.out _ rfl ⟨by simp only; omega, by simp only; omega⟩ (by show (6 : Nat) ≤ 200; omega) rfl (by show (0 : Nat) ≤ 40; omega) rfl (⟨by simp only; omega, by simp only; omega⟩)) hcap2 HT25.out hnb2
    go_wp2_with fail
    ((with_reducible refine q_do.mono ?_); rintro e W6 ⟨A3, n3, cap3, K3, k3, kc3, rfl, hcap3, ht_, hkc3, hs_, b_⟩)
    clear d0 d1
    go_upto_region 10 with fail
    have h_b := (bch HB5.out b_).alloc (bch HB5.out b_).size (.cells #[.int .i64 50, .int .i64 0, .string ⟨#[]⟩, .slice K3 k3 kc3] 37)
    have h_P1 := (HP15.out.below b_).below ((Below.refl _ _).alloc (Nat.le_refl _) (.cells #[.int .i64 50, .int .i64 0, .string ⟨#[]⟩, .slice K3 k3 kc3] 37))
    have h_P2 := (HP25.out.below b_).below ((Below.refl _ _).alloc (Nat.le_refl _) (.cells #[.int .i64 50, .int .i64 0, .string ⟨#[]⟩, .slice K3 k3 kc3] 37))
    have h_T3 := IsTs.below ht_ ((Below.refl _ _).alloc (Nat.le_refl _) (.cells #[.int .i64 50, .int .i64 0, .string ⟨#[]⟩, .slice K3 k3 kc3] 37))
    have h_P3 := Blk.new W6 (.cells #[.int .i64 50, .int .i64 0, .string ⟨#[]⟩, .slice K3 k3 kc3] 37)
    obtain ⟨V_W6, hV_⟩ : ∃ W, W6.alloc (.cells #[.int .i64 50, .int .i64 0, .string ⟨#[]⟩, .slice K3 k3 kc3] 37) = W := ⟨_, rfl⟩
    rw [hV_] at h_b h_P1 h_P2 h_T3 h_P3 ⊢
    clear hV_
    have HB6 := Lib.hid h_b; clear h_b
    have HP16 := Lib.hid h_P1; clear h_P1
    have HP26 := Lib.hid h_P2; clear h_P2
    have HT36 := Lib.hid h_T3; clear h_T3
    have HP36 := Lib.hid h_P3; clear h_P3
    clear b_ ht_ hs_ q_do
    have d0 := Blk.cell HP26.out 0
    have d1 := Blk.cell HP26.out 1
    simp only [List.getElem?_toArray, List.getElem?_cons_zero, List.getElem?_cons_succ] at d0 d1
    have c0 := Blk.cell HP36.out 0
    simp only [List.getElem?_toArray, List.getElem?_cons_zero, List.getElem?_cons_succ] at c0
    go_wp2_with fail
    go_ret
    exact ⟨rfl, HB6.out⟩
  have E3 := Lib.hid h3; clear h3
  have GV := Lib.hid RV; clear RV
  have HIL := Lib.hid hil; clear hil
  have HLEN := Lib.hid hlen; clear hlen
  have HNE := Lib.hid hne; clear hne
  have HK := Lib.hid (And.intro hk0 (And.intro hk1 (And.intro hk2 (And.intro hk3 hk4)))); clear hk0 hk1 hk2 hk3 hk4
  have HF := Lib.hid hf; clear hf hm HG3
  have q_do := do_at kD E3.out 0 rfl (HWF.out _ rfl ⟨by simp only; omega, by simp only; omega⟩ (by show (6 : Nat) ≤ 200; omega) rfl (by show (0 : Nat) ≤ 40; omega) rfl (⟨by simp only; omega, by simp only; omega⟩)) hcap2 HT25.out hnb2
  go_wp2_with fail
  ((with_reducible refine q_do.mono ?_); rintro e W6 ⟨A3, n3, cap3, K3, k3, kc3, rfl, hcap3, ht_, hkc3, hs_, b_⟩)
  clear d0 d1
  go_upto_region 10 with fail
  have h_b := (bch HB5.out b_).alloc (bch HB5.out b_).size (.cells #[.int .i64 0, .int .i64 (ρ + 1 + 1), .string ⟨#[]⟩, .slice K3 k3 kc3] 37)
  have h_P1 := (HP15.out.below b_).below ((Below.refl _ _).alloc (Nat.le_refl _) (.cells #[.int .i64 0, .int .i64 (ρ + 1 + 1), .string ⟨#[]⟩, .slice K3 k3 kc3] 37))
  have h_T2 := (HT25.out.below b_).below ((Below.refl _ _).alloc (Nat.le_refl _) (.cells #[.int .i64 0, .int .i64 (ρ + 1 + 1), .string ⟨#[]⟩, .slice K3 k3 kc3] 37))
  have h_P2 := (HP25.out.below b_).below ((Below.refl _ _).alloc (Nat.le_refl _) (.cells #[.int .i64 0, .int .i64 (ρ + 1 + 1), .string ⟨#[]⟩, .slice K3 k3 kc3] 37))
  have h_T3 := IsTs.below ht_ ((Below.refl _ _).alloc (Nat.le_refl _) (.cells #[.int .i64 0, .int .i64 (ρ + 1 + 1), .string ⟨#[]⟩, .slice K3 k3 kc3] 37))
  have h_P3 := Blk.new W6 (.cells #[.int .i64 0, .int .i64 (ρ + 1 + 1), .string ⟨#[]⟩, .slice K3 k3 kc3] 37)
  obtain ⟨V_W6, hV_⟩ : ∃ W, W6.alloc (.cells #[.int .i64 0, .int .i64 (ρ + 1 + 1), .string ⟨#[]⟩, .slice K3 k3 kc3] 37) = W := ⟨_, rfl⟩
  rw [hV_] at h_b h_P1 h_T2 h_P2 h_T3 h_P3 ⊢
  clear hV_
  have HB6 := Lib.hid h_b; clear h_b
  have HP16 := Lib.hid h_P1; clear h_P1
  have HT26 := Lib.hid h_T2; clear h_T2
  have HP26 := Lib.hid h_P2; clear h_P2
  have HT36 := Lib.hid h_T3; clear h_T3
  have HP36 := Lib.hid h_P3; clear h_P3
  have hnb3 : n3 ≤ 20 := ts_len HT36.out GV.out
  clear b_ ht_ hs_ q_do
  have c0 := Blk.cell HP36.out 0
  have c1 := Blk.cell HP36.out 1
  simp only [List.getElem?_toArray, List.getElem?_cons_zero, List.getElem?_cons_succ] at c0 c1
  have HN3 : Hid (n3 = V.length) := HT36.out.1
  have HN2 : Hid (n2 = U2.length) := HT26.out.1
  go_wp2_with fail
  go_loopw [15] (fun i' wy => ∃ (q : Nat) (wr : World), wr = wy ∧ q ≤ i ∧ i' = .int .i64 q ∧ Below V_W6.heap.size V_W6 wr) (fun j _ => i + 1 - (intOf j).toNat)
  case atStart => exact ⟨0, _, rfl, by omega, rfl, Below.refl _ _⟩
  case round =>
    obtain ⟨q, wr, rfl, hqi, rfl, hb⟩ := hrel
    have hi3 : i < n3 := by have := HN3.out; have := HIL.out; omega
    have hi2 : i < n2 := by have := HN2.out; have := HLEN.out; have := HIL.out; omega
    have hqn : (q : Int) < (n3 : Int) := by omega
    have hq2 : (q : Int) < (n2 : Int) := by omega
    have hq0 : (0 : Int) ≤ (q : Int) := by omega
    have hg1 : decide ((q : Int) < 0) = false := decide_eq_false (by omega)
    have hg2 : decide ((n3 : Int) ≤ (q : Int)) = false := decide_eq_false (by omega)
    have hg2n : decide (n3 ≤ q) = false := decide_eq_false (by omega)
    have hg3 : decide ((n2 : Int) ≤ (q : Int)) = false := decide_eq_false (by omega)
    have hg3n : decide (n2 ≤ q) = false := decide_eq_false (by omega)
    obtain ⟨bv, ov, hAv, hbv⟩ := HT36.out.block (by omega)
    subst hAv
    obtain ⟨bu, ou, hAu, hbu⟩ := HT26.out.block (by omega)
    subst hAu
    obtain ⟨Ev, mv, cv, hv, _, _⟩ := HT36.out.at (i := q) (by have := HN3.out; omega) hb
    obtain ⟨Eu, mu, cu, hu, _, _⟩ := HT26.out.at (i := q) (by have := HN2.out; omega) hb
    obtain ⟨gp, hgp⟩ : ∃ g, Blk wr g (.cells #[.int .i64 0, .int .i64 ρ, .string ⟨#[]⟩, .slice K1 k1 kc1] 37 (0, 0)) ∧ g = W4.heap.size := ⟨_, Blk.below HP16.out hb, rfl⟩
    have hbl := bch HB6.out hb
    have HBL := Lib.hid hbl; clear hbl
    by_cases hqe : q = i
    · subst hqe
      have hk := HK.out
      have hf := HF.out
      generalize atR V q = rv at *
      generalize atR U2 q = ru at *
      have HV : Hid (∀ W, Below wr.heap.size wr W → RcAt W bv (ov + q * 6) rv (.slice Ev mv cv)) := fun W hb => hv.below hb
      have HU : Hid (∀ W, Below wr.heap.size wr W → RcAt W bu (ou + q * 6) ru (.slice Eu mu cu)) := fun W hb => hu.below hb
      have HP := Lib.hid hgp.1
      have hgpe := hgp.2
      subst hgpe
      obtain ⟨rk, rva, rre, rli, rno, rex⟩ := rv
      obtain ⟨sk, sva, sre, sli, sno, sex⟩ := ru
      simp only at hk hf
      obtain ⟨hk0, hk1, hk2, hk3, hk4⟩ := hk
      have hk5 : rre = ρ + 2 := by omega
      subst hk0
      subst hk1
      subst hk2
      subst hk3
      clear hk4
      subst hk5
      subst hf
      have hw2 : IntKind.i64.wrap (ρ + 2) = ρ + 2 := IntWalk.i64_in _ (by have := HR.out; omega)
      obtain ⟨x0, x1, x2, x3, x4, x5⟩ := hv
      have hqn3 : q < n3 := hi3
      have hqn2 : q < n2 := hi2
      clear hu hgp hb
      go_upto_region 16 with fail
      clear x0 x1 x2 x3 x4 x5
      refine wp_region_noPanic ?_
      refine wp_region_held_drew (S := fun W => Below wr.heap.size wr W) (by kernel_rfl) ((Below.refl _ _).drew) (fun hHeld => ?_)
      refine wpAnyH_take (i := 0) (v := ?_) rfl (by kernel_rfl) (by kernel_rfl) (by kernel_rfl) (fun _ _ _ h => h) (Or.inl ⟨by rfl, ?_⟩) (by assumption) ?_
      rotate_left
      · (intro w hSw; (try dsimp only at hSw); go_simp; (try with_reducible rfl))
      simp only [Act.put, List.getElem_toArray, List.getElem_cons_zero, List.setIfInBounds_toArray, List.set_cons_zero, List.set_cons_succ]
      refine wpAnyH_take (i := 1) (v := ?_) rfl (by kernel_rfl) (by kernel_rfl) (by kernel_rfl) (fun _ _ _ h => h) (Or.inl ⟨by rfl, ?_⟩) (by assumption) ?_
      rotate_left
      · (intro w hSw; (try dsimp only at hSw); go_simp; (try with_reducible rfl))
      simp only [Act.put, List.getElem_toArray, List.getElem_cons_zero, List.getElem_cons_succ, List.setIfInBounds_toArray, List.set_cons_zero, List.set_cons_succ]
      refine wpAnyH_take (i := 2) (v := ?_) rfl (by kernel_rfl) (by kernel_rfl) (by kernel_rfl) (fun _ _ _ h => h) (Or.inl ⟨by rfl, ?_⟩) (by assumption) ?_
      rotate_left
      · (intro w hSw; (try dsimp only at hSw); go_simp; (try with_reducible rfl))
      simp only [Act.put, List.getElem_toArray, List.getElem_cons_zero, List.getElem_cons_succ, List.setIfInBounds_toArray, List.set_cons_zero, List.set_cons_succ]
      refine wpAnyH_take (i := 3) (v := ?_) rfl (by kernel_rfl) (by kernel_rfl) (by kernel_rfl) (fun _ _ _ h => h) (Or.inl ⟨by rfl, ?_⟩) (by assumption) ?_
      rotate_left
      · (intro w hSw; (try dsimp only at hSw); go_simp; (try with_reducible rfl))
      simp only [Act.put, List.getElem_toArray, List.getElem_cons_zero, List.getElem_cons_succ, List.setIfInBounds_toArray, List.set_cons_zero, List.set_cons_succ]
      refine wpAnyH_take (i := 4) (v := ?_) rfl (by kernel_rfl) (by kernel_rfl) (by kernel_rfl) (fun _ _ _ h => h) (Or.inl ⟨by rfl, ?_⟩) (by assumption) ?_
      rotate_left
      · (intro w hSw; (try dsimp only at hSw); go_simp; (try with_reducible rfl))
      simp only [Act.put, List.getElem_toArray, List.getElem_cons_zero, List.getElem_cons_succ, List.setIfInBounds_toArray, List.set_cons_zero, List.set_cons_succ]
      refine wpAnyH_take (i := 5) (v := ?_) rfl (by kernel_rfl) (by kernel_rfl) (by kernel_rfl) (fun _ _ _ h => h) (Or.inl ⟨by rfl, ?_⟩) (by assumption) ?_
      rotate_left
      · (intro w hSw; (try dsimp only at hSw); go_simp; (try with_reducible rfl))
      simp only [Act.put, List.getElem_toArray, List.getElem_cons_zero, List.getElem_cons_succ, List.setIfInBounds_toArray, List.set_cons_zero, List.set_cons_succ]
      refine wpAnyH_take (i := 6) (v := ?_) rfl (by kernel_rfl) (by kernel_rfl) (by kernel_rfl) (fun _ _ _ h => h) (Or.inl ⟨by rfl, ?_⟩) (by assumption) ?_
      rotate_left
      · (intro w hSw; (try dsimp only at hSw); obtain ⟨v0, v1, v2, v3, v4, v5⟩ := HV.out _ hSw; go_simp; (try with_reducible rfl))
      simp only [Act.put, List.getElem_toArray, List.getElem_cons_zero, List.getElem_cons_succ, List.setIfInBounds_toArray, List.set_cons_zero, List.set_cons_succ]
      refine wpAnyH_take (i := 7) (v := ?_) rfl (by kernel_rfl) (by kernel_rfl) (by kernel_rfl) (fun _ _ _ h => h) (Or.inl ⟨by rfl, ?_⟩) (by assumption) ?_
      rotate_left
      · (intro w hSw; (try dsimp only at hSw); go_simp; (try with_reducible rfl))
      simp only [Act.put, List.getElem_toArray, List.getElem_cons_zero, List.getElem_cons_succ, List.setIfInBounds_toArray, List.set_cons_zero, List.set_cons_succ]
      refine wpAnyH_take (i := 8) (v := ?_) rfl (by kernel_rfl) (by kernel_rfl) (by kernel_rfl) (fun _ _ _ h => h) (Or.inl ⟨by rfl, ?_⟩) (by assumption) ?_
      rotate_left
      · (intro w hSw; (try dsimp only at hSw); go_simp; (try with_reducible rfl))
      simp only [Act.put, List.getElem_toArray, List.getElem_cons_zero, List.getElem_cons_succ, List.setIfInBounds_toArray, List.set_cons_zero, List.set_cons_succ]
      refine wpAnyH_take (i := 9) (v := ?_) rfl (by kernel_rfl) (by kernel_rfl) (by kernel_rfl) (fun _ _ _ h => h) (Or.inl ⟨by rfl, ?_⟩) (by assumption) ?_
      rotate_left
      · (intro w hSw; (try dsimp only at hSw); go_simp; (try with_reducible rfl))
      simp only [Act.put, List.getElem_toArray, List.getElem_cons_zero, List.getElem_cons_succ, List.setIfInBounds_toArray, List.set_cons_zero, List.set_cons_succ]
      refine wpAnyH_take (i := 10) (v := ?_) rfl (by kernel_rfl) (by kernel_rfl) (by kernel_rfl) (fun _ _ _ h => h) (Or.inl ⟨by rfl, ?_⟩) (by assumption) ?_
      rotate_left
      · (intro w hSw; (try dsimp only at hSw); go_simp; (try with_reducible rfl))
      simp only [Act.put, List.getElem_toArray, List.getElem_cons_zero, List.getElem_cons_succ, List.setIfInBounds_toArray, List.set_cons_zero, List.set_cons_succ]
      refine wpAnyH_take (i := 11) (v := ?_) rfl (by kernel_rfl) (by kernel_rfl) (by kernel_rfl) (fun _ _ _ h => h) (Or.inl ⟨by rfl, ?_⟩) (by assumption) ?_
      rotate_left
      · (intro w hSw; (try dsimp only at hSw); go_simp; (try with_reducible rfl))
      simp only [Act.put, List.getElem_toArray, List.getElem_cons_zero, List.getElem_cons_succ, List.setIfInBounds_toArray, List.set_cons_zero, List.set_cons_succ]
      refine wpAnyH_take (i := 12) (v := ?_) rfl (by kernel_rfl) (by kernel_rfl) (by kernel_rfl) (fun _ _ _ h => h) (Or.inl ⟨by rfl, ?_⟩) (by assumption) ?_
      rotate_left
      · (intro w hSw; (try dsimp only at hSw); go_simp; (try with_reducible rfl))
      simp only [Act.put, List.getElem_toArray, List.getElem_cons_zero, List.getElem_cons_succ, List.setIfInBounds_toArray, List.set_cons_zero, List.set_cons_succ]
      refine wpAnyH_take (i := 13) (v := ?_) rfl (by kernel_rfl) (by kernel_rfl) (by kernel_rfl) (fun _ _ _ h => h) (Or.inl ⟨by rfl, ?_⟩) (by assumption) ?_
      rotate_left
      · (intro w hSw; (try dsimp only at hSw); go_simp; (try with_reducible rfl))
      simp only [Act.put, List.getElem_toArray, List.getElem_cons_zero, List.getElem_cons_succ, List.setIfInBounds_toArray, List.set_cons_zero, List.set_cons_succ]
      refine wpAnyH_take (i := 14) (v := ?_) rfl (by kernel_rfl) (by kernel_rfl) (by kernel_rfl) (fun _ _ _ h => h) (Or.inl ⟨by rfl, ?_⟩) (by assumption) ?_
      rotate_left
      · (intro w hSw; (try dsimp only at hSw); obtain ⟨v0, v1, v2, v3, v4, v5⟩ := HV.out _ hSw; go_simp; (try with_reducible rfl))
      simp only [Act.put, List.getElem_toArray, List.getElem_cons_zero, List.getElem_cons_succ, List.setIfInBounds_toArray, List.set_cons_zero, List.set_cons_succ]
      refine wpAnyH_take (i := 15) (v := ?_) rfl (by kernel_rfl) (by kernel_rfl) (by kernel_rfl) (fun _ _ _ h => h) (Or.inl ⟨by rfl, ?_⟩) (by assumption) ?_
      rotate_left
      · (intro w hSw; (try dsimp only at hSw); go_simp; (try with_reducible rfl))
      simp only [Act.put, List.getElem_toArray, List.getElem_cons_zero, List.getElem_cons_succ, List.setIfInBounds_toArray, List.set_cons_zero, List.set_cons_succ]
      refine wpAnyH_ready (rs := [16]) (by kernel_rfl) (by simp) ?_
      refine AllReadyH.cons rfl (fun K hK => ?_) AllReadyH.nil
      rw [if_pos (by rfl)]
      go_simp
      ((with_reducible refine (qp _).mono ?_); rintro e w' ⟨rfl, rfl⟩)
      refine hK.out _ _ (hHeld) (fun hHeld2 => ?_)
      clear hK K hHeld
      have hHeld := hHeld2; clear hHeld2
      refine wpAnyH_take (i := 17) (v := ?_) rfl (by kernel_rfl) (by kernel_rfl) (by kernel_rfl) (fun _ _ _ h => h) (Or.inl ⟨by rfl, ?_⟩) (by assumption) ?_
      rotate_left
      · (intro w hSw; (try dsimp only at hSw); go_simp; (try with_reducible rfl))
      simp only [Act.put, List.getElem_toArray, List.getElem_cons_zero, List.getElem_cons_succ, List.setIfInBounds_toArray, List.set_cons_zero, List.set_cons_succ]
      refine wpAnyH_take (i := 18) (v := ?_) rfl (by kernel_rfl) (by kernel_rfl) (by kernel_rfl) (fun _ _ _ h => h) (Or.inl ⟨by rfl, ?_⟩) (by assumption) ?_
      rotate_left
      · (intro w hSw; (try dsimp only at hSw); go_simp; (try with_reducible rfl))
      simp only [Act.put, List.getElem_toArray, List.getElem_cons_zero, List.getElem_cons_succ, List.setIfInBounds_toArray, List.set_cons_zero, List.set_cons_succ]
      refine wpAnyH_take (i := 19) (v := ?_) rfl (by kernel_rfl) (by kernel_rfl) (by kernel_rfl) (fun _ _ _ h => h) (Or.inl ⟨by rfl, ?_⟩) (by assumption) ?_
      rotate_left
      · (intro w hSw; (try dsimp only at hSw); go_simp; (try with_reducible rfl))
      simp only [Act.put, List.getElem_toArray, List.getElem_cons_zero, List.getElem_cons_succ, List.setIfInBounds_toArray, List.set_cons_zero, List.set_cons_succ]
      refine wpAnyH_take (i := 20) (v := ?_) rfl (by kernel_rfl) (by kernel_rfl) (by kernel_rfl) (fun _ _ _ h => h) (Or.inl ⟨by rfl, ?_⟩) (by assumption) ?_
      rotate_left
      · (intro w hSw; (try dsimp only at hSw); go_simp; (try with_reducible rfl))
      simp only [Act.put, List.getElem_toArray, List.getElem_cons_zero, List.getElem_cons_succ, List.setIfInBounds_toArray, List.set_cons_zero, List.set_cons_succ]
      refine wpAnyH_take (i := 21) (v := ?_) rfl (by kernel_rfl) (by kernel_rfl) (by kernel_rfl) (fun _ _ _ h => h) (Or.inl ⟨by rfl, ?_⟩) (by assumption) ?_
      rotate_left
      · (intro w hSw; (try dsimp only at hSw); go_simp; (try with_reducible rfl))
      simp only [Act.put, List.getElem_toArray, List.getElem_cons_zero, List.getElem_cons_succ, List.setIfInBounds_toArray, List.set_cons_zero, List.set_cons_succ]
      refine wpAnyH_take (i := 22) (v := ?_) rfl (by kernel_rfl) (by kernel_rfl) (by kernel_rfl) (fun _ _ _ h => h) (Or.inl ⟨by rfl, ?_⟩) (by assumption) ?_
      rotate_left
      · (intro w hSw; (try dsimp only at hSw); go_simp; (try with_reducible rfl))
      simp only [Act.put, List.getElem_toArray, List.getElem_cons_zero, List.getElem_cons_succ, List.setIfInBounds_toArray, List.set_cons_zero, List.set_cons_succ]
      refine wpAnyH_take (i := 23) (v := ?_) rfl (by kernel_rfl) (by kernel_rfl) (by kernel_rfl) (fun _ _ _ h => h) (Or.inl ⟨by rfl, ?_⟩) (by assumption) ?_
      rotate_left
      · (intro w hSw; (try dsimp only at hSw); go_simp; (try with_reducible rfl))
      simp only [Act.put, List.getElem_toArray, List.getElem_cons_zero, List.getElem_cons_succ, List.setIfInBounds_toArray, List.set_cons_zero, List.set_cons_succ]
      refine wpAnyH_take (i := 24) (v := ?_) rfl (by kernel_rfl) (by kernel_rfl) (by kernel_rfl) (fun _ _ _ h => h) (Or.inl ⟨by rfl, ?_⟩) (by assumption) ?_
      rotate_left
      · (intro w hSw; (try dsimp only at hSw); obtain ⟨v0, v1, v2, v3, v4, v5⟩ := HV.out _ hSw; go_simp; (try with_reducible rfl))
      simp only [Act.put, List.getElem_toArray, List.getElem_cons_zero, List.getElem_cons_succ, List.setIfInBounds_toArray, List.set_cons_zero, List.set_cons_succ]
      refine wpAnyH_take (i := 25) (v := ?_) rfl (by kernel_rfl) (by kernel_rfl) (by kernel_rfl) (fun _ _ _ h => h) (Or.inl ⟨by rfl, ?_⟩) (by assumption) ?_
      rotate_left
      · (intro w hSw; (try dsimp only at hSw); go_simp; (try with_reducible rfl))
      simp only [Act.put, List.getElem_toArray, List.getElem_cons_zero, List.getElem_cons_succ, List.setIfInBounds_toArray, List.set_cons_zero, List.set_cons_succ]
      refine wpAnyH_take (i := 26) (v := ?_) rfl (by kernel_rfl) (by kernel_rfl) (by kernel_rfl) (fun _ _ _ h => h) (Or.inl ⟨by rfl, ?_⟩) (by assumption) ?_
      rotate_left
      · (intro w hSw; (try dsimp only at hSw); go_simp; (try with_reducible rfl))
      simp only [Act.put, List.getElem_toArray, List.getElem_cons_zero, List.getElem_cons_succ, List.setIfInBounds_toArray, List.set_cons_zero, List.set_cons_succ]
      refine wpAnyH_take (i := 27) (v := ?_) rfl (by kernel_rfl) (by kernel_rfl) (by kernel_rfl) (fun _ _ _ h => h) (Or.inl ⟨by rfl, ?_⟩) (by assumption) ?_
      rotate_left
      · (intro w hSw; (try dsimp only at hSw); go_simp; (try with_reducible rfl))
      simp only [Act.put, List.getElem_toArray, List.getElem_cons_zero, List.getElem_cons_succ, List.setIfInBounds_toArray, List.set_cons_zero, List.set_cons_succ]
      refine wpAnyH_take (i := 28) (v := ?_) rfl (by kernel_rfl) (by kernel_rfl) (by kernel_rfl) (fun _ _ _ h => h) (Or.inl ⟨by rfl, ?_⟩) (by assumption) ?_
      rotate_left
      · (intro w hSw; (try dsimp only at hSw); go_simp; (try with_reducible rfl))
      simp only [Act.put, List.getElem_toArray, List.getElem_cons_zero, List.getElem_cons_succ, List.setIfInBounds_toArray, List.set_cons_zero, List.set_cons_succ]
      refine wpAnyH_take (i := 29) (v := ?_) rfl (by kernel_rfl) (by kernel_rfl) (by kernel_rfl) (fun _ _ _ h => h) (Or.inl ⟨by rfl, ?_⟩) (by assumption) ?_
      rotate_left
      · (intro w hSw; (try dsimp only at hSw); go_simp; (try with_reducible rfl))
      simp only [Act.put, List.getElem_toArray, List.getElem_cons_zero, List.getElem_cons_succ, List.setIfInBounds_toArray, List.set_cons_zero, List.set_cons_succ]
      refine wpAnyH_take (i := 30) (v := ?_) rfl (by kernel_rfl) (by kernel_rfl) (by kernel_rfl) (fun _ _ _ h => h) (Or.inl ⟨by rfl, ?_⟩) (by assumption) ?_
      rotate_left
      · (intro w hSw; (try dsimp only at hSw); go_simp; (try with_reducible rfl))
      simp only [Act.put, List.getElem_toArray, List.getElem_cons_zero, List.getElem_cons_succ, List.setIfInBounds_toArray, List.set_cons_zero, List.set_cons_succ]
      refine wpAnyH_take (i := 31) (v := ?_) rfl (by kernel_rfl) (by kernel_rfl) (by kernel_rfl) (fun _ _ _ h => h) (Or.inl ⟨by rfl, ?_⟩) (by assumption) ?_
      rotate_left
      · (intro w hSw; (try dsimp only at hSw); go_simp; (try with_reducible rfl))
      simp only [Act.put, List.getElem_toArray, List.getElem_cons_zero, List.getElem_cons_succ, List.setIfInBounds_toArray, List.set_cons_zero, List.set_cons_succ]
      refine wpAnyH_take (i := 32) (v := ?_) rfl (by kernel_rfl) (by kernel_rfl) (by kernel_rfl) (fun _ _ _ h => h) (Or.inl ⟨by rfl, ?_⟩) (by assumption) ?_
      rotate_left
      · (intro w hSw; (try dsimp only at hSw); obtain ⟨v0, v1, v2, v3, v4, v5⟩ := HV.out _ hSw; go_simp; (try with_reducible rfl))
      simp only [Act.put, List.getElem_toArray, List.getElem_cons_zero, List.getElem_cons_succ, List.setIfInBounds_toArray, List.set_cons_zero, List.set_cons_succ]
      refine wpAnyH_take (i := 33) (v := ?_) rfl (by kernel_rfl) (by kernel_rfl) (by kernel_rfl) (fun _ _ _ h => h) (Or.inl ⟨by rfl, ?_⟩) (by assumption) ?_
      rotate_left
      · (intro w hSw; (try dsimp only at hSw); go_simp; (try with_reducible rfl))
      simp only [Act.put, List.getElem_toArray, List.getElem_cons_zero, List.getElem_cons_succ, List.setIfInBounds_toArray, List.set_cons_zero, List.set_cons_succ]
      refine wpAnyH_take (i := 34) (v := ?_) rfl (by kernel_rfl) (by kernel_rfl) (by kernel_rfl) (fun _ _ _ h => h) (Or.inl ⟨by rfl, ?_⟩) (by assumption) ?_
      rotate_left
      · (intro w hSw; (try dsimp only at hSw); have p1 := (hSw.cell (p := ⟨W4.heap.size, 1, none⟩) (Blk.lt HP.out)).trans (Blk.cell HP.out 1); simp only [List.getElem?_toArray, List.getElem?_cons_zero, List.getElem?_cons_succ] at p1; go_simp; (try with_reducible rfl))
      simp only [Act.put, List.getElem_toArray, List.getElem_cons_zero, List.getElem_cons_succ, List.setIfInBounds_toArray, List.set_cons_zero, List.set_cons_succ]
      refine wpAnyH_take (i := 35) (v := ?_) rfl (by kernel_rfl) (by kernel_rfl) (by kernel_rfl) (fun _ _ _ h => h) (Or.inl ⟨by rfl, ?_⟩) (by assumption) ?_
      rotate_left
      · (intro w hSw; (try dsimp only at hSw); go_simp; (try with_reducible rfl))
      simp only [Act.put, List.getElem_toArray, List.getElem_cons_zero, List.getElem_cons_succ, List.setIfInBounds_toArray, List.set_cons_zero, List.set_cons_succ]
      refine wpAnyH_take (i := 36) (v := ?_) rfl (by kernel_rfl) (by kernel_rfl) (by kernel_rfl) (fun _ _ _ h => h) (Or.inl ⟨by rfl, ?_⟩) (by assumption) ?_
      rotate_left
      · (intro w hSw; (try dsimp only at hSw); go_simp; (try with_reducible rfl))
      simp only [Act.put, List.getElem_toArray, List.getElem_cons_zero, List.getElem_cons_succ, List.setIfInBounds_toArray, List.set_cons_zero, List.set_cons_succ]
      refine wpAnyH_take (i := 37) (v := ?_) rfl (by kernel_rfl) (by kernel_rfl) (by kernel_rfl) (fun _ _ _ h => h) (Or.inl ⟨by rfl, ?_⟩) (by assumption) ?_
      rotate_left
      · (intro w hSw; (try dsimp only at hSw); go_simp; (try with_reducible rfl))
      simp only [Act.put, List.getElem_toArray, List.getElem_cons_zero, List.getElem_cons_succ, List.setIfInBounds_toArray, List.set_cons_zero, List.set_cons_succ]
      refine wpAnyH_take (i := 38) (v := ?_) rfl (by kernel_rfl) (by kernel_rfl) (by kernel_rfl) (fun _ _ _ h => h) (Or.inl ⟨by rfl, ?_⟩) (by assumption) ?_
      rotate_left
      · (intro w hSw; (try dsimp only at hSw); go_simp; (try with_reducible rfl))
      simp only [Act.put, List.getElem_toArray, List.getElem_cons_zero, List.getElem_cons_succ, List.setIfInBounds_toArray, List.set_cons_zero, List.set_cons_succ]
      refine wpAnyH_take (i := 39) (v := ?_) rfl (by kernel_rfl) (by kernel_rfl) (by kernel_rfl) (fun _ _ _ h => h) (Or.inl ⟨by rfl, ?_⟩) (by assumption) ?_
      rotate_left
      · (intro w hSw; (try dsimp only at hSw); go_simp; (try with_reducible rfl))
      simp only [Act.put, List.getElem_toArray, List.getElem_cons_zero, List.getElem_cons_succ, List.setIfInBounds_toArray, List.set_cons_zero, List.set_cons_succ]
      refine wpAnyH_take (i := 40) (v := ?_) rfl (by kernel_rfl) (by kernel_rfl) (by kernel_rfl) (fun _ _ _ h => h) (Or.inl ⟨by rfl, ?_⟩) (by assumption) ?_
      rotate_left
      · (intro w hSw; (try dsimp only at hSw); go_simp; (try with_reducible rfl))
      simp only [Act.put, List.getElem_toArray, List.getElem_cons_zero, List.getElem_cons_succ, List.setIfInBounds_toArray, List.set_cons_zero, List.set_cons_succ]
      refine wpAnyH_take (i := 41) (v := ?_) rfl (by kernel_rfl) (by kernel_rfl) (by kernel_rfl) (fun _ _ _ h => h) (Or.inl ⟨by rfl, ?_⟩) (by assumption) ?_
      rotate_left
      · (intro w hSw; (try dsimp only at hSw); go_simp; (try with_reducible rfl))
      simp only [Act.put, List.getElem_toArray, List.getElem_cons_zero, List.getElem_cons_succ, List.setIfInBounds_toArray, List.set_cons_zero, List.set_cons_succ]
      refine wpAnyH_take (i := 42) (v := ?_) rfl (by kernel_rfl) (by kernel_rfl) (by kernel_rfl) (fun _ _ _ h => h) (Or.inl ⟨by rfl, ?_⟩) (by assumption) ?_
      rotate_left
      · (intro w hSw; (try dsimp only at hSw); go_simp; (try with_reducible rfl))
      simp only [Act.put, List.getElem_toArray, List.getElem_cons_zero, List.getElem_cons_succ, List.setIfInBounds_toArray, List.set_cons_zero, List.set_cons_succ]
      refine wpAnyH_take (i := 43) (v := ?_) rfl (by kernel_rfl) (by kernel_rfl) (by kernel_rfl) (fun _ _ _ h => h) (Or.inl ⟨by rfl, ?_⟩) (by assumption) ?_
      rotate_left
      · (intro w hSw; (try dsimp only at hSw); obtain ⟨u0, u1, u2, u3, u4, u5⟩ := HU.out _ hSw; go_simp; (try with_reducible rfl))
      simp only [Act.put, List.getElem_toArray, List.getElem_cons_zero, List.getElem_cons_succ, List.setIfInBounds_toArray, List.set_cons_zero, List.set_cons_succ]
      refine wpAnyH_take (i := 44) (v := ?_) rfl (by kernel_rfl) (by kernel_rfl) (by kernel_rfl) (fun _ _ _ h => h) (Or.inl ⟨by rfl, ?_⟩) (by assumption) ?_
      rotate_left
      · (intro w hSw; (try dsimp only at hSw); go_simp; (try with_reducible rfl))
      simp only [Act.put, List.getElem_toArray, List.getElem_cons_zero, List.getElem_cons_succ, List.setIfInBounds_toArray, List.set_cons_zero, List.set_cons_succ]
      refine wpAnyH_take (i := 45) (v := ?_) rfl (by kernel_rfl) (by kernel_rfl) (by kernel_rfl) (fun _ _ _ h => h) (Or.inl ⟨by rfl, ?_⟩) (by assumption) ?_
      rotate_left
      · (intro w hSw; (try dsimp only at hSw); go_simp; (try with_reducible rfl))
      simp only [Act.put, List.getElem_toArray, List.getElem_cons_zero, List.getElem_cons_succ, List.setIfInBounds_toArray, List.set_cons_zero, List.set_cons_succ]
      refine wpAnyH_take (i := 46) (v := ?_) rfl (by kernel_rfl) (by kernel_rfl) (by kernel_rfl) (fun _ _ _ h => h) (Or.inl ⟨by rfl, ?_⟩) (by assumption) ?_
      rotate_left
      · (intro w hSw; (try dsimp only at hSw); go_simp; (try with_reducible rfl))
      simp only [Act.put, List.getElem_toArray, List.getElem_cons_zero, List.getElem_cons_succ, List.setIfInBounds_toArray, List.set_cons_zero, List.set_cons_succ]
      refine wpAnyH_done (by kernel_rfl) ?_ _
      refine NoPanic.normal ?_
      have hbe := bch HBL.out hHeld
      have HBE := Lib.hid hbe; clear hbe hHeld
      go_wp2_with fail
      go_ret
      exact ⟨rfl, HBE.out⟩
    · have e1 := tb_ne (HNE.out q (by omega))
      obtain ⟨x0, x1, x2, x3, x4, x5⟩ := hv
      have HBW := Lib.hid hb; clear hb hu hgp
      go_wp2_with fail
      go_roundw
      case rel => exact ⟨q + 1, _, rfl, by omega, by go_num, HBW.out⟩
      case measure => simp [intOf]; omega
end Go.Proofs.Ytpnkkiokkhmjpaa
