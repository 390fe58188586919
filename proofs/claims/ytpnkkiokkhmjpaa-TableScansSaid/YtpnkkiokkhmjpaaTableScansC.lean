import Derived.Test.YtpnkkiokkhmjpaaTabLaw
import Derived.Test.YtpnkkiokkhmjpaaTabLawMath
/-
  The walk of the law TableScans, over what is asked of the program (stage 12).
-/
namespace Go.Proofs.Ytpnkkiokkhmjpaa
open Go.RowKit
set_option linter.unusedVariables false
set_option linter.unusedSimpArgs false

theorem bl_next : ∀ a k : List UInt8, Go.Op.bytesLess a (k ++ [0]) = !(Go.Op.bytesLess k a)
  | [], [] => by simp [Go.Op.bytesLess]
  | [], y :: k => by simp [Go.Op.bytesLess]
  | x :: a, [] => by
    have h : Go.Op.bytesLess a [] = false := by cases a <;> rfl
    have h2 : ¬ x < 0 := by intro h; have : x.toNat < 0 := h; omega
    simp [Go.Op.bytesLess, h, h2]
  | x :: a, y :: k => by
    have ih := bl_next a k
    show Go.Op.bytesLess (x :: a) (y :: (k ++ [0])) = _
    simp only [Go.Op.bytesLess, ih]
    have e1 : (x < y) ↔ x.toNat < y.toNat := Iff.rfl
    have e2 : (y < x) ↔ y.toNat < x.toNat := Iff.rfl
    by_cases h : x = y
    · subst h
      have h0 : ¬ x < x := by rw [e1]; omega
      simp [h0]
    · have hn : x.toNat ≠ y.toNat := fun e => h (UInt8.toNat_inj.1 e)
      have h' : ¬ y = x := fun e => h e.symm
      by_cases hlt : x < y
      · have : ¬ y < x := by rw [e2]; rw [e1] at hlt; omega
        simp [h, h', hlt, this]
      · have : y < x := by rw [e2]; rw [e1] at hlt; omega
        simp [h, h', hlt, this]
theorem lt_next (a k : ByteArray) : ltB a (k ++ ⟨#[0]⟩) = !(ltB k a) := by
  unfold ltB
  rw [tl_data, tl_data, tl_data, ByteArray.data_append, Array.toList_append]
  exact bl_next _ _
/-- Where the next scan begins, n keys told. -/
def nextB (T : List Rcd) : Nat → ByteArray
  | 0 => ⟨#[]⟩
  | m + 1 => (atR T m).key ++ ⟨#[0]⟩
theorem in_next {T : List Rcd} (h : Rise T) {n : Nat} (hn : n ≤ T.length) {j : Nat} (hj : j < T.length) : inScan (⟨6, nextB T n, ⟨#[]⟩, 0, ⟨#[]⟩, 0, ⟨#[]⟩⟩ : OpR) (atR T j).key = decide (n ≤ j) := by
  unfold inScan
  simp only
  have hz : decide ((⟨#[]⟩ : ByteArray).size = 0) = true := rfl
  rw [hz, Bool.true_or, Bool.and_true]
  cases n with
  | zero =>
    have : ltB (atR T j).key (nextB T 0) = false := by
      unfold ltB nextB
      rw [tl_data, tl_data]
      cases (atR T j).key.data.toList <;> rfl
    rw [this]; simp
  | succ m =>
    show (!(ltB (atR T j).key ((atR T m).key ++ ⟨#[0]⟩))) = _
    rw [lt_next, Bool.not_not]
    rcases Nat.lt_trichotomy m j with l | l | l
    · rw [rise_lt h l hj]; exact (decide_eq_true (by omega)).symm
    · subst l; rw [lt_irr]; exact (decide_eq_false (by omega)).symm
    · rw [lt_asym (rise_lt h l (by omega))]; exact (decide_eq_false (by omega)).symm
theorem filter_drop {T : List Rcd} {p : Rcd → Bool} {n : Nat} (h : ∀ j, j < T.length → p (atR T j) = decide (n ≤ j)) : T.filter p = T.drop n := by
  have e : T.filter p = (T.take n ++ T.drop n).filter p := by rw [List.take_append_drop]
  rw [e, List.filter_append]
  have e1 : (T.take n).filter p = [] := by
    rw [List.filter_eq_nil_iff]
    intro x hx
    obtain ⟨i, hi, rfl⟩ := List.mem_take_iff_getElem.1 hx
    have hi2 : i < T.length := by omega
    have := h i hi2
    rw [atR_get hi2, decide_eq_false (by omega)] at this
    rw [this]; simp
  have e2 : (T.drop n).filter p = T.drop n := by
    rw [List.filter_eq_self]
    intro x hx
    obtain ⟨i, hi, rfl⟩ := List.mem_drop_iff_getElem.1 hx
    have := h (n + i) (by omega)
    rw [atR_get (by omega), decide_eq_true (by omega)] at this
    exact this
  rw [e1, e2, List.nil_append]
theorem do_key {t : List Rcd} {o : OpR} (h : RightT t) {r : Rcd} (hr : r ∈ (doT t o).1) : r ∈ t ∨ r.key = o.key := by
  by_cases hc : checkO 2 o = 0
  · by_cases hk : o.kind = 6
    · rw [doT_ok ⟨h, hc⟩, if_pos hk] at hr; exact .inl hr
    · by_cases hl : t.length ≤ 19 ∨ lookT t o.key ≠ none ∨ ¬ (o.kind = 2 ∨ o.kind = 4)
      · obtain ⟨_, e1, _, e3⟩ := do_eff h hc hk hl
        have hlr := look_of_mem e1.rise hr
        rw [e3] at hlr
        by_cases hq : r.key = o.key
        · exact .inr hq
        · rw [if_neg hq] at hlr
          exact .inl (look_mem hlr).1
      · have h1 : ¬ t.length ≤ 19 := fun e => hl (.inl e)
        have h2 : lookT t o.key = none := Classical.byContradiction fun e => hl (.inr (.inl e))
        have h3 : o.kind = 2 ∨ o.kind = 4 := Classical.byContradiction fun e => hl (.inr (.inr e))
        by_cases h4 : o.kind = 2 ∨ o.kind = 4 ∧ o.rev = 0
        · rw [do_full h hc h4 h1 h2] at hr; exact .inl hr
        · have e : idxT t o.key = none := by
            have := look_idx (k := o.key) h.2.1
            rw [h2] at this
            cases e : idxT t o.key with
            | none => rfl
            | some i => rw [e] at this; cases this
          rw [doT_ok ⟨h, hc⟩, if_neg hk, if_neg (by omega), if_pos (by omega), e, if_pos (by show (0 : Int) ≠ o.rev; omega)] at hr
          exact .inl hr
  · rw [doT_bad (fun e => hc e.2)] at hr; exact .inl hr
theorem tabD_keys (f : Nat → Nat → Int) : ∀ k, ∀ r ∈ tabD f k, r.key.size ≤ 5
  | 0, r, h => nomatch h
  | k + 1, r, h => by
    rcases do_key (tabD_right f k) h with h1 | h1
    · exact tabD_keys f k r h1
    · rw [h1]; exact (opR_bounds (f k)).2.1
theorem table_keys (f : Nat → Nat → Int) (n : Nat) {r : Rcd} (h : r ∈ tableR f n) : r.key.size ≤ 5 := by
  obtain ⟨i, hi, rfl⟩ := List.getElem_of_mem h
  rw [← atR_get hi]
  have hl : (tableR f n).length = (tabD f (min n 40)).length := twK_len _ _ _
  rw [hl] at hi
  unfold tableR
  rw [twK_at _ (Nat.le_refl _) i hi, if_pos hi, tw_key]
  exact tabD_keys f _ _ (atR_mem hi)
theorem next_size {T : List Rcd} (h : ∀ r ∈ T, r.key.size ≤ 5) {n : Nat} (hn : n ≤ T.length) : (nextB T n).size ≤ 6 := by
  cases n with
  | zero => show (0 : Nat) ≤ 6; omega
  | succ m =>
    show ((atR T m).key ++ (⟨#[0]⟩ : ByteArray)).size ≤ 6
    have := h _ (atR_mem (show m < T.length by omega))
    rw [ByteArray.size_append]
    show (atR T m).key.size + 1 ≤ 6
    omega
theorem scan_wf {k : ByteArray} (h : k.size ≤ 6) : OpWf (⟨6, k, ⟨#[]⟩, 0, ⟨#[]⟩, 0, ⟨#[]⟩⟩ : OpR) :=
  ⟨wf_within (by show _ ≤ (6 : Int); omega) (by show (6 : Int) ≤ _; omega), by show k.size ≤ _; omega, by show (0 : Nat) ≤ _; omega, wf_within (by show _ ≤ (0 : Int); omega) (by show (0 : Int) ≤ _; omega), by show (0 : Nat) ≤ _; omega, wf_within (by show _ ≤ (0 : Int); omega) (by show (0 : Int) ≤ _; omega), by show (0 : Nat) ≤ _; omega⟩
theorem scan_ok {k : ByteArray} (h : k.size ≤ 6) : checkO 2 (⟨6, k, ⟨#[]⟩, 0, ⟨#[]⟩, 0, ⟨#[]⟩⟩ : OpR) = 0 := by
  have hs : (⟨#[]⟩ : ByteArray).size = 0 := rfl
  unfold checkO
  rw [if_neg, if_neg (by omega)]
  unfold BadO maxN
  intro h
  rcases h with h | h | h | h | h | h | h | h | h | h | h | h
  · exact h (.inr rfl)
  all_goals first | omega | (simp only at h; omega)
/-- The keys told from there on. -/
def toldB (T : List Rcd) (n : Nat) : List ByteArray := ((T.drop n).take 5).map (·.key)
theorem told_len (T : List Rcd) (n : Nat) : (toldB T n).length = min 5 (T.length - n) := by simp [toldB]
theorem told_at (T : List Rcd) (n k : Nat) (h : k < (toldB T n).length) : (toldB T n).getD k ByteArray.empty = (atR T (n + k)).key := by
  have hl := told_len T n
  rw [List.getD_eq_getElem?_getD, List.getElem?_eq_getElem h, atR_get (by omega)]
  simp [toldB]
theorem scan_math {T : List Rcd} (h : RightT T) (hk : ∀ r ∈ T, r.key.size ≤ 5) {n : Nat} (hn : n ≤ T.length) : doT T (⟨6, nextB T n, ⟨#[]⟩, 0, ⟨#[]⟩, 0, ⟨#[]⟩⟩ : OpR) = (T, ⟨0, 0, ⟨#[]⟩, toldB T n⟩) := by
  rw [doT_ok ⟨h, scan_ok (next_size hk hn)⟩, if_pos rfl]
  unfold scanT toldB
  rw [filter_drop (n := n) fun j hj => in_next h.rise hn hj]
  rfl
set_option maxRecDepth 100000 in
set_option maxHeartbeats 8000000 in
theorem tableScans_core (kH : CheckT) (kW : WritesT) (kR : RightQT) (kS : SameQT) (kD : DoT) (a0 : Option Addr) (n0 cap0 : Nat) (f : Nat → Nat → Int) (w : World) (h0 : IsRaw w a0 n0 5 f) :
    Calls Try.prog 6 #[.slice a0 n0 cap0] w fun e w' => e = .returned (.bool true) ∧ Below w.heap.size w w' := by
  have HTR := Lib.hid (table_right f n0)
  have HKS : Hid (∀ r ∈ tableR f n0, r.key.size ≤ 5) := fun r h => table_keys f n0 h
  generalize hT : tableR f n0 = T at HTR HKS
  have Hraw0 := Lib.hid h0; clear h0
  go_enter Try.func6, Try.ntmps6
  have q_aw := fun W => awakeT_any kH kW kR kS kD W
  go_wp2_with fail
  ((with_reducible refine (q_aw _).mono ?_); rintro e W1 ⟨rfl, b_⟩)
  have h_b := b_
  have h_raw := Hraw0.out.below b_
  have HB1 := Lib.hid h_b; clear h_b
  have Hraw1 := Lib.hid h_raw; clear h_raw
  clear b_
  clear q_aw
  have q_tb := table_any a0 n0 cap0 f _ Hraw1.out
  go_wp2_with fail
  ((with_reducible refine q_tb.mono ?_); rintro e W2 ⟨v_, l_, rfl, hr_, hm_, hx_, b_⟩)
  obtain ⟨AT, nT, capT, hv_, hcapT, ht_⟩ := tab_ts hr_ hm_ hx_
  subst hv_
  have h_b := bch HB1.out b_
  have h_TT := ht_
  have HB2 := Lib.hid h_b; clear h_b
  have HTT2 := Lib.hid h_TT; clear h_TT
  clear b_ hr_ hm_ hx_ ht_ q_tb
  rw [hT] at HTT2
  clear hT
  have hnT : nT ≤ 20 := ts_len HTT2.out HTR.out
  have HTL : Hid (nT = T.length) := HTT2.out.1
  go_wp2_with fail
  go_loopw [5, 6, 7] (fun f' n' i' wy => ∃ (q p : Nat) (wr : World), wr = wy ∧ q ≤ 8 ∧ p = min (5 * q) T.length ∧ f' = .string (nextB T p) ∧ n' = .int .i64 p ∧ i' = .int .i64 q ∧ Below W2.heap.size W2 wr) (fun _ _ i _ => 8 - (intOf i).toNat)
  case atStart => exact ⟨0, 0, _, rfl, by omega, by omega, rfl, rfl, rfl, Below.refl _ _⟩
  case round =>
    obtain ⟨q, p, wr, rfl, hq8, hpq, rfl, rfl, rfl, hb⟩ := hrel
    have hpl : p ≤ nT := by have := HTL.out; omega
    have HPQ := Lib.hid hpq; clear hpq
    have HBR := Lib.hid hb; clear hb
    have HTS := Lib.hid (HTT2.out.below HBR.out)
    by_cases hlt : q < 8
    · have hqi : (q : Int) < 8 := by omega
      have hpT : p ≤ T.length := by have := HTL.out; omega
      have HDO := Lib.hid (scan_math HTR.out HKS.out hpT)
      have HWF := Lib.hid (scan_wf (next_size HKS.out hpT))
      have HKL : Hid ((toldB T p).length = min 5 (nT - p)) := by show _ = _; rw [told_len, HTL.out]
      have HKA : Hid (∀ k, k < (toldB T p).length → (toldB T p).getD k ByteArray.empty = (atR T (p + k)).key) := told_at T p
      generalize toldB T p = ks at *
      generalize nextB T p = fr at *
      clear hpT
      have q_do := do_at kD HDO.out 0 rfl HWF.out hcapT HTS.out hnT
      go_wp2_with fail
      ((with_reducible refine q_do.mono ?_); rintro e W3 ⟨A1, n1, cap1, K1, k1, kc1, rfl, hcap1, ht_, hkc1, hs_, b_⟩)
      go_upto_region 9 with fail
      have h_b := (bch HBR.out b_).alloc (bch HBR.out b_).size (.cells #[.int .i64 0, .int .i64 0, .string ⟨#[]⟩, .slice K1 k1 kc1] 37)
      have h_T := (HTS.out.below b_).below ((Below.refl _ _).alloc (Nat.le_refl _) (.cells #[.int .i64 0, .int .i64 0, .string ⟨#[]⟩, .slice K1 k1 kc1] 37))
      have h_T1 := IsTs.below ht_ ((Below.refl _ _).alloc (Nat.le_refl _) (.cells #[.int .i64 0, .int .i64 0, .string ⟨#[]⟩, .slice K1 k1 kc1] 37))
      have h_S1 := IsSs.below hs_ ((Below.refl _ _).alloc (Nat.le_refl _) (.cells #[.int .i64 0, .int .i64 0, .string ⟨#[]⟩, .slice K1 k1 kc1] 37))
      have h_P1 := Blk.new W3 (.cells #[.int .i64 0, .int .i64 0, .string ⟨#[]⟩, .slice K1 k1 kc1] 37)
      obtain ⟨V_W3, hV_⟩ : ∃ W, W3.alloc (.cells #[.int .i64 0, .int .i64 0, .string ⟨#[]⟩, .slice K1 k1 kc1] 37) = W := ⟨_, rfl⟩
      rw [hV_] at h_b h_T h_T1 h_S1 h_P1 ⊢
      clear hV_
      have HB11 := Lib.hid h_b; clear h_b
      have HT11 := Lib.hid h_T; clear h_T
      have HT111 := Lib.hid h_T1; clear h_T1
      have HS111 := Lib.hid h_S1; clear h_S1
      have HP111 := Lib.hid h_P1; clear h_P1
      have hnb1 : n1 ≤ 20 := ts_len HT111.out HTR.out
      clear b_ ht_ hs_ q_do
      have hk1 : k1 = min 5 (nT - p) := by have h := HS111.out.1; have h2 := HKL.out; omega
      have hk5 : k1 ≤ 5 := by omega
      have HK1 := Lib.hid hk1; clear hk1
      have HKL1 : Hid (k1 = ks.length) := HS111.out.1
      have g5 : decide ((5 : Int) < (k1 : Int)) = false := decide_eq_false (by omega)
      have hw1 : IntKind.i64.wrap ((nT : Int) - (p : Int)) = (nT : Int) - (p : Int) := IntWalk.i64_in _ (by omega)
      have hmn : min 5 ((nT : Int) - (p : Int)) = (k1 : Int) := by have := HK1.out; omega
      have r0 := Blk.cell HP111.out 0
      have r3 := Blk.cell HP111.out 3
      simp only [List.getElem?_toArray, List.getElem?_cons_zero, List.getElem?_cons_succ] at r0 r3
      have q_s := refsame12_any T T _ _ nT n1 capT cap1 _ HT11.out HT111.out
      rw [sameT_self] at q_s
      go_wp2_with fail
      ((with_reducible refine q_s.mono ?_); rintro e W5 ⟨rfl, b_⟩)
      clear r0 r3
      have h_b := bch HB11.out b_
      have h_T := HT11.out.below b_
      have h_S1 := HS111.out.below b_
      have h_P1 := HP111.out.below b_
      have HB12 := Lib.hid h_b; clear h_b
      have HT12 := Lib.hid h_T; clear h_T
      have HS112 := Lib.hid h_S1; clear h_S1
      have HP112 := Lib.hid h_P1; clear h_P1
      clear b_ q_s
      have r0 := Blk.cell HP112.out 0
      have r3 := Blk.cell HP112.out 3
      simp only [List.getElem?_toArray, List.getElem?_cons_zero, List.getElem?_cons_succ] at r0 r3
      go_wp2_with fail
      all_goals
        clear r0 r3
        go_loopw [6, 10] (fun n' k' wy => ∃ (s k : Nat) (wq : World), wq = wy ∧ k ≤ k1 ∧ s = p + k ∧ n' = .int .i64 s ∧ k' = .int .i64 k ∧ Below W5.heap.size W5 wq) (fun _ i _ => k1 - (intOf i).toNat)
        case atStart => exact ⟨p, 0, _, rfl, by omega, by omega, rfl, rfl, Below.refl _ _⟩
        case round =>
          obtain ⟨s, k, wq, rfl, hk, hs, rfl, rfl, hb⟩ := hrel
          have HS := Lib.hid hs; clear hs
          have r3 := Blk.cell (Blk.below HP112.out hb) 3
          simp only [List.getElem?_toArray, List.getElem?_cons_zero, List.getElem?_cons_succ] at r3
          by_cases hkk : k < k1
          · have hki : (k : Int) < (k1 : Int) := by omega
            have hk0 : (0 : Int) ≤ (k : Int) := by omega
            have hsn : s < nT := by have := HS.out; have := HK1.out; omega
            have hsi : (s : Int) < (nT : Int) := by omega
            have hs0 : (0 : Int) ≤ (s : Int) := by omega
            have hd1 : decide ((s : Int) < 0) = false := decide_eq_false (by omega)
            have hd2 : decide ((nT : Int) ≤ (s : Int)) = false := decide_eq_false (by omega)
            have hd2n : decide (nT ≤ s) = false := decide_eq_false (by omega)
            have hd3 : decide ((k : Int) < 0) = false := decide_eq_false (by omega)
            have hd4 : decide ((k1 : Int) ≤ (k : Int)) = false := decide_eq_false (by omega)
            have hd4n : decide (k1 ≤ k) = false := decide_eq_false (by omega)
            obtain ⟨bt, ot, hA, hbt⟩ := HT12.out.block (by omega)
            subst hA
            obtain ⟨Et, mt, ct, hat, _, _⟩ := HT12.out.at (i := s) (by have := HTL.out; omega) hb
            have hss := HS112.out.2.2.2
            obtain ⟨bk, ok, hK, hbk, hck⟩ := hss (by omega)
            subst hK
            have y0 := (hb.cell (p := ⟨bk, ok + k, none⟩) hbk).trans (hck k (by have := HKL1.out; omega))
            rw [HKA.out k (by have := HKL1.out; omega), ← HS.out] at y0
            obtain ⟨x0, _, _, _, _, _⟩ := hat
            have hw2 : IntKind.i64.wrap ((s : Int) + 1) = (s : Int) + 1 := IntWalk.i64_in _ (by omega)
            generalize (atR T s).key = kx at *
            have enx : (kx.toList != kx.toList) = false := by simp
            clear hck hss
            have HBW := Lib.hid hb; clear hb
            go_wp2_with fail
            go_quiet (fail)
            clear x0 y0 r3
            go_wp2_with fail
            go_roundw
            case rel => exact ⟨s + 1, k + 1, _, rfl, by omega, by have := HS.out; omega, by go_num, by go_num, bdn HBW.out _⟩
            case measure => simp [intOf]; omega
          · have hke : k = k1 := by omega
            have HKE := Lib.hid hke; clear hke
            have hki : ¬ ((k : Int) < (k1 : Int)) := by omega
            clear hk hkk
            have HBE := Lib.hid (bch HB2.out (bch HB12.out hb))
            by_cases hz : k1 = 0
            · have hz2 : ((k1 : Int) == 0) = true := by simp; omega
              have hse : ((s : Int) == (nT : Int)) = true := by have := HS.out; have := HKE.out; have := HK1.out; simp; omega
              have HZ := Lib.hid hz; clear hz
              have HBW := Lib.hid hb; clear hb
              go_wp2_with fail
              go_ret
              exact ⟨rfl, HBE.out⟩
            · have hz2 : ((k1 : Int) == 0) = false := by simp; omega
              obtain ⟨c, hc⟩ : ∃ c : Nat, (k1 : Int) - 1 = (c : Int) := ⟨k1 - 1, by omega⟩
              have hw2 : IntKind.i64.wrap ((k1 : Int) - 1) = (c : Int) := by rw [hc]; exact IntWalk.i64_in _ (by omega)
              have hci : (c : Int) < (k1 : Int) := by omega
              have hc0 : (0 : Int) ≤ (c : Int) := by omega
              have hd3 : decide ((c : Int) < 0) = false := decide_eq_false (by omega)
              have hd4 : decide ((k1 : Int) ≤ (c : Int)) = false := decide_eq_false (by omega)
              have hss := HS112.out.2.2.2
              obtain ⟨bk, ok, hK, hbk, hck⟩ := hss (by omega)
              subst hK
              have y0 := (hb.cell (p := ⟨bk, ok + c, none⟩) hbk).trans (hck c (by have := HKL1.out; omega))
              rw [HKA.out c (by have := HKL1.out; omega)] at y0
              have hR : (atR T (p + c)).key ++ ⟨#[0]⟩ = nextB T (p + c + 1) := rfl
              have hsz : (atR T (p + c)).key.size ≤ 5 := HKS.out _ (atR_mem (by have := HTL.out; have := HK1.out; omega))
              have hsa : ∀ W : World, (Op.stringOp .add (atR T (p + c)).key ⟨#[0]⟩).run Try.prog W = .ok (.string (nextB T (p + c + 1))) W := fun W => by
                rw [← hR]
                exact str_add (by show _ + 1 ≤ _; omega) W
              have HNX : Hid (nextB T (p + c + 1) = nextB T (p + k1)) := by show _ = _; rw [show p + c + 1 = p + k1 by omega]
              generalize nextB T (p + c + 1) = R at *
              generalize (atR T (p + c)).key = kx at *
              have HC := Lib.hid hc; clear hc hR hsz hck hss hz
              have HBW := Lib.hid hb; clear hb
              have hw3 : IntKind.i64.wrap ((q : Int) + 1) = (q : Int) + 1 := IntWalk.i64_in _ (by omega)
              go_wp2_with fail
              go_roundw
              case rel => exact ⟨q + 1, p + k1, _, rfl, by omega, by have := HPQ.out; have := HK1.out; have := HTL.out; omega, by rw [HNX.out], congrArg (Value.int .i64) (by have := HS.out; have := HKE.out; omega), by go_num, bch HB12.out HBW.out⟩
              case measure => simp [intOf]; omega
    · have hqi : ¬ ((q : Int) < 8) := by omega
      have hse : ((p : Int) == (nT : Int)) = true := by have := HPQ.out; have := HTL.out; simp; omega
      go_wp2_with fail
      go_ret
      exact ⟨rfl, bch HB2.out HBR.out⟩
end Go.Proofs.Ytpnkkiokkhmjpaa
