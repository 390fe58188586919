import Derived.Test.YtpnkkiokkhmjpaaTabLaw
import Derived.Test.YtpnkkiokkhmjpaaTabLawMath
/-
  The walk of the law TableFull, over what is asked of the program (stage 12).
-/
namespace Go.Proofs.Ytpnkkiokkhmjpaa
open Go.RowKit
set_option linter.unusedVariables false
set_option linter.unusedSimpArgs false

/-- A key of one letter. -/
def letB (i : Nat) : ByteArray := bs [UInt8.ofNat (97 + i)]
theorem let_nat {i : Nat} (h : i < 26) : (UInt8.ofNat (97 + i)).toNat = 97 + i := by
  rw [UInt8.toNat_ofNat']
  exact Nat.mod_eq_of_lt (by omega)
theorem let_inj {i j : Nat} (hi : i < 26) (hj : j < 26) (h : letB i = letB j) : i = j := by
  have h1 : UInt8.ofNat (97 + i) = UInt8.ofNat (97 + j) := by simpa [letB, bs] using h
  have h2 := congrArg UInt8.toNat h1
  rw [let_nat hi, let_nat hj] at h2
  omega
set_option maxRecDepth 100000 in
set_option maxHeartbeats 8000000 in
theorem letter_any (i : Nat) (hi : i < 26) (w : World) :
    Calls Try.prog 28 #[.int .i64 i] w fun e w' => e = .returned (.string (letB i)) ∧ Below w.heap.size w w' := by
  have hw1 : IntKind.i64.wrap (97 + (i : Int)) = 97 + (i : Int) := IntWalk.i64_in _ (by omega)
  have hw2 : IntKind.u8.wrap (97 + (i : Int)) = 97 + (i : Int) := by rw [IntKind.wrap_u8]; omega
  have hq : (convert 73 9 (.slice (some ⟨w.heap.size, 0, none⟩) 1 1)).run Try.prog (w.alloc (.cells #[.int .u8 (97 + (i : Int))] 5)) = .ok (.string (letB i)) (w.alloc (.cells #[.int .u8 (97 + (i : Int))] 5)) := by
    have h1 : ((UInt8.ofNat (97 + i)).toNat : Int) = 97 + (i : Int) := by rw [let_nat hi]; omega
    have h2 : (w.alloc (.cells #[.int .u8 (UInt8.ofNat (97 + i)).toNat] 5)).ownsRow w.heap.size 5 1 (.slice (some ⟨w.heap.size, 0, none⟩) 1 1) [UInt8.ofNat (97 + i)].length ([UInt8.ofNat (97 + i)].map fun c => Value.int .u8 c.toNat) :=
      World.ownsRow_lit w #[.int .u8 (UInt8.ofNat (97 + i)).toNat] 1 (Nat.le_refl _) (by unfold maxLen; omega) rfl
    rw [List.map_singleton, h1] at h2
    exact conv_bytes (l := [UInt8.ofNat (97 + i)]) (by rw [List.map_singleton, h1]; exact h2)
  have hb : Below w.heap.size w (w.alloc (.cells #[.int .u8 (97 + (i : Int))] 5)) := (Below.refl _ _).alloc (Nat.le_refl _) _
  have HB := Lib.hid hb; clear hb
  generalize letB i = L at *
  go_enter Try.func28, Try.ntmps28
  go_wp2_with fail
  go_ret
  exact ⟨rfl, HB.out⟩
/-- The first k letters, each put once. -/
def FullP (T : List Rcd) (k : Nat) : Prop := RightT T ∧ T.length = k ∧ (∀ j, j < k → ∃ r, lookT T (letB j) = some r ∧ r.rev = 1) ∧ (∀ j, k ≤ j → j < 26 → lookT T (letB j) = none)
theorem put_new {t : List Rcd} {o : OpR} (h : RightT t) (hc : checkO 2 o = 0) (hk : o.kind = 2 ∨ o.kind = 4 ∧ o.rev = 0) (hl : t.length ≤ 19) (hx : lookT t o.key = none) : doT t o = (insT t (newR o), ⟨0, 1, ⟨#[]⟩, []⟩) := by
  have e : idxT t o.key = none := by
    have := look_idx (k := o.key) h.2.1
    rw [hx] at this
    cases e : idxT t o.key with
    | none => rfl
    | some i => rw [e] at this; cases this
  have ep : putT t none o = (insT t (newR o), ⟨0, 1, ⟨#[]⟩, []⟩) := if_neg (by omega)
  rw [doT_ok ⟨h, hc⟩, if_neg (by omega), e]
  rcases hk with h2 | ⟨h4, hr⟩
  · rw [if_pos h2, ep]
  · rw [if_neg (by omega), if_pos h4, if_neg (fun h => h (by show (0 : Int) = o.rev; omega)), ep]
theorem full_ok (kd : Int) (key v : ByteArray) (h : 1 ≤ kd ∧ kd ≤ 5) (hk : 1 ≤ key.size ∧ key.size ≤ 16) (hv : v.size ≤ 200) : checkO 2 (⟨kd, key, v, 0, ⟨#[]⟩, 0, ⟨#[]⟩⟩ : OpR) = 0 :=
  ok_key h hk hv (by show (0 : Nat) ≤ 16; omega) (by show (0 : Nat) ≤ 40; omega) ⟨Int.le_refl 0, by show (0 : Int) ≤ 9007199254740992; decide⟩ ⟨Int.le_refl 0, by show (0 : Int) ≤ 9007199254740992; decide⟩
theorem full_wf (kd : Int) (key v : ByteArray) (h : 1 ≤ kd ∧ kd ≤ 6) (hk : key.size ≤ 16) (hv : v.size ≤ 200) : OpWf (⟨kd, key, v, 0, ⟨#[]⟩, 0, ⟨#[]⟩⟩ : OpR) :=
  ⟨wf_within (by show _ ≤ kd; omega) (by show kd ≤ _; omega), by show key.size ≤ _; omega, by show v.size ≤ _; omega, wf_within (by show _ ≤ (0 : Int); omega) (by show (0 : Int) ≤ _; omega), by show (0 : Nat) ≤ _; omega, wf_within (by show _ ≤ (0 : Int); omega) (by show (0 : Int) ≤ _; omega), by show (0 : Nat) ≤ _; omega⟩
theorem full_step {T : List Rcd} {k : Nat} (h : FullP T k) (hk : k < 20) : ∃ U, doT T (⟨2, letB k, ⟨#[118]⟩, 0, ⟨#[]⟩, 0, ⟨#[]⟩⟩ : OpR) = (U, ⟨0, 1, ⟨#[]⟩, []⟩) ∧ FullP U (k + 1) := by
  obtain ⟨hr, hl, h1, h0⟩ := h
  have hx := h0 k (Nat.le_refl _) (by omega)
  have hc := full_ok 2 (letB k) ⟨#[118]⟩ ⟨by omega, by omega⟩ ⟨by show 1 ≤ 1; omega, by show 1 ≤ 16; omega⟩ (by show 1 ≤ 200; omega)
  have e := put_new hr hc (.inl rfl) (by omega) hx
  have hrU := do_right hr (⟨2, letB k, ⟨#[118]⟩, 0, ⟨#[]⟩, 0, ⟨#[]⟩⟩ : OpR)
  rw [e] at hrU
  have hn : ∀ x ∈ T, x.key ≠ (newR (⟨2, letB k, ⟨#[118]⟩, 0, ⟨#[]⟩, 0, ⟨#[]⟩⟩ : OpR)).key := look_none.1 hx
  have hlk : ∀ q, lookT (insT T (newR (⟨2, letB k, ⟨#[118]⟩, 0, ⟨#[]⟩, 0, ⟨#[]⟩⟩ : OpR))) q = if q = letB k then some (newR (⟨2, letB k, ⟨#[118]⟩, 0, ⟨#[]⟩, 0, ⟨#[]⟩⟩ : OpR)) else lookT T q := fun q => ins_look (r := newR (⟨2, letB k, ⟨#[118]⟩, 0, ⟨#[]⟩, 0, ⟨#[]⟩⟩ : OpR)) hr.2.1 hn q
  refine ⟨_, e, hrU, by rw [ins_len]; omega, fun j hj => ?_, fun j hj hj2 => ?_⟩
  · rw [hlk]
    by_cases e2 : j = k
    · subst e2; exact ⟨_, if_pos rfl, rfl⟩
    · rw [if_neg (fun e3 => e2 (let_inj (by omega) (by omega) e3))]
      exact h1 j (by omega)
  · rw [hlk, if_neg (fun e3 => by have := let_inj (by omega) (by omega) e3; omega)]
    exact h0 j (by omega) hj2
theorem full_end {T : List Rcd} (h : FullP T 20) {j : Nat} (hj : j < 20) :
    doT T (⟨2, ⟨#[122]⟩, ⟨#[]⟩, 0, ⟨#[]⟩, 0, ⟨#[]⟩⟩ : OpR) = (T, ⟨50, 0, ⟨#[]⟩, []⟩) ∧ doT T (⟨4, ⟨#[122]⟩, ⟨#[]⟩, 0, ⟨#[]⟩, 0, ⟨#[]⟩⟩ : OpR) = (T, ⟨50, 0, ⟨#[]⟩, []⟩) ∧ (∃ U1, doT T (⟨2, letB j, ⟨#[]⟩, 0, ⟨#[]⟩, 0, ⟨#[]⟩⟩ : OpR) = (U1, ⟨0, 2, ⟨#[]⟩, []⟩)) ∧
    ∃ U V, RightT U ∧ doT T (⟨3, letB j, ⟨#[]⟩, 0, ⟨#[]⟩, 0, ⟨#[]⟩⟩ : OpR) = (U, ⟨0, 1, ⟨#[]⟩, []⟩) ∧ doT U (⟨4, ⟨#[122]⟩, ⟨#[]⟩, 0, ⟨#[]⟩, 0, ⟨#[]⟩⟩ : OpR) = (V, ⟨0, 1, ⟨#[]⟩, []⟩) := by
  obtain ⟨hr, hl, h1, h0⟩ := h
  have hz : lookT T (⟨#[122]⟩ : ByteArray) = none := h0 25 (by omega) (by omega)
  have cp := full_ok 2 ⟨#[122]⟩ ⟨#[]⟩ ⟨by omega, by omega⟩ ⟨by show 1 ≤ 1; omega, by show 1 ≤ 16; omega⟩ (by show 0 ≤ 200; omega)
  have cc := full_ok 4 ⟨#[122]⟩ ⟨#[]⟩ ⟨by omega, by omega⟩ ⟨by show 1 ≤ 1; omega, by show 1 ≤ 16; omega⟩ (by show 0 ≤ 200; omega)
  have cj := full_ok 2 (letB j) ⟨#[]⟩ ⟨by omega, by omega⟩ ⟨by show 1 ≤ 1; omega, by show 1 ≤ 16; omega⟩ (by show 0 ≤ 200; omega)
  have cd := full_ok 3 (letB j) ⟨#[]⟩ ⟨by omega, by omega⟩ ⟨by show 1 ≤ 1; omega, by show 1 ≤ 16; omega⟩ (by show 0 ≤ 200; omega)
  obtain ⟨r, hx, hrv⟩ := h1 j hj
  have pair : ∀ {t : List Rcd} {o : OpR} {y : RepR}, (doT t o).2 = y → doT t o = ((doT t o).1, y) := fun h => by rw [← h]
  refine ⟨do_full hr cp (.inl rfl) (by omega) hz, do_full hr cc (.inr ⟨rfl, rfl⟩) (by omega) hz, ?_, ?_⟩
  · obtain ⟨e1, _⟩ := do_one hr cj (by simp only; omega) hx
    have ek : keyF (some r) (⟨2, letB j, ⟨#[]⟩, 0, ⟨#[]⟩, 0, ⟨#[]⟩⟩ : OpR) = (some (putR r (⟨2, letB j, ⟨#[]⟩, 0, ⟨#[]⟩, 0, ⟨#[]⟩⟩ : OpR)), ⟨0, r.rev + 1, ByteArray.empty, []⟩) := by
      unfold keyF putF
      rw [if_pos rfl]
      simp only
      rw [if_neg (by unfold maxN; omega)]
    rw [ek, hrv] at e1
    exact ⟨_, pair e1⟩
  · have hlk := look_idx (k := letB j) hr.2.1
    rw [hx] at hlk
    cases hi : idxT T (letB j) with
    | none => rw [hi] at hlk; cases hlk
    | some i =>
      rw [hi] at hlk
      simp only [Option.map_some, Option.some.injEq] at hlk
      obtain ⟨hil, hik⟩ := idx_some hi
      have hd : doT T (⟨3, letB j, ⟨#[]⟩, 0, ⟨#[]⟩, 0, ⟨#[]⟩⟩ : OpR) = (T.eraseIdx i, ⟨0, 1, ⟨#[]⟩, []⟩) := by
        rw [doT_ok ⟨hr, cd⟩, if_neg (by simp only; omega), if_neg (by simp only; omega), if_neg (by simp only; omega), hi]
        simp only
        rw [if_neg (by omega), ← hlk, hrv]
        rfl
      have hrU := right_erase i hr
      have hlz : lookT (T.eraseIdx i) (⟨#[122]⟩ : ByteArray) = none := by
        rw [erase_look hr.2.1 hil]
        split
        · rfl
        · exact hz
      exact ⟨_, _, hrU, hd, put_new hrU cc (.inr ⟨rfl, rfl⟩) (by rw [List.length_eraseIdx]; split <;> omega) hlz⟩
set_option maxRecDepth 100000 in
set_option maxHeartbeats 8000000 in
theorem tableFull_core (kH : CheckT) (kW : WritesT) (kR : RightQT) (kS : SameQT) (kD : DoT) (x1 : Int) (w : World) (w1 : (Lit.int .i64 x1).wf = true) :
    Calls Try.prog 7 #[.int .i64 x1] w fun e w' => e = .returned (.bool true) ∧ Below w.heap.size w w' := by
  have qp := fun W => pickN12_nat x1 20 (by omega) (by omega) w1 W
  have hj : pickN x1 20 < 20 := by have := pickN_lt x1 20 (by omega); omega
  generalize pickN x1 20 = j at *
  go_enter Try.func7, Try.ntmps7
  have q_aw := fun W => awakeT_any kH kW kR kS kD W
  go_wp2_with fail
  ((with_reducible refine (q_aw _).mono ?_); rintro e W1 ⟨rfl, b_⟩)
  have h_b := b_
  have HB1 := Lib.hid h_b; clear h_b
  clear b_
  clear q_aw
  go_wp2_with fail
  go_loopw [4, 5] (fun t' i' wy => ∃ (k : Nat) (wr : World) (A : Option Addr) (m cap : Nat) (T : List Rcd), wr = wy ∧ k ≤ 20 ∧ t' = .slice A m cap ∧ i' = .int .i64 k ∧ m ≤ cap ∧ IsTs wr A m T ∧ FullP T k ∧ Below w.heap.size w wr) (fun _ i _ => 20 - (intOf i).toNat)
  case atStart => exact ⟨0, _, none, 0, 0, [], rfl, by omega, rfl, rfl, by omega, isTs_nil _ _, ⟨right_nil, rfl, (fun j hj => by omega), fun j _ _ => rfl⟩, HB1.out⟩
  case round =>
    obtain ⟨k, wr, A, m, cap, T, rfl, hk, rfl, rfl, hcapT, hts, hfull, hb⟩ := hrel
    have hnT : m ≤ 20 := ts_len hts hfull.1
    have HTS := Lib.hid hts; clear hts
    have HFU := Lib.hid hfull; clear hfull
    have HB := Lib.hid hb; clear hb
    by_cases hlt : k < 20
    · have hki : (k : Int) < 20 := by omega
      have qL := fun W => letter_any k (by omega) W
      obtain ⟨U, hdo, hfu⟩ := full_step HFU.out hlt
      have HDO := Lib.hid hdo; clear hdo
      have HFU2 := Lib.hid hfu; clear hfu
      have HWF := Lib.hid (full_wf 2 (letB k) ⟨#[118]⟩ ⟨by omega, by omega⟩ (by show 1 ≤ 16; omega) (by show 1 ≤ 200; omega))
      generalize letB k = L at *
      have hw1 : IntKind.i64.wrap ((k : Int) + 1) = (k : Int) + 1 := IntWalk.i64_in _ (by omega)
      go_wp2_with fail
      ((with_reducible refine (qL _).mono ?_); rintro e W2 ⟨rfl, b_⟩)
      have h_b := bch HB.out b_
      have h_T := HTS.out.below b_
      have HB1 := Lib.hid h_b; clear h_b
      have HT1 := Lib.hid h_T; clear h_T
      clear b_
      have q_do := do_at kD HDO.out 0 rfl HWF.out hcapT HT1.out hnT
      go_wp2_with fail
      ((with_reducible refine q_do.mono ?_); rintro e W3 ⟨A1, n1, cap1, K1, k1, kc1, rfl, hcap1, ht_, hkc1, hs_, b_⟩)
      go_upto_region 7 with fail
      have h_b := (bch HB1.out b_).alloc (bch HB1.out b_).size (.cells #[.int .i64 0, .int .i64 1, .string ⟨#[]⟩, .slice K1 k1 kc1] 37)
      have h_T1 := IsTs.below ht_ ((Below.refl _ _).alloc (Nat.le_refl _) (.cells #[.int .i64 0, .int .i64 1, .string ⟨#[]⟩, .slice K1 k1 kc1] 37))
      have h_P1 := Blk.new W3 (.cells #[.int .i64 0, .int .i64 1, .string ⟨#[]⟩, .slice K1 k1 kc1] 37)
      obtain ⟨V_W3, hV_⟩ : ∃ W, W3.alloc (.cells #[.int .i64 0, .int .i64 1, .string ⟨#[]⟩, .slice K1 k1 kc1] 37) = W := ⟨_, rfl⟩
      rw [hV_] at h_b h_T1 h_P1 ⊢
      clear hV_
      have HB2 := Lib.hid h_b; clear h_b
      have HT12 := Lib.hid h_T1; clear h_T1
      have HP12 := Lib.hid h_P1; clear h_P1
      clear b_ ht_ hs_ q_do
      have r0 := Blk.cell HP12.out 0
      simp only [List.getElem?_toArray, List.getElem?_cons_zero, List.getElem?_cons_succ] at r0
      have hn1 : n1 = k + 1 := by have h := HT12.out.1; rw [HFU2.out.2.1] at h; exact h
      subst hn1
      go_wp2_with fail
      go_roundw
      case rel => exact ⟨k + 1, _, _, _, _, U, rfl, by omega, rfl, by go_num, hcap1, HT12.out, HFU2.out, HB2.out⟩
      case measure => simp [intOf]; omega
    · have hke : k = 20 := by omega
      subst hke
      clear hlt hk
      have hki : ¬ ((20 : Int) < 20) := by omega
      obtain ⟨d1, d2, ⟨U1, d3⟩, U, V, hrU, d4, d5⟩ := full_end HFU.out hj
      have HRU := Lib.hid hrU; clear hrU
      have D1 := Lib.hid d1; clear d1
      have D2 := Lib.hid d2; clear d2
      have D3 := Lib.hid d3; clear d3
      have D4 := Lib.hid d4; clear d4
      have D5 := Lib.hid d5; clear d5
      have HW1 := Lib.hid (full_wf 2 ⟨#[122]⟩ ⟨#[]⟩ ⟨by omega, by omega⟩ (by show 1 ≤ 16; omega) (by show 0 ≤ 200; omega))
      have HW2 := Lib.hid (full_wf 4 ⟨#[122]⟩ ⟨#[]⟩ ⟨by omega, by omega⟩ (by show 1 ≤ 16; omega) (by show 0 ≤ 200; omega))
      have HW3 := Lib.hid (full_wf 2 (letB j) ⟨#[]⟩ ⟨by omega, by omega⟩ (by show 1 ≤ 16; omega) (by show 0 ≤ 200; omega))
      have HW4 := Lib.hid (full_wf 3 (letB j) ⟨#[]⟩ ⟨by omega, by omega⟩ (by show 1 ≤ 16; omega) (by show 0 ≤ 200; omega))
      have qL := fun W => letter_any j (by omega) W
      generalize letB j = L at *
      clear hj
      have q_do := do_at kD D1.out 50 rfl HW1.out hcapT HTS.out hnT
      go_wp2_with fail
      ((with_reducible refine q_do.mono ?_); rintro e W2 ⟨A1, n1, cap1, K1, k1, kc1, rfl, hcap1, ht_, hkc1, hs_, b_⟩)
      go_upto_region 11 with fail
      have h_b := (bch HB.out b_).alloc (bch HB.out b_).size (.cells #[.int .i64 50, .int .i64 0, .string ⟨#[]⟩, .slice K1 k1 kc1] 37)
      have h_T := (HTS.out.below b_).below ((Below.refl _ _).alloc (Nat.le_refl _) (.cells #[.int .i64 50, .int .i64 0, .string ⟨#[]⟩, .slice K1 k1 kc1] 37))
      have h_T1 := IsTs.below ht_ ((Below.refl _ _).alloc (Nat.le_refl _) (.cells #[.int .i64 50, .int .i64 0, .string ⟨#[]⟩, .slice K1 k1 kc1] 37))
      have h_P1 := Blk.new W2 (.cells #[.int .i64 50, .int .i64 0, .string ⟨#[]⟩, .slice K1 k1 kc1] 37)
      obtain ⟨V_W2, hV_⟩ : ∃ W, W2.alloc (.cells #[.int .i64 50, .int .i64 0, .string ⟨#[]⟩, .slice K1 k1 kc1] 37) = W := ⟨_, rfl⟩
      rw [hV_] at h_b h_T h_T1 h_P1 ⊢
      clear hV_
      have HB1 := Lib.hid h_b; clear h_b
      have HT1 := Lib.hid h_T; clear h_T
      have HT11 := Lib.hid h_T1; clear h_T1
      have HP11 := Lib.hid h_P1; clear h_P1
      clear b_ ht_ hs_ q_do
      clear HT11
      have q_do := do_at kD D2.out 50 rfl HW2.out hcapT HT1.out hnT
      go_wp2_with fail
      ((with_reducible refine q_do.mono ?_); rintro e W3 ⟨A2, n2, cap2, K2, k2, kc2, rfl, hcap2, ht_, hkc2, hs_, b_⟩)
      go_upto_region 12 with fail
      have h_b := (bch HB1.out b_).alloc (bch HB1.out b_).size (.cells #[.int .i64 50, .int .i64 0, .string ⟨#[]⟩, .slice K2 k2 kc2] 37)
      have h_T := (HT1.out.below b_).below ((Below.refl _ _).alloc (Nat.le_refl _) (.cells #[.int .i64 50, .int .i64 0, .string ⟨#[]⟩, .slice K2 k2 kc2] 37))
      have h_P1 := (HP11.out.below b_).below ((Below.refl _ _).alloc (Nat.le_refl _) (.cells #[.int .i64 50, .int .i64 0, .string ⟨#[]⟩, .slice K2 k2 kc2] 37))
      have h_T2 := IsTs.below ht_ ((Below.refl _ _).alloc (Nat.le_refl _) (.cells #[.int .i64 50, .int .i64 0, .string ⟨#[]⟩, .slice K2 k2 kc2] 37))
      have h_P2 := Blk.new W3 (.cells #[.int .i64 50, .int .i64 0, .string ⟨#[]⟩, .slice K2 k2 kc2] 37)
      obtain ⟨V_W3, hV_⟩ : ∃ W, W3.alloc (.cells #[.int .i64 50, .int .i64 0, .string ⟨#[]⟩, .slice K2 k2 kc2] 37) = W := ⟨_, rfl⟩
      rw [hV_] at h_b h_T h_P1 h_T2 h_P2 ⊢
      clear hV_
      have HB2 := Lib.hid h_b; clear h_b
      have HT2 := Lib.hid h_T; clear h_T
      have HP12 := Lib.hid h_P1; clear h_P1
      have HT22 := Lib.hid h_T2; clear h_T2
      have HP22 := Lib.hid h_P2; clear h_P2
      clear b_ ht_ hs_ q_do
      clear HT22
      go_wp2_with fail
      ((with_reducible refine (qp _).mono ?_); rintro e W_ ⟨rfl, rfl⟩)
      go_wp2_with fail
      ((with_reducible refine (qL _).mono ?_); rintro e W4 ⟨rfl, b_⟩)
      have h_b := bch HB2.out b_
      have h_T := HT2.out.below b_
      have h_P1 := HP12.out.below b_
      have h_P2 := HP22.out.below b_
      have HB3 := Lib.hid h_b; clear h_b
      have HT3 := Lib.hid h_T; clear h_T
      have HP13 := Lib.hid h_P1; clear h_P1
      have HP23 := Lib.hid h_P2; clear h_P2
      clear b_
      have q_do := do_at kD D3.out 0 rfl HW3.out hcapT HT3.out hnT
      go_wp2_with fail
      ((with_reducible refine q_do.mono ?_); rintro e W5 ⟨A3, n3, cap3, K3, k3, kc3, rfl, hcap3, ht_, hkc3, hs_, b_⟩)
      go_upto_region 13 with fail
      have h_b := (bch HB3.out b_).alloc (bch HB3.out b_).size (.cells #[.int .i64 0, .int .i64 2, .string ⟨#[]⟩, .slice K3 k3 kc3] 37)
      have h_T := (HT3.out.below b_).below ((Below.refl _ _).alloc (Nat.le_refl _) (.cells #[.int .i64 0, .int .i64 2, .string ⟨#[]⟩, .slice K3 k3 kc3] 37))
      have h_P1 := (HP13.out.below b_).below ((Below.refl _ _).alloc (Nat.le_refl _) (.cells #[.int .i64 0, .int .i64 2, .string ⟨#[]⟩, .slice K3 k3 kc3] 37))
      have h_P2 := (HP23.out.below b_).below ((Below.refl _ _).alloc (Nat.le_refl _) (.cells #[.int .i64 0, .int .i64 2, .string ⟨#[]⟩, .slice K3 k3 kc3] 37))
      have h_T3 := IsTs.below ht_ ((Below.refl _ _).alloc (Nat.le_refl _) (.cells #[.int .i64 0, .int .i64 2, .string ⟨#[]⟩, .slice K3 k3 kc3] 37))
      have h_P3 := Blk.new W5 (.cells #[.int .i64 0, .int .i64 2, .string ⟨#[]⟩, .slice K3 k3 kc3] 37)
      obtain ⟨V_W5, hV_⟩ : ∃ W, W5.alloc (.cells #[.int .i64 0, .int .i64 2, .string ⟨#[]⟩, .slice K3 k3 kc3] 37) = W := ⟨_, rfl⟩
      rw [hV_] at h_b h_T h_P1 h_P2 h_T3 h_P3 ⊢
      clear hV_
      have HB4 := Lib.hid h_b; clear h_b
      have HT4 := Lib.hid h_T; clear h_T
      have HP14 := Lib.hid h_P1; clear h_P1
      have HP24 := Lib.hid h_P2; clear h_P2
      have HT34 := Lib.hid h_T3; clear h_T3
      have HP34 := Lib.hid h_P3; clear h_P3
      clear b_ ht_ hs_ q_do
      clear HT34
      go_wp2_with fail
      ((with_reducible refine (qp _).mono ?_); rintro e W_ ⟨rfl, rfl⟩)
      go_wp2_with fail
      ((with_reducible refine (qL _).mono ?_); rintro e W6 ⟨rfl, b_⟩)
      have h_b := bch HB4.out b_
      have h_T := HT4.out.below b_
      have h_P1 := HP14.out.below b_
      have h_P2 := HP24.out.below b_
      have h_P3 := HP34.out.below b_
      have HB5 := Lib.hid h_b; clear h_b
      have HT5 := Lib.hid h_T; clear h_T
      have HP15 := Lib.hid h_P1; clear h_P1
      have HP25 := Lib.hid h_P2; clear h_P2
      have HP35 := Lib.hid h_P3; clear h_P3
      clear b_
      have q_do := do_at kD D4.out 0 rfl HW4.out hcapT HT5.out hnT
      go_wp2_with fail
      ((with_reducible refine q_do.mono ?_); rintro e W7 ⟨A4, n4, cap4, K4, k4, kc4, rfl, hcap4, ht_, hkc4, hs_, b_⟩)
      go_upto_region 14 with fail
      have h_b := (bch HB5.out b_).alloc (bch HB5.out b_).size (.cells #[.int .i64 0, .int .i64 1, .string ⟨#[]⟩, .slice K4 k4 kc4] 37)
      have h_P1 := (HP15.out.below b_).below ((Below.refl _ _).alloc (Nat.le_refl _) (.cells #[.int .i64 0, .int .i64 1, .string ⟨#[]⟩, .slice K4 k4 kc4] 37))
      have h_P2 := (HP25.out.below b_).below ((Below.refl _ _).alloc (Nat.le_refl _) (.cells #[.int .i64 0, .int .i64 1, .string ⟨#[]⟩, .slice K4 k4 kc4] 37))
      have h_P3 := (HP35.out.below b_).below ((Below.refl _ _).alloc (Nat.le_refl _) (.cells #[.int .i64 0, .int .i64 1, .string ⟨#[]⟩, .slice K4 k4 kc4] 37))
      have h_T4 := IsTs.below ht_ ((Below.refl _ _).alloc (Nat.le_refl _) (.cells #[.int .i64 0, .int .i64 1, .string ⟨#[]⟩, .slice K4 k4 kc4] 37))
      have h_P4 := Blk.new W7 (.cells #[.int .i64 0, .int .i64 1, .string ⟨#[]⟩, .slice K4 k4 kc4] 37)
      obtain ⟨V_W7, hV_⟩ : ∃ W, W7.alloc (.cells #[.int .i64 0, .int .i64 1, .string ⟨#[]⟩, .slice K4 k4 kc4] 37) = W := ⟨_, rfl⟩
      rw [hV_] at h_b h_P1 h_P2 h_P3 h_T4 h_P4 ⊢
      clear hV_
      have HB6 := Lib.hid h_b; clear h_b
      have HP16 := Lib.hid h_P1; clear h_P1
      have HP26 := Lib.hid h_P2; clear h_P2
      have HP36 := Lib.hid h_P3; clear h_P3
      have HT46 := Lib.hid h_T4; clear h_T4
      have HP46 := Lib.hid h_P4; clear h_P4
      have hnb4 : n4 ≤ 20 := ts_len HT46.out HRU.out
      clear b_ ht_ hs_ q_do
      have q_do := do_at kD D5.out 0 rfl HW2.out hcap4 HT46.out hnb4
      go_wp2_with fail
      ((with_reducible refine q_do.mono ?_); rintro e W8 ⟨A5, n5, cap5, K5, k5, kc5, rfl, hcap5, ht_, hkc5, hs_, b_⟩)
      go_upto_region 15 with fail
      have h_b := (bch HB6.out b_).alloc (bch HB6.out b_).size (.cells #[.int .i64 0, .int .i64 1, .string ⟨#[]⟩, .slice K5 k5 kc5] 37)
      have h_P1 := (HP16.out.below b_).below ((Below.refl _ _).alloc (Nat.le_refl _) (.cells #[.int .i64 0, .int .i64 1, .string ⟨#[]⟩, .slice K5 k5 kc5] 37))
      have h_P2 := (HP26.out.below b_).below ((Below.refl _ _).alloc (Nat.le_refl _) (.cells #[.int .i64 0, .int .i64 1, .string ⟨#[]⟩, .slice K5 k5 kc5] 37))
      have h_P3 := (HP36.out.below b_).below ((Below.refl _ _).alloc (Nat.le_refl _) (.cells #[.int .i64 0, .int .i64 1, .string ⟨#[]⟩, .slice K5 k5 kc5] 37))
      have h_P4 := (HP46.out.below b_).below ((Below.refl _ _).alloc (Nat.le_refl _) (.cells #[.int .i64 0, .int .i64 1, .string ⟨#[]⟩, .slice K5 k5 kc5] 37))
      have h_T5 := IsTs.below ht_ ((Below.refl _ _).alloc (Nat.le_refl _) (.cells #[.int .i64 0, .int .i64 1, .string ⟨#[]⟩, .slice K5 k5 kc5] 37))
      have h_P5 := Blk.new W8 (.cells #[.int .i64 0, .int .i64 1, .string ⟨#[]⟩, .slice K5 k5 kc5] 37)
      obtain ⟨V_W8, hV_⟩ : ∃ W, W8.alloc (.cells #[.int .i64 0, .int .i64 1, .string ⟨#[]⟩, .slice K5 k5 kc5] 37) = W := ⟨_, rfl⟩
      rw [hV_] at h_b h_P1 h_P2 h_P3 h_P4 h_T5 h_P5 ⊢
      clear hV_
      have HB7 := Lib.hid h_b; clear h_b
      have HP17 := Lib.hid h_P1; clear h_P1
      have HP27 := Lib.hid h_P2; clear h_P2
      have HP37 := Lib.hid h_P3; clear h_P3
      have HP47 := Lib.hid h_P4; clear h_P4
      have HT57 := Lib.hid h_T5; clear h_T5
      have HP57 := Lib.hid h_P5; clear h_P5
      clear b_ ht_ hs_ q_do
      have a0 := Blk.cell HP17.out 0
      simp only [List.getElem?_toArray, List.getElem?_cons_zero, List.getElem?_cons_succ] at a0
      have b0 := Blk.cell HP27.out 0
      simp only [List.getElem?_toArray, List.getElem?_cons_zero, List.getElem?_cons_succ] at b0
      have c0 := Blk.cell HP37.out 0
      have c1 := Blk.cell HP37.out 1
      simp only [List.getElem?_toArray, List.getElem?_cons_zero, List.getElem?_cons_succ] at c0 c1
      have d0 := Blk.cell HP47.out 0
      simp only [List.getElem?_toArray, List.getElem?_cons_zero, List.getElem?_cons_succ] at d0
      have e0 := Blk.cell HP57.out 0
      have e1 := Blk.cell HP57.out 1
      simp only [List.getElem?_toArray, List.getElem?_cons_zero, List.getElem?_cons_succ] at e0 e1
      go_wp2_with fail
      go_ret
      exact ⟨rfl, HB7.out⟩
end Go.Proofs.Ytpnkkiokkhmjpaa
