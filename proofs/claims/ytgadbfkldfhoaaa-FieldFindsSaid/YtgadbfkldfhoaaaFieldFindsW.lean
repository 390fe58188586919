/-
  The walk of the law FieldFinds.
-/
import Derived.Test.YtgadbfkldfhoaaaFieldLaw
namespace Go.Proofs.Ytgadbfkldfhoaaa
open Go.RowKit
set_option linter.unusedVariables false

theorem Nice.mono {fs : List Fld} (h : Nice fs) : ∀ d i, i + d + 1 < fs.length → tg fs i < tg fs (i + d + 1) := by
  intro d
  induction d with
  | zero => intro i hi; have := (h.2 (i + 1) (by omega)).1; rw [hd_succ] at this; exact this
  | succ d ih =>
    intro i hi
    have h1 := ih i (by omega)
    have h2 := (h.2 (i + d + 1 + 1) (by omega)).1
    rw [hd_succ] at h2
    rw [show i + (d + 1) + 1 = i + d + 1 + 1 by omega]
    omega
theorem Nice.distinct {fs : List Fld} (h : Nice fs) {i j : Nat} (hi : i < fs.length) (hj : j < fs.length) (he : tg fs i = tg fs j) : i = j := by
  rcases Nat.lt_trichotomy i j with hl | hl | hl
  · have := h.mono (j - i - 1) i (by omega)
    rw [show i + (j - i - 1) + 1 = j by omega] at this; omega
  · exact hl
  · have := h.mono (i - j - 1) j (by omega)
    rw [show j + (i - j - 1) + 1 = i by omega] at this; omega

set_option maxRecDepth 100000 in
set_option maxHeartbeats 4000000 in
theorem fieldFinds_walk (A : Option Addr) (n cap : Nat) (f : Nat → Nat → Int) (B : Option Addr) (m cap2 : Nat) (g : Nat → ByteArray) (tag : Int) (w : World) (h : IsRaw w A n 2 f) (h2 : IsStrs w B m g) (hat : (Lit.int .i64 tag).wf = true) :
    Calls Try.prog 8 #[.slice A n cap, .slice B m cap2, .int .i64 tag] w fun e w' => e = .returned (.bool true) ∧ Below w.heap.size w w' := by
  go_enter Try.func8, Try.ntmps8
  go_wp2_with fail
  ((with_reducible refine (awake_any _).mono ?_); rintro e w1 ⟨rfl, b1⟩)
  go_wp2_with fail
  ((with_reducible refine (fields_any A n cap f B m cap2 g _ (h.below b1) (h2.below b1)).mono ?_); rintro e w2 ⟨A2, q, capq, fs, rfl, hc, hcm, hf, hN, b2⟩)
  have hq := hf.1
  have h20 : q ≤ 20 := by have := hN.1; omega
  have p1 := find_any A2 q capq fs tag _ hf
  have HQ := Lib.hid hq; clear hq
  by_cases hex : ∃ k, k < fs.length ∧ tg fs k = tag
  · obtain ⟨k, hk, hkt⟩ := hex
    have HE : Hid (∀ i, i < fs.length → (tg fs i = tag ↔ i = k)) := fun i hi => ⟨fun h => hN.distinct hi hk (h.trans hkt.symm), fun h => by rw [h]; exact hkt⟩
    rw [findR_at hk (fun j hj he => by have := hN.distinct (by omega) hk (he.trans hkt.symm); omega) hkt] at p1
    have HKT := Lib.hid hkt; clear hkt
    have hkq : k < q := by have := HQ.out; omega
    clear hk
    generalize hD : dt fs k = D at p1
    have HD := Lib.hid hD; clear hD
    go_wp2_with fail
    ((with_reducible refine p1.mono ?_); rintro e w3 ⟨rfl, b3⟩)
    have hf3 := hf.below b3
    go_wp2_with fail
    go_loopw [11, 12] (fun x i wr => ∃ j : Nat, j ≤ q ∧ i = .int .i64 j ∧ x = .bool (decide (k < j)) ∧ Below w3.heap.size w3 wr) (fun _ i _ => q - (intOf i).toNat)
    case atStart => exact ⟨0, by omega, rfl, by simp, Below.refl _ _⟩
    case round =>
      obtain ⟨j, hj, rfl, rfl, hbw⟩ := hrel
      by_cases hlt : j < q
      · have hfr := hf3.below hbw
        obtain ⟨bb, off, hA, hb, hcs⟩ := hfr.2.2.2 (by omega)
        subst hA
        have hjl : j < fs.length := by have := HQ.out; omega
        obtain ⟨c1, c2⟩ := hcs j hjl
        have p2 := find_any (some ⟨bb, off, none⟩) q capq fs (tg fs j) _ hfr
        rw [findR_at hjl (fun i hi he => by have := hN.distinct (by omega) hjl he; omega) rfl] at p2
        have hiff := HE.out j hjl
        have HJ := Lib.hid hjl
        clear hcs hjl
        go_wp2_with fail
        ((with_reducible refine p2.mono ?_); rintro e w4 ⟨rfl, b4⟩)
        have c3 := (b4.cell (p := ⟨bb, off + j * 2, none⟩) hb).trans c1
        have c4 := (b4.cell (p := ⟨bb, off + j * 2 + 1, none⟩) hb).trans c2
        by_cases h1 : k < j
        · have d1 : decide (k < j) = true := by simpa using h1
          clear hiff
          go_wp2_with fail
          go_roundw
          case rel => exact ⟨j + 1, by omega, by go_num, by simp; omega, bch hbw b4⟩
          case measure => simp [intOf]; omega
        · have d1 : decide (k < j) = false := by simpa using h1
          by_cases h3 : j = k
          · subst h3
            have h4 : (tg fs j == tag) = true := by simp [hiff]
            have h5 := HD.out
            rw [h5] at c4 ⊢
            clear hiff h5
            go_wp2_with fail
            go_roundw
            case rel => exact ⟨j + 1, by omega, by go_num, by simp, bch hbw b4⟩
            case measure => simp [intOf]; omega
          · have h4 : (tg fs j == tag) = false := by simp [hiff, h3]
            clear hiff
            go_wp2_with fail
            go_roundw
            case rel => exact ⟨j + 1, by omega, by go_num, by simp; omega, bch hbw b4⟩
            case measure => simp [intOf]; omega
      · have hjq : q = j := by omega
        subst hjq
        have d1 : decide (k < q) = true := by simpa using hkq
        go_wp2_with fail
        go_ret
        exact ⟨ret_bool (by simp), (bch (bch b1 b2) b3).trans (hbw.mono (bch (bch b1 b2) b3).size)⟩
  · have HE : Hid (∀ i, i < fs.length → tg fs i ≠ tag) := fun i hi he => hex ⟨i, hi, he⟩
    rw [findR_no HE.out] at p1
    clear hex
    go_wp2_with fail
    ((with_reducible refine p1.mono ?_); rintro e w3 ⟨rfl, b3⟩)
    have hf3 := hf.below b3
    go_wp2_with fail
    go_loopw [11, 12] (fun x i wr => ∃ j : Nat, j ≤ q ∧ i = .int .i64 j ∧ x = .bool false ∧ Below w3.heap.size w3 wr) (fun _ i _ => q - (intOf i).toNat)
    case atStart => exact ⟨0, by omega, rfl, rfl, Below.refl _ _⟩
    case round =>
      obtain ⟨j, hj, rfl, rfl, hbw⟩ := hrel
      by_cases hlt : j < q
      · have hfr := hf3.below hbw
        obtain ⟨bb, off, hA, hb, hcs⟩ := hfr.2.2.2 (by omega)
        subst hA
        have hjl : j < fs.length := by have := HQ.out; omega
        obtain ⟨c1, c2⟩ := hcs j hjl
        have p2 := find_any (some ⟨bb, off, none⟩) q capq fs (tg fs j) _ hfr
        rw [findR_at hjl (fun i hi he => by have := hN.distinct (by omega) hjl he; omega) rfl] at p2
        have h4 : (tg fs j == tag) = false := by simp [HE.out j hjl]
        have HJ := Lib.hid hjl
        clear hcs hjl
        go_wp2_with fail
        ((with_reducible refine p2.mono ?_); rintro e w4 ⟨rfl, b4⟩)
        have c3 := (b4.cell (p := ⟨bb, off + j * 2, none⟩) hb).trans c1
        have c4 := (b4.cell (p := ⟨bb, off + j * 2 + 1, none⟩) hb).trans c2
        go_wp2_with fail
        go_roundw
        case rel => exact ⟨j + 1, by omega, by go_num, rfl, bch hbw b4⟩
        case measure => simp [intOf]; omega
      · have hjq : q = j := by omega
        subst hjq
        go_wp2_with fail
        go_ret
        exact ⟨rfl, (bch (bch b1 b2) b3).trans (hbw.mono (bch (bch b1 b2) b3).size)⟩
end Go.Proofs.Ytgadbfkldfhoaaa
