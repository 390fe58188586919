/-
  The walk of the law FieldCut.
-/
import Derived.Test.YtgadbfkldfhoaaaFieldLaw
namespace Go.Proofs.Ytgadbfkldfhoaaa
open Go.RowKit
set_option linter.unusedVariables false

set_option maxRecDepth 100000 in
set_option maxHeartbeats 4000000 in
theorem fieldCut_walk (A : Option Addr) (n cap : Nat) (f : Nat → Nat → Int) (B : Option Addr) (m cap2 : Nat) (g : Nat → ByteArray) (at_ : Int) (w : World) (h : IsRaw w A n 2 f) (h2 : IsStrs w B m g) (hat : (Lit.int .i64 at_).wf = true) :
    Calls Try.prog 6 #[.slice A n cap, .slice B m cap2, .int .i64 at_] w fun e w' => e = .returned (.bool true) ∧ Below w.heap.size w w' := by
  go_enter Try.func6, Try.ntmps6
  go_wp2_with fail
  ((with_reducible refine (awake_any _).mono ?_); rintro e w1 ⟨rfl, b1⟩)
  go_wp2_with fail
  ((with_reducible refine (fields_any A n cap f B m cap2 g _ (h.below b1) (h2.below b1)).mono ?_); rintro e w2 ⟨A2, q, capq, fs, rfl, hc, hcm, hf, hN, b2⟩)
  have hq := hf.1
  have h20 : q ≤ 20 := by have := hN.1; omega
  have p1 := encode_any A2 q capq fs _ hf
  rw [nice_encR hN] at p1
  have HQ := Lib.hid hq; clear hq
  have hle : (bs (encL fs)).size ≤ 6100 := by rw [bs_size]; exact hN.enc
  have hk := pickN_lt at_ (((bs (encL fs)).size : Int) + 1) (by omega)
  have hp := pick_nat at_ (((bs (encL fs)).size : Int) + 1) (by omega) (by omega) hat
  generalize pickN at_ (((bs (encL fs)).size : Int) + 1) = k at hp hk
  have hkl : k ≤ (bs (encL fs)).size := by omega
  have hkl2 : k ≤ (encL fs).length := by rw [bs_size] at hkl; exact hkl
  have hsl := fun W => slice_to (T := bs (encL fs)) (k := k) (bs_take _ k) hkl W
  have hdec := decode_any (bs ((encL fs).take k)) (by rw [bs_size, List.length_take]; omega)
  rw [bs_data] at hdec
  have hcut := dec_cut hN.right (by have := hN.enc; omega) hkl2
  have HKL := Lib.hid hkl2; clear hkl2
  generalize bs (encL fs) = S at *
  generalize bs ((encL fs).take k) = S2 at *
  go_wp2_with fail
  ((with_reducible refine p1.mono ?_); rintro e w3 ⟨rfl, b3⟩)
  go_wp2_with fail
  ((with_reducible refine (hp _).mono ?_); rintro e w' ⟨rfl, rfl⟩)
  go_wp2_with fail
  ((with_reducible refine (hdec _).mono ?_); rintro e w4 ⟨A4, n4, cap4, rfl, hc4, hf4, b4⟩)
  have hf5 := (hf.below b3).below b4
  have b14 := bch (bch (bch b1 b2) b3) b4
  rcases hcut with ⟨i, hi, hik, hdr⟩ | ⟨hno, hdr⟩
  · rw [hdr] at hf4 ⊢
    have hiq : i ≤ q := by have := HQ.out; omega
    have HI := Lib.hid hik; clear hik hdr hi
    go_wp2_with fail
    go_loopw [14] (fun x wr => ∃ j : Nat, j ≤ i ∧ x = .int .i64 j ∧ Below w4.heap.size w4 wr) (fun x _ => i - (intOf x).toNat)
    case atStart => exact ⟨0, by omega, rfl, Below.refl _ _⟩
    case round =>
      obtain ⟨j, hj, rfl, hbw⟩ := hrel
      have hfr := (hf5.below hbw).take (k := j) (by omega)
      have p2 := encode_any A2 j capq (fs.take j) _ hfr
      have hr1 := right_take hN.right j
      have hl1 : (encL (fs.take j)).length ≤ 6100 := by have := hN.enc; have := congrArg List.length (encL_split fs j); rw [List.length_append] at this; omega
      rw [encR_right hr1 (by omega)] at p2
      clear hr1
      by_cases hji : j = i
      · subst hji
        have he : (((bs (encL (fs.take j))).size : Int) == (k : Int)) = true := by rw [bs_size, HI.out]; simp
        have hz : (bs (encL (fs.take j))).size ≤ 6100 := by rw [bs_size]; exact hl1
        clear hl1
        generalize bs (encL (fs.take j)) = S3 at *
        go_wp2_with fail
        ((with_reducible refine p2.mono ?_); rintro e w5 ⟨rfl, b5⟩)
        have p3 := same_any A4 A2 n4 j cap4 capq (fs.take j) (fs.take j) _ ((hf4.below hbw).below b5) (hfr.below b5)
        rw [sameB_self] at p3
        go_wp2_with fail
        ((with_reducible refine p3.mono ?_); rintro e w6 ⟨rfl, b6⟩)
        go_wp2_with fail
        go_ret
        exact ⟨rfl, bch (bch (bch b14 hbw) b5) b6⟩
      · have he : (((bs (encL (fs.take j))).size : Int) == (k : Int)) = false := by
          rw [bs_size]
          have h3 := HI.out
          -- fewer fields have fewer bytes
          have h4 : (encL (fs.take j)).length < (encL (fs.take i)).length := by
            have e1 : fs.take i = fs.take j ++ (fs.take i).drop j := by
              conv => lhs; rw [← List.take_append_drop j (fs.take i)]
              rw [List.take_take, Nat.min_eq_left hj]
            rw [e1, encL_append, List.length_append]
            have e2 : 0 < ((fs.take i).drop j).length := by rw [List.length_drop, List.length_take]; have := HQ.out; omega
            have e3 : ∃ x y, (fs.take i).drop j = x :: y := by
              cases hh : (fs.take i).drop j with
              | nil => rw [hh] at e2; simp at e2
              | cons x y => exact ⟨x, y, rfl⟩
            obtain ⟨x, y, e3⟩ := e3
            rw [e3, encL_cons, List.length_append]
            have := enc1_pos x
            omega
          simp; omega
        have hz : (bs (encL (fs.take j))).size ≤ 6100 := by rw [bs_size]; exact hl1
        clear hl1
        generalize bs (encL (fs.take j)) = S3 at *
        go_wp2_with fail
        ((with_reducible refine p2.mono ?_); rintro e w5 ⟨rfl, b5⟩)
        go_wp2_with fail
        go_roundw
        case rel => exact ⟨j + 1, by omega, by go_num, bch hbw b5⟩
        case measure => simp [intOf]; omega
  · rw [hdr] at hf4 ⊢
    have hn4 : n4 = 0 := hf4.1
    subst hn4
    have HNO := Lib.hid hno; clear hno hdr
    go_wp2_with fail
    go_loopw [14] (fun x wr => ∃ j : Nat, j ≤ q + 1 ∧ x = .int .i64 j ∧ Below w4.heap.size w4 wr) (fun x _ => q + 1 - (intOf x).toNat)
    case atStart => exact ⟨0, by omega, rfl, Below.refl _ _⟩
    case round =>
      obtain ⟨j, hj, rfl, hbw⟩ := hrel
      by_cases hjq : j ≤ q
      · have hfr := (hf5.below hbw).take hjq
        have p2 := encode_any A2 j capq (fs.take j) _ hfr
        have hr1 := right_take hN.right j
        have hl1 : (encL (fs.take j)).length ≤ 6100 := by have := hN.enc; have := congrArg List.length (encL_split fs j); rw [List.length_append] at this; omega
        rw [encR_right hr1 (by omega)] at p2
        clear hr1
        have he : (((bs (encL (fs.take j))).size : Int) == (k : Int)) = false := by
          rw [bs_size]; have := HNO.out j (by have := HQ.out; omega); simp; omega
        have hz : (bs (encL (fs.take j))).size ≤ 6100 := by rw [bs_size]; exact hl1
        clear hl1
        generalize bs (encL (fs.take j)) = S3 at *
        go_wp2_with fail
        ((with_reducible refine p2.mono ?_); rintro e w5 ⟨rfl, b5⟩)
        go_wp2_with fail
        go_roundw
        case rel => exact ⟨j + 1, by omega, by go_num, bch hbw b5⟩
        case measure => simp [intOf]; omega
      · go_wp2_with fail
        go_ret
        exact ⟨rfl, bch b14 hbw⟩
end Go.Proofs.Ytgadbfkldfhoaaa
