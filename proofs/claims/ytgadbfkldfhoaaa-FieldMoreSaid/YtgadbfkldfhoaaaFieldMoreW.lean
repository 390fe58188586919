/-
  The walk of the law FieldMore.
-/
import Derived.Test.YtgadbfkldfhoaaaFieldLaw
namespace Go.Proofs.Ytgadbfkldfhoaaa
open Go.RowKit
set_option linter.unusedVariables false

theorem lastT_hd (fs : List Fld) : lastT 0 fs = hd fs fs.length := by
  rcases List.eq_nil_or_concat fs with rfl | ⟨a, x, rfl⟩
  · rfl
  · rw [List.concat_eq_append]
    unfold lastT
    rw [List.getLast?_append, List.length_append, List.length_singleton, hd_succ, tg_snoc]
    simp
def dF (t : Int) : Fld := (t, ⟨#[100]⟩)
theorem dF_right {t : Int} (h1 : 1 ≤ t) (h2 : t ≤ 1000000) : rightB [dF t] = true := right_chain.2 ⟨by simp, ⟨by show 0 < t; omega, by show t ≤ 1000000; exact h2, by show (⟨#[100]⟩ : ByteArray).size ≤ 1000; decide⟩, trivial⟩
theorem dF_enc (t : Int) : encL [dF t] = vb t.toNat ++ (vb 1 ++ [100]) := by
  show enc1 (dF t) ++ [] = _
  rw [List.append_nil]; rfl
theorem dF_len {t : Int} (h2 : t ≤ 1000000) : (encL [dF t]).length ≤ 6 := by
  show (enc1 (dF t) ++ []).length ≤ 6
  rw [List.append_nil]
  have := enc1_len (f := dF t) h2 (by show (⟨#[100]⟩ : ByteArray).size ≤ 1000; decide)
  have e : (dF t).2.size = 1 := rfl
  omega
/-- What the law's last part is told: behind the greater tag. -/
theorem more_yes {fs : List Fld} (hN : Nice fs) {t : Int} (h1 : hd fs fs.length < t) (h2 : t ≤ 1000000) :
    decR (encL fs ++ encL [dF t]) = (fs ++ [dF t], 0) ∧ findR (fs ++ [dF t]) t = (⟨#[100]⟩, true) := by
  have hl := hN.enc
  have h3 : t ≤ 1000000 := h2
  have hl2 := dF_len h3
  constructor
  · rw [← encL_append]
    refine dec_enc (dec_more hN.right (by have := hN.1; omega) (by rw [lastT_hd]; exact h1) h3 (by show (⟨#[100]⟩ : ByteArray).size ≤ 1000; decide)) ?_
    rw [encL_append, List.length_append]; omega
  · have e1 : tg (fs ++ [dF t]) fs.length = t := tg_snoc fs (dF t)
    have e2 : dt (fs ++ [dF t]) fs.length = ⟨#[100]⟩ := dt_snoc fs (dF t)
    rw [findR_at (k := fs.length) (by simp) (fun j hj => ?_) e1, e2]
    rw [tg_snoc_lt _ _ hj]
    have hc := (right_chain.1 hN.right).2
    have : tg fs j ≤ hd fs fs.length := by
      have key : ∀ d i, i + d + 1 = fs.length → tg fs i ≤ hd fs fs.length := by
        intro d
        induction d with
        | zero => intro i hi; rw [← hi, Nat.add_zero, hd_succ]; exact Int.le_refl _
        | succ d ih =>
          intro i hi
          have h5 := ih (i + 1) (by omega)
          have h6 := (hN.2 (i + 1) (by omega)).1
          rw [hd_succ] at h6
          omega
      exact key (fs.length - j - 1) j (by omega)
    omega
theorem more_no {fs : List Fld} (hN : Nice fs) {t : Int} (h0 : 1 ≤ t) (h1 : t ≤ hd fs fs.length) : decR (encL fs ++ encL [dF t]) = ([], 13) := by
  have hl := hN.enc
  have h2 := hN.hd_le (Nat.le_refl _)
  have h3 := hN.1
  have hl2 := dF_len (t := t) (by omega)
  have h4 := dec_tags (fs := fs) (t := t.toNat) (rest := vb 1 ++ [100]) hN.right (by omega) (by rw [lastT_hd, Int.toNat_of_nonneg (by omega)]; exact h1) (by rw [dF_enc] at hl2; rw [List.length_append]; omega)
  rw [dF_enc]
  exact h4

set_option maxRecDepth 100000 in
set_option maxHeartbeats 4000000 in
theorem fieldMore_walk (A : Option Addr) (n cap : Nat) (f : Nat → Nat → Int) (B : Option Addr) (m cap2 : Nat) (g : Nat → ByteArray) (tag : Int) (w : World) (h : IsRaw w A n 2 f) (h2 : IsStrs w B m g) (hat : (Lit.int .i64 tag).wf = true) :
    Calls Try.prog 9 #[.slice A n cap, .slice B m cap2, .int .i64 tag] w fun e w' => e = .returned (.bool true) ∧ Below w.heap.size w w' := by
  have hb := bounds_i64 hat
  have hp := pick_any tag 4 (by omega) (by omega) hb.1 hb.2
  have z1 := pickZ_lo tag 4 (by omega)
  have z2 := pickZ_hi tag 4 (by omega)
  generalize pickZ tag 4 = z at hp z1 z2
  have hblk := cell_two_new
  go_enter Try.func9, Try.ntmps9
  go_wp2_with fail
  ((with_reducible refine (awake_any _).mono ?_); rintro e w1 ⟨rfl, b1⟩)
  go_wp2_with fail
  ((with_reducible refine (fields_any A n cap f B m cap2 g _ (h.below b1) (h2.below b1)).mono ?_); rintro e w2 ⟨A2, q, capq, fs, rfl, hc, hcm, hf, hN, b2⟩)
  have hq := hf.1
  have h20 : q ≤ 20 := by have := hN.1; omega
  have p1 := encode_any A2 q capq fs _ hf
  rw [nice_encR hN] at p1
  have hhd := hN.hd_le (Nat.le_refl _)
  have hy := fun t => more_yes hN (t := t)
  have hno := fun t => more_no hN (t := t)
  have hHD : hd fs fs.length = hd fs q := by rw [hq]
  rw [hHD] at hhd hy hno
  have HQ := Lib.hid hq
  have hlen : fs.length ≤ 20 := hN.1
  have hle : (bs (encL fs)).size ≤ 6100 := by rw [bs_size]; exact hN.enc
  have b12 := bch b1 b2
  have hdec := fun t => decode_any (bs (encL fs ++ encL [dF t]))
  have hsz : ∀ t : Int, t ≤ 1000000 → (bs (encL [dF t])).size ≤ 6 := fun t ht => by rw [bs_size]; exact dF_len ht
  have hadd : ∀ t : Int, t ≤ 1000000 → ∀ W, (Op.stringOp .add (bs (encL fs)) (bs (encL [dF t]))).run Try.prog W = .ok (.string (bs (encL fs ++ encL [dF t]))) W := fun t ht W => by
    rw [← bs_append]; exact str_add (by have := hsz t ht; omega) W
  have hsz2 : ∀ t : Int, t ≤ 1000000 → (bs (encL fs ++ encL [dF t])).size ≤ 7000 := fun t ht => by rw [← bs_append, ByteArray.size_append]; have := hsz t ht; omega
  have hE1 : ∀ t : Int, 1 ≤ t → t ≤ 1000000 → encR [dF t] = (encL [dF t], 0) := fun t h1 h2 => encR_right (dF_right h1 h2) (by have := dF_len h2; omega)
  have HY := Lib.hid hy; clear hy
  have HNO := Lib.hid hno; clear hno
  have HDEC := Lib.hid hdec; clear hdec
  have HSZ := Lib.hid hsz; clear hsz
  have HADD := Lib.hid hadd; clear hadd
  have HSZ2 := Lib.hid hsz2; clear hsz2
  have HE1 := Lib.hid hE1; clear hE1
  have HBLK := Lib.hid hblk; clear hblk
  clear hq hHD
  generalize hL : hd fs q = L at *
  have HL := Lib.hid hL; clear hL
  go_wp2_with fail
  ((with_reducible refine p1.mono ?_); rintro e w3 ⟨rfl, b3⟩)
  have hf3 := hf.below b3
  rcases Nat.eq_zero_or_pos q with h0 | h0
  · subst h0
    have hL0 : L = 0 := by rw [← HL.out, hd_zero]
    subst hL0
    by_cases hz : z - 1 < 1
    · go_wp2_with fail
      ((with_reducible refine (hp _).mono ?_); rintro e w' ⟨rfl, rfl⟩)
      go_wp2_with fail
      go_ret
      exact ⟨rfl, bch b12 b3⟩
    · have hz1 : 1 ≤ z - 1 := by omega
      have hz2 : z - 1 ≤ 1000000 := by omega
      have hcells := HBLK.out w3 (.int .i64 (z - 1)) (.string ⟨#[100]⟩) 43
      have p5 := encode_any _ 1 1 _ _ (isFs_two (hcells 0 _ rfl) (hcells 1 _ rfl) (by have := wf_of (t := (z - 1).toNat) (by omega); rwa [Int.toNat_of_nonneg (by omega)] at this) (by decide))
      rw [show [(z - 1, (⟨#[100]⟩ : ByteArray))] = [dF (z - 1)] from rfl, HE1.out _ hz1 hz2] at p5
      clear hcells
      have ha := HADD.out _ hz2
      have hs := HSZ.out _ hz2
      have hd5 := HDEC.out (z - 1) (by have := HSZ2.out _ hz2; omega)
      rw [bs_data, (HY.out (z - 1) (by omega) hz2).1] at hd5
      have hfd := (HY.out (z - 1) (by omega) hz2).2
      have ba : Below w3.heap.size w3 (w3.alloc (.cells #[.int .i64 (z - 1), .string ⟨#[100]⟩] 43)) := (Below.refl _ _).alloc (Nat.le_refl _) _
      have hnl : fs = [] := by have := HQ.out; exact List.eq_nil_of_length_eq_zero this.symm
      subst hnl
      generalize bs (encL [dF (z - 1)]) = S2 at *
      generalize bs (encL [] ++ encL [dF (z - 1)]) = S3 at *
      have hz3 : ¬ z - 1 ≤ 0 := by omega
      go_wp2_with fail
      ((with_reducible refine (hp _).mono ?_); rintro e w' ⟨rfl, rfl⟩)
      go_wp2_with fail
      ((with_reducible refine p5.mono ?_); rintro e w4 ⟨rfl, b4⟩)
      go_wp2_with fail
      ((with_reducible refine (hd5 _).mono ?_); rintro e w5 ⟨A5, n5, cap5, rfl, hc5, hf5, b5⟩)
      have hn5 : n5 = 1 := hf5.1
      subst hn5
      have p6 := find_any A5 1 cap5 _ (z - 1) _ hf5
      rw [hfd] at p6
      go_wp2_with fail
      ((with_reducible refine p6.mono ?_); rintro e w6 ⟨rfl, b6⟩)
      have p7 := same_any A5 A2 0 0 cap5 capq [] [] _ (isFs_nil w6 A5) (isFs_nil w6 A2)
      rw [sameB_self] at p7
      go_wp2_with fail
      ((with_reducible refine p7.mono ?_); rintro e w7 ⟨rfl, b7⟩)
      go_wp2_with fail
      go_ret
      exact ⟨rfl, bch (bch (bch (bch (bch (bch b12 b3) ba) b4) b5) b6) b7⟩
  · obtain ⟨p, rfl⟩ : ∃ p, q = p + 1 := ⟨q - 1, by omega⟩
    obtain ⟨bb, off, hA, hbb, hcs⟩ := hf3.2.2.2 (by omega)
    subst hA
    have c1 := (hcs p (by have := HQ.out; omega)).1
    have hLt : tg fs p = L := by rw [← HL.out, hd_succ]
    rw [hLt] at c1
    clear hcs hLt
    have hL1 : 1 ≤ L := by
      have h5 := (hN.2 p (by have := HQ.out; omega)).1
      have h6 := (hN.hd_le (i := p) (by have := HQ.out; omega)).1
      have h7 := HL.out
      rw [hd_succ] at h7
      omega
    by_cases hz0 : L + z - 1 < 1
    · go_wp2_with fail
      ((with_reducible refine (hp _).mono ?_); rintro e w' ⟨rfl, rfl⟩)
      go_wp2_with fail
      go_ret
      exact ⟨rfl, bch b12 b3⟩
    have hz1 : 1 ≤ L + z - 1 := by omega
    have hz2 : L + z - 1 ≤ 1000000 := by omega
    have hcells := HBLK.out w3 (.int .i64 (L + z - 1)) (.string ⟨#[100]⟩) 43
    have p5 := encode_any _ 1 1 _ _ (isFs_two (hcells 0 _ rfl) (hcells 1 _ rfl) (by have := wf_of (t := (L + z - 1).toNat) (by omega); rwa [Int.toNat_of_nonneg (by omega)] at this) (by decide))
    rw [show [(L + z - 1, (⟨#[100]⟩ : ByteArray))] = [dF (L + z - 1)] from rfl, HE1.out _ hz1 hz2] at p5
    clear hcells
    have ha := HADD.out _ hz2
    have hs := HSZ.out _ hz2
    have hd5 := HDEC.out (L + z - 1) (by have := HSZ2.out _ hz2; omega)
    rw [bs_data] at hd5
    have ba : Below w3.heap.size w3 (w3.alloc (.cells #[.int .i64 (L + z - 1), .string ⟨#[100]⟩] 43)) := (Below.refl _ _).alloc (Nat.le_refl _) _
    by_cases hle2 : L + z - 1 ≤ L
    · rw [HNO.out _ hz1 hle2] at hd5
      generalize bs (encL [dF (L + z - 1)]) = S2 at *
      generalize bs (encL fs ++ encL [dF (L + z - 1)]) = S3 at *
      go_wp2_with fail
      ((with_reducible refine (hp _).mono ?_); rintro e w' ⟨rfl, rfl⟩)
      go_wp2_with fail
      ((with_reducible refine p5.mono ?_); rintro e w4 ⟨rfl, b4⟩)
      go_wp2_with fail
      ((with_reducible refine (hd5 _).mono ?_); rintro e w5 ⟨A5, n5, cap5, rfl, hc5, hf5, b5⟩)
      have hn5 : n5 = 0 := hf5.1
      subst hn5
      go_wp2_with fail
      go_ret
      exact ⟨rfl, bch (bch (bch (bch b12 b3) ba) b4) b5⟩
    · have hgt : L < L + z - 1 := by omega
      rw [(HY.out _ hgt hz2).1] at hd5
      have hfd := (HY.out _ hgt hz2).2
      have hsf := sameB_self fs
      have htk : (fs ++ [dF (L + z - 1)]).take (p + 1) = fs := by rw [HQ.out, List.take_left]
      generalize bs (encL [dF (L + z - 1)]) = S2 at *
      generalize bs (encL fs ++ encL [dF (L + z - 1)]) = S3 at *
      go_wp2_with fail
      ((with_reducible refine (hp _).mono ?_); rintro e w' ⟨rfl, rfl⟩)
      go_wp2_with fail
      ((with_reducible refine p5.mono ?_); rintro e w4 ⟨rfl, b4⟩)
      go_wp2_with fail
      ((with_reducible refine (hd5 _).mono ?_); rintro e w5 ⟨A5, n5, cap5, rfl, hc5, hf5, b5⟩)
      have hn5 : n5 = p + 1 + 1 := by have h8 : n5 = (fs ++ [dF (L + z - 1)]).length := hf5.1; have h9 := HQ.out; rw [List.length_append, List.length_singleton] at h8; omega
      subst hn5
      have p6 := find_any A5 (p + 1 + 1) cap5 _ (L + z - 1) _ hf5
      rw [hfd] at p6
      go_wp2_with fail
      ((with_reducible refine p6.mono ?_); rintro e w6 ⟨rfl, b6⟩)
      have hf7 := (hf5.below b6).take (k := p + 1) (by omega)
      rw [htk] at hf7
      have p7 := same_any A5 _ (p + 1) (p + 1) cap5 capq fs fs _ hf7 (((((hf3.below ba).below b4).below b5)).below b6)
      rw [hsf] at p7
      go_wp2_with fail
      ((with_reducible refine p7.mono ?_); rintro e w7 ⟨rfl, b7⟩)
      go_wp2_with fail
      go_ret
      exact ⟨rfl, bch (bch (bch (bch (bch (bch b12 b3) ba) b4) b5) b6) b7⟩
end Go.Proofs.Ytgadbfkldfhoaaa
