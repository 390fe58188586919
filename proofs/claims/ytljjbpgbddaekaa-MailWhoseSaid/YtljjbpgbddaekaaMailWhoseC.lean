import Derived.Test.YtljjbpgbddaekaaMailAwake
/-
  The walk of the law MailWhose, over what is asked of the program (stage 11).
-/
namespace Go.Proofs.Ytljjbpgbddaekaa
open Go.RowKit
set_option linter.unusedVariables false
set_option linter.unusedSimpArgs false

/-- What stands at the j-th place. -/
theorem for_at (l : List Lt) (t : Int) : ∀ k, k ≤ l.length → ∀ j, j < (forK l t k).length → 0 ≤ (forK l t k).getD j 0 ∧ (forK l t k).getD j 0 < k ∧ (atL l ((forK l t k).getD j 0).toNat).to = t ∧ (0 < j → (forK l t k).getD (j - 1) 0 < (forK l t k).getD j 0) := by
  intro k
  induction k with
  | zero => intro _ j hj; simp [forK] at hj
  | succ k ih =>
    intro hk j hj
    rw [forK] at hj ⊢
    by_cases hc : (atL l k).to = t
    · rw [if_pos hc] at hj ⊢
      rw [List.length_append, List.length_singleton] at hj
      by_cases hl : j < (forK l t k).length
      · obtain ⟨h1, h2, h3, h4⟩ := ih (by omega) j hl
        have e : ∀ x, x < (forK l t k).length → (forK l t k ++ [(k : Int)]).getD x 0 = (forK l t k).getD x 0 := fun x hx => by
          rw [List.getD_eq_getElem?_getD, List.getElem?_append_left hx, ← List.getD_eq_getElem?_getD]
        rw [e j hl]
        exact ⟨h1, by omega, h3, fun h => by rw [e _ (by omega)]; exact h4 h⟩
      · have hj2 : j = (forK l t k).length := by omega
        have e : (forK l t k ++ [(k : Int)]).getD j 0 = (k : Int) := by
          rw [List.getD_eq_getElem?_getD, List.getElem?_append_right (by omega), hj2]; simp
        rw [e]
        refine ⟨by omega, by omega, by simpa using hc, fun h => ?_⟩
        rw [List.getD_eq_getElem?_getD, List.getElem?_append_left (by omega), ← List.getD_eq_getElem?_getD]
        exact (ih (by omega) (j - 1) (by omega)).2.1
    · rw [if_neg hc, List.append_nil] at hj ⊢
      obtain ⟨h1, h2, h3, h4⟩ := ih (by omega) j hj
      exact ⟨h1, by omega, h3, h4⟩
theorem for_sum (l : List Lt) : ∀ k, k ≤ l.length → (∀ m ∈ l, 0 ≤ m.to ∧ m.to < 3) → (forK l 0 k).length + (forK l 1 k).length + (forK l 2 k).length = k := by
  intro k
  induction k with
  | zero => intro _ _; rfl
  | succ k ih =>
    intro hk h
    have := ih (by omega) h
    have hm := h _ (atL_mem (l := l) (i := k) (by omega))
    simp only [forK, List.length_append]
    rcases (by omega : (atL l k).to = 0 ∨ (atL l k).to = 1 ∨ (atL l k).to = 2) with e | e | e <;> simp [e] <;> omega
theorem for_none (l : List Lt) : ∀ k, k ≤ l.length → (∀ m ∈ l, 0 ≤ m.to ∧ m.to < 3) → forK l 3 k = [] := by
  intro k
  induction k with
  | zero => intro _ _; rfl
  | succ k ih =>
    intro hk h
    have hm := h _ (atL_mem (l := l) (i := k) (by omega))
    rw [forK, ih (by omega) h, if_neg (by omega)]; rfl
theorem letters_to (f : Nat → Nat → Int) (k : Nat) : ∀ m ∈ lettersR f k, 0 ≤ m.to ∧ m.to < 3 := fun m hm => by
  unfold lettersR at hm
  obtain ⟨i, _, rfl⟩ := List.mem_map.1 hm
  have := pickN_lt (f i 1) 3 (by omega)
  exact ⟨by show (0 : Int) ≤ (pickN (f i 1) 3 : Int); omega, by show (pickN (f i 1) 3 : Int) < 3; omega⟩
set_option maxRecDepth 100000 in
set_option maxHeartbeats 8000000 in
theorem mailWhose_core (kP : PostQ) (kC : CopyQ) (kL : LoseQ) (kT : TakeM) (kF : ForQ) (a0 : Option Addr) (n0 cap0 : Nat) (f0 : Nat → Nat → Int) (w : World) (h0 : IsRaw w a0 n0 3 f0) :
    Calls Try.prog 6 #[.slice a0 n0 cap0] w fun e w' => e = .returned (.bool true) ∧ Below w.heap.size w w' := by
  have qw := awakeM_any kP kC kL kT kF
  have KF := Lib.hid kF; clear kF
  clear kP kC kL kT
  have HC := Lib.hid h0; clear h0
  go_enter Try.func6, Try.ntmps6
  go_wp2_with fail
  ((with_reducible refine (qw _).mono ?_); rintro e Wa ⟨rfl, ba⟩)
  have ql := letters_any a0 n0 cap0 f0 Wa (HC.out.below ba)
  have HBa := Lib.hid ba; clear ba qw
  go_wp2_with fail
  ((with_reducible refine ql.mono ?_); rintro e W1 ⟨A, n, cap, rfl, hcap, hls, hnw, b1⟩)
  try simp only [id]
  have HTO := Lib.hid (letters_to f0 (min n0 30))
  have hlen := letters_len f0 (min n0 30)
  generalize lettersR f0 (min n0 30) = l at *
  have hn30 : n ≤ 30 := by rw [hls.1, hlen]; omega
  have HN : Hid (n = l.length) := hls.1
  have HL := Lib.hid hls
  have HB1 := Lib.hid (bch HBa.out b1)
  clear ql hls hnw b1 HBa hlen
  go_wp2_with fail
  go_loopw [5, 6] (fun s i wy => ∃ (t : Nat) (wr : World), wr = wy ∧ t ≤ 3 ∧ i = .int .i64 t ∧ s = .int .i64 (((if 0 < t then (forL l 0).length else 0) + (if 1 < t then (forL l 1).length else 0) + (if 2 < t then (forL l 2).length else 0) : Nat) : Int) ∧ Below W1.heap.size W1 wr) (fun _ i _ => 4 - (intOf i).toNat)
  case atStart => exact ⟨0, _, rfl, by omega, rfl, rfl, Below.refl _ _⟩
  case round =>
    obtain ⟨t, wr, rfl, ht, rfl, rfl, hb⟩ := hrel
    have HB := Lib.hid hb; clear hb
    by_cases ht3 : t < 3
    · have q := KF.out l (t : Int) A n cap wr (wf_within (by omega) (by omega)) hcap (HL.out.below HB.out) (by omega)
      have hti : (t : Int) < 3 := by omega
      have hf0 := for_len l 0 l.length
      have hf1 := for_len l 1 l.length
      have hf2 := for_len l 2 l.length
      have hff := for_len l (t : Int) l.length
      have HSUM : Hid ((if 0 < t + 1 then (forL l 0).length else 0) + (if 1 < t + 1 then (forL l 1).length else 0) + (if 2 < t + 1 then (forL l 2).length else 0) = ((if 0 < t then (forL l 0).length else 0) + (if 1 < t then (forL l 1).length else 0) + (if 2 < t then (forL l 2).length else 0)) + (forL l (t : Int)).length) := by
        show _ = _
        rcases (by omega : t = 0 ∨ t = 1 ∨ t = 2) with rfl | rfl | rfl <;> simp
      have hsb : (if 0 < t then (forL l 0).length else 0) + (if 1 < t then (forL l 1).length else 0) + (if 2 < t then (forL l 2).length else 0) ≤ 90 := by
        have := HN.out
        unfold forL
        split <;> split <;> split <;> omega
      generalize (if 0 < t then (forL l 0).length else 0) + (if 1 < t then (forL l 1).length else 0) + (if 2 < t then (forL l 2).length else 0) = S at *
      clear hf0 hf1 hf2
      go_wp2_with fail
      ((with_reducible refine q.mono ?_); rintro e W5 ⟨A5, n5, cap5, rfl, hcap5, hns5, hnw5, b5⟩)
      have hn5 : n5 ≤ 30 := by rw [hns5.1]; have := HN.out; unfold forL; omega
      have HNF : Hid (n5 = (forL l (t : Int)).length) := hns5.1
      have HNS := Lib.hid hns5
      have HB5 := Lib.hid (bch HB.out b5)
      clear q hns5 hnw5 b5 HB hff
      go_wp2_with fail
      go_loopw [8] (fun i wy => ∃ (j : Nat) (wx : World), wx = wy ∧ j ≤ n5 ∧ i = .int .i64 j ∧ Below W5.heap.size W5 wx) (fun i _ => n5 - (intOf i).toNat)
      case atStart => exact ⟨0, _, rfl, by omega, rfl, Below.refl _ _⟩
      case round =>
        obtain ⟨j, wx, rfl, hj, rfl, hbx⟩ := hrel
        have HBX := Lib.hid hbx; clear hbx
        by_cases hjn : j < n5
        · obtain ⟨p1, p2, p3, p4⟩ := for_at l (t : Int) l.length (Nat.le_refl _) j (by have := HNF.out; unfold forL at this; omega)
          obtain ⟨bi, oi, hAi, hbi, hci⟩ := HNS.out.2.2.2 (by omega)
          subst hAi
          have y0 := (HBX.out.cell (p := ⟨bi, oi + j, none⟩) hbi).trans (hci j (by have := HNF.out; omega))
          have HPRE : Hid (0 < j → wx.cell? ⟨bi, oi + (j - 1), none⟩ = some (.int .i64 ((forL l (t : Int)).getD (j - 1) 0))) := fun h => (HBX.out.cell (p := ⟨bi, oi + (j - 1), none⟩) hbi).trans (hci (j - 1) (by have := HNF.out; omega))
          clear hci
          have p1' : 0 ≤ (forL l (t : Int)).getD j 0 := p1
          obtain ⟨z, hz⟩ : ∃ z : Nat, (forL l (t : Int)).getD j 0 = (z : Int) := ⟨((forL l (t : Int)).getD j 0).toNat, by omega⟩
          have hz1 : forK l (t : Int) l.length = forL l (t : Int) := rfl
          rw [hz1, hz] at p2 p3 p4
          rw [hz] at y0
          rw [show ((z : Int)).toNat = z from rfl] at p3
          have HZN : Hid (z < l.length) := by show z < l.length; omega
          obtain ⟨bl, ol, hAl, hbl, hcl⟩ := HL.out.2.2.2 (by have := HN.out; have := HZN.out; omega)
          subst hAl
          have hbel : Below W1.heap.size W1 wx := bch HB5.out HBX.out
          have x1 := (hbel.cell (p := ⟨bl, ol + z * 3 + 1, none⟩) hbl).trans (hcl z HZN.out).2.1
          rw [p3] at x1
          have hzn : (z : Int) < (n : Int) := by have := HN.out; omega
          have hz0 : (0 : Int) ≤ (z : Int) := by omega
          have d1 : decide ((z : Int) < 0) = false := decide_eq_false (by omega)
          have d2 : decide ((n : Int) ≤ (z : Int)) = false := decide_eq_false (by omega)
          have d3 : ((t : Int) != (t : Int)) = false := by simp
          have hj5 : (j : Int) < (n5 : Int) := by omega
          have hj0 : (0 : Int) ≤ (j : Int) := by omega
          have d2n : decide (n ≤ z) = false := decide_eq_false (by have := HN.out; have := HZN.out; omega)
          clear hcl hbel p1 p1' p2 p3 hz1 hz
          by_cases hjz : 0 < j
          · have y1 := HPRE.out hjz
            have p5 := p4 hjz
            obtain ⟨u, hu⟩ : ∃ u, (forL l (t : Int)).getD (j - 1) 0 = u := ⟨_, rfl⟩
            rw [hu] at y1 p5
            have d4 : decide ((0 : Int) < (j : Int)) = true := decide_eq_true (by omega)
            have d4n : decide (0 < j) = true := decide_eq_true (by omega)
            have d5 : decide ((z : Int) ≤ u) = false := decide_eq_false (by omega)
            have hj1 : (j : Int) - 1 = ((j - 1 : Nat) : Int) := by omega
            have hwj : IntKind.i64.wrap ((j - 1 : Nat) : Int) = ((j - 1 : Nat) : Int) := IntWalk.i64_in _ (by omega)
            have hjl : ((j - 1 : Nat) : Int) < (n5 : Int) := by omega
            have hjg : (0 : Int) ≤ ((j - 1 : Nat) : Int) := by omega
            clear hu p4 p5 HPRE
            generalize j - 1 = j1 at *
            go_wp2_with fail
            go_quiet (fail)
            go_wp2_with fail
            go_roundw
            case rel => exact ⟨j + 1, _, rfl, by omega, by go_num, bdn HBX.out _⟩
            case measure => simp [intOf]; omega
          · have d4 : decide ((0 : Int) < (j : Int)) = false := decide_eq_false (by omega)
            have d4n : decide (0 < j) = false := decide_eq_false (by omega)
            clear p4 HPRE
            go_wp2_with fail
            go_quiet (fail)
            go_wp2_with fail
            go_roundw
            case rel => exact ⟨j + 1, _, rfl, by omega, by go_num, bdn HBX.out _⟩
            case measure => simp [intOf]; omega
        · have hje : j = n5 := by omega
          have hjd : decide ((j : Int) < (n5 : Int)) = false := decide_eq_false (by omega)
          have hjge : (n5 : Int) ≤ (j : Int) := by omega
          clear hjn hje
          go_wp2_with fail
          go_roundw
          case rel => exact ⟨t + 1, _, rfl, by omega, by go_num, by rw [HSUM.out, ← HNF.out]; go_num, bch HB5.out HBX.out⟩
          case measure => simp [intOf]; omega
    · have hte : t = 3 := by omega
      subst hte
      have hsum := for_sum l l.length (Nat.le_refl _) HTO.out
      have HS : Hid ((if 0 < 3 then (forL l 0).length else 0) + (if 1 < 3 then (forL l 1).length else 0) + (if 2 < 3 then (forL l 2).length else 0) = n) := by
        show _ = _
        have := HN.out
        unfold forL
        simp
        omega
      rw [HS.out]
      have q := KF.out l 3 A n cap wr (by decide) hcap (HL.out.below HB.out) (by omega)
      rw [show forL l 3 = [] from for_none l l.length (Nat.le_refl _) HTO.out] at q
      clear hsum ht3 ht
      go_wp2_with fail
      ((with_reducible refine q.mono ?_); rintro e W5 ⟨A5, n5, cap5, rfl, hcap5, hns5, hnw5, b5⟩)
      have hn5 : n5 = 0 := hns5.1
      subst hn5
      have HB5 := Lib.hid (bch HB1.out (bch HB.out b5))
      clear q hns5 hnw5 b5
      go_wp2_with fail
      go_ret
      exact ⟨rfl, HB5.out⟩
end Go.Proofs.Ytljjbpgbddaekaa
