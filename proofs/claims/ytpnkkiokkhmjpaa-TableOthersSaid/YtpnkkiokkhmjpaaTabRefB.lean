import Derived.Test.YtpnkkiokkhmjpaaTabs
import Derived.Test.YtpnkkiokkhmjpaaRecRefRight
import Derived.Test.YtpnkkiokkhmjpaaRecRefSame
import Derived.Laws.Cover1
/-
  The contracts of the document's own at, Right and Same of tables (stage 12).
-/
namespace Go.Proofs.Ytpnkkiokkhmjpaa
open Go.RowKit
set_option linter.unusedVariables false
set_option linter.unusedSimpArgs false

/-- A place as a number; below 0: none. -/
def plcT (x : Option Nat) : Int := match x with | none => -1 | some i => (i : Int)
theorem idx_found {t : List Rcd} {k : ByteArray} {i : Nat} (h : ∀ j, j < i → (atR t j).key ≠ k) (hi : i < t.length) (hk : (atR t i).key = k) : idxT t k = some i := by
  unfold idxT
  rw [List.findIdx?_eq_some_iff_getElem]
  refine ⟨hi, by rw [atR_get hi] at hk; simpa using hk, fun j hj => ?_⟩
  have := h j hj
  rw [atR_get (by omega)] at this
  simpa using this
theorem idx_not {t : List Rcd} {k : ByteArray} (h : ∀ j, j < t.length → (atR t j).key ≠ k) : idxT t k = none := by
  unfold idxT
  rw [List.findIdx?_eq_none_iff]
  intro r hr
  obtain ⟨j, hj, rfl⟩ := List.getElem_of_mem hr
  have := h j hj
  rw [atR_get hj] at this
  simpa using this
theorem tb_eq {a b : ByteArray} (h : a = b) : (a.toList == b.toList) = true := by rw [h]; simp
theorem tb_ne {a b : ByteArray} (h : a ≠ b) : (a.toList == b.toList) = false := by
  rw [beq_eq_false_iff_ne]; exact fun e => h (bax e)
set_option maxRecDepth 100000 in
set_option maxHeartbeats 4000000 in
theorem refat_any (t : List Rcd) (k : ByteArray) (A : Option Addr) (n cap : Nat) (w : World) (h : IsTs w A n t) :
    Calls Try.prog 34 #[.slice A n cap, .string k] w fun e w' => e = .returned (.int .i64 (plcT (idxT t k))) ∧ Below w.heap.size w w' := by
  have hn9 := h.2.1
  unfold maxLen at hn9
  have HN : Hid (n = t.length) := h.1
  have HT := Lib.hid h; clear h
  obtain ⟨R, hR⟩ : ∃ R, plcT (idxT t k) = R := ⟨_, rfl⟩
  rw [hR]
  have HR := Lib.hid hR; clear hR
  go_enter Try.func34, Try.ntmps34
  go_wp2_with fail
  go_loopw [5] (fun i wy => ∃ (j : Nat) (wr : World), wr = wy ∧ j ≤ n ∧ i = .int .i64 j ∧ (∀ q, q < j → (atR t q).key ≠ k) ∧ Below w.heap.size w wr) (fun i _ => n - (intOf i).toNat)
  case atStart => exact ⟨0, _, rfl, by omega, rfl, (fun q hq => by omega), Below.refl _ _⟩
  case round =>
    obtain ⟨j, wr, rfl, hj, rfl, hne, hb⟩ := hrel
    have HB := Lib.hid hb; clear hb
    have HNE := Lib.hid hne; clear hne
    by_cases hlt : j < n
    · have hji : (j : Int) < (n : Int) := by omega
      have hj0 : (0 : Int) ≤ (j : Int) := by omega
      have hjl : j < t.length := by have := HN.out; omega
      obtain ⟨b, off, hA, _⟩ := HT.out.block (by omega)
      subst hA
      obtain ⟨E, m, c, ⟨x0, x1, x2, x3, x4, x5⟩, _, _⟩ := HT.out.at hjl HB.out
      by_cases he : (atR t j).key = k
      · have HE : Hid (R = (j : Int)) := by show _ = _; rw [← HR.out, idx_found HNE.out hjl he]; rfl
        have e1 := tb_eq he
        clear he
        go_wp2_with fail
        go_ret
        exact ⟨by rw [HE.out]; rfl, HB.out⟩
      · have e1 := tb_ne he
        have HE := Lib.hid he; clear he
        go_wp2_with fail
        go_roundw
        case rel => exact ⟨j + 1, _, rfl, by omega, by go_num, fun q hq => by rcases (by omega : q < j ∨ q = j) with h | rfl; exact HNE.out q h; exact HE.out, HB.out⟩
        case measure => simp [intOf]; omega
    · have hje : j = n := by omega
      subst hje
      have HE : Hid (R = -1) := by show _ = _; rw [← HR.out, idx_not (fun q hq => HNE.out q (by have := HN.out; omega))]; rfl
      clear hlt
      go_wp2_with fail
      go_ret
      exact ⟨by rw [HE.out]; rfl, HB.out⟩

theorem rise_snoc {l : List Rcd} {r : Rcd} (h : Rise l) (hl : ∀ x ∈ l, ltB x.key r.key = true) : Rise (l ++ [r]) :=
  List.pairwise_append.2 ⟨h, List.pairwise_singleton _ _, fun a ha b hb => by rw [List.mem_singleton.1 hb]; exact hl a ha⟩
theorem rise_next {t : List Rcd} {j : Nat} (h : Rise (t.take (j + 1))) (hj : j + 1 < t.length) (hl : ltB (atR t j).key (atR t (j + 1)).key = true) : Rise (t.take (j + 1 + 1)) := by
  rw [take_succR hj]
  refine rise_snoc h fun x hx => ?_
  obtain ⟨i, hi, rfl⟩ := List.getElem_of_mem hx
  rw [List.length_take] at hi
  have e : (t.take (j + 1))[i]'(by rw [List.length_take]; exact hi) = atR t i := by rw [List.getElem_take, atR_get (by omega)]
  rw [e]
  rcases (by omega : i = j ∨ i < j) with rfl | h2
  · exact hl
  · have := rise_lt h (i := i) (j := j) h2 (by rw [List.length_take]; omega)
    have e1 : atR (t.take (j + 1)) i = atR t i := by rw [atR_get (by rw [List.length_take]; omega), List.getElem_take, atR_get (by omega)]
    have e2 : atR (t.take (j + 1)) j = atR t j := by rw [atR_get (by rw [List.length_take]; omega), List.getElem_take, atR_get (by omega)]
    rw [e1, e2] at this
    exact lt_trans this hl
theorem rise_next2 {t : List Rcd} {i j : Nat} (e : j = i + 1) (h : Rise (t.take j)) (hj : j < t.length) (hl : ltB (atR t i).key (atR t j).key = true) : Rise (t.take (j + 1)) := by
  subst e; exact rise_next h hj hl
set_option maxRecDepth 100000 in
set_option maxHeartbeats 8000000 in
theorem refright12_any (t : List Rcd) (A : Option Addr) (n cap : Nat) (w : World) (h : IsTs w A n t) :
    Calls Try.prog 21 #[.slice A n cap] w fun e w' => e = .returned (.bool (rightT t)) ∧ Below w.heap.size w w' := by
  have hn9 := h.2.1
  unfold maxLen at hn9
  have HN : Hid (n = t.length) := h.1
  have HT := Lib.hid h; clear h
  have HNO : Hid (¬ RightT t → rightT t = false) := rightT_no
  have HYES : Hid (RightT t → rightT t = true) := rightT_iff.2
  generalize rightT t = R at *
  go_enter Try.func21, Try.ntmps21
  go_wp2_with fail
  go_loopw [3] (fun i wy => ∃ (j : Nat) (wr : World), wr = wy ∧ j ≤ n ∧ i = .int .i64 j ∧ (∀ q, q < j → rightR 2 (atR t q) = true) ∧ Rise (t.take j) ∧ Below w.heap.size w wr) (fun i _ => n - (intOf i).toNat)
  case atStart => exact ⟨0, _, rfl, by omega, rfl, (fun q hq => by omega), List.Pairwise.nil, Below.refl _ _⟩
  case round =>
    obtain ⟨j, wr, rfl, hj, rfl, hri, hrs, hb⟩ := hrel
    have HB := Lib.hid hb; clear hb
    have HRI := Lib.hid hri; clear hri
    have HRS := Lib.hid hrs; clear hrs
    by_cases hlt : j < n
    · have hji : (j : Int) < (n : Int) := by omega
      have hj0 : (0 : Int) ≤ (j : Int) := by omega
      have hjl : j < t.length := by have := HN.out; omega
      obtain ⟨b, off, hA, _⟩ := HT.out.block (by omega)
      subst hA
      obtain ⟨E, m, c, ⟨x0, x1, x2, x3, x4, x5⟩, _, hfs⟩ := HT.out.at hjl HB.out
      have q := refrRight_any 2 (atR t j) E m c wr (HT.out.2.2.1 _ (atR_mem hjl)).1 hfs
      have HJL := Lib.hid hjl
      clear hfs hjl
      cases hr : rightR 2 (atR t j) with
      | false =>
        rw [hr] at q
        have HE : Hid (R = false) := HNO.out fun h => by have := h.1 _ (atR_mem HJL.out); rw [hr] at this; cases this
        clear hr
        go_wp2_with fail
        ((with_reducible refine q.mono ?_); rintro e W1 ⟨rfl, b1⟩)
        have HB1 := Lib.hid (bch HB.out b1)
        clear q b1 x0 x1 x2 x3 x4 x5
        go_wp2_with fail
        go_quiet (fail)
        go_wp2_with fail
        go_ret
        exact ⟨by rw [HE.out]; rfl, bdn HB1.out _⟩
      | true =>
        rw [hr] at q
        have HRJ := Lib.hid hr; clear hr
        rcases Nat.eq_zero_or_pos j with hz | hp
        · have HNX : Hid (Rise (t.take (j + 1))) := by show Rise _; rw [take_succR HJL.out, hz]; exact List.pairwise_singleton _ _
          have dj : decide ((0 : Int) < (j : Int)) = false := decide_eq_false (by omega)
          have djn : decide (0 < j) = false := decide_eq_false (by omega)
          have HZ := Lib.hid hz; clear hz
          go_wp2_with fail
          ((with_reducible refine q.mono ?_); rintro e W1 ⟨rfl, b1⟩)
          have HB1 := Lib.hid (bch HB.out b1)
          clear q b1 x0 x1 x2 x3 x4 x5
          go_wp2_with fail
          go_quiet (fail)
          go_wp2_with fail
          go_roundw
          case rel =>
            refine ⟨j + 1, _, rfl, by omega, by go_num, fun q hq => ?_, HNX.out, bdn HB1.out _⟩
            rw [show q = j from by have := HZ.out; omega]
            exact HRJ.out
          case measure => simp [intOf]; omega
        · obtain ⟨i, hij⟩ : ∃ i, j = i + 1 := ⟨j - 1, by omega⟩
          have HIJ := Lib.hid hij
          have hi1 : (j : Int) - 1 = (i : Int) := by omega
          have hin : (i : Int) < (n : Int) := by omega
          have HI1 := Lib.hid hi1; clear hi1 hij
          go_wp2_with fail
          ((with_reducible refine q.mono ?_); rintro e W1 ⟨rfl, b1⟩)
          have hb1 := bch HB.out b1
          have HB1 := Lib.hid hb1
          clear q b1 x0 x1 x2 x3 x4 x5
          obtain ⟨E2, m2, c2, ⟨x0, _, _, _, _, _⟩, _, _⟩ := HT.out.at HJL.out hb1
          obtain ⟨E3, m3, c3, ⟨y0, _, _, _, _, _⟩, _, _⟩ := HT.out.at (i := i) (by have := HJL.out; have := HIJ.out; omega) hb1
          have hi1 := HI1.out
          have hiw : IntKind.i64.wrap (i : Int) = (i : Int) := IntWalk.i64_in _ (by omega)
          have hi0 : (0 : Int) ≤ (i : Int) := by omega
          have dj : decide ((0 : Int) < (j : Int)) = true := decide_eq_true (by omega)
          have djn : decide (0 < j) = true := decide_eq_true (by omega)
          have g1 : decide ((j : Int) < 0) = false := decide_eq_false (by omega)
          have g2 : decide ((n : Int) ≤ (j : Int)) = false := decide_eq_false (by omega)
          have g2n : decide (n ≤ j) = false := decide_eq_false (by omega)
          have g3 : decide ((i : Int) < 0) = false := decide_eq_false (by omega)
          have g4 : decide ((n : Int) ≤ (i : Int)) = false := decide_eq_false (by omega)
          have g4n : decide (n ≤ i) = false := decide_eq_false (by omega)
          clear hb1 hp
          cases hl : ltB (atR t i).key (atR t j).key with
          | true =>
            have HNX : Hid (Rise (t.take (j + 1))) := rise_next2 HIJ.out HRS.out HJL.out hl
            have e1 : Go.Op.bytesLess (atR t j).key.toList (atR t i).key.toList = false := lt_asym hl
            have e2 : ((atR t j).key.toList == (atR t i).key.toList) = false := tb_ne (fun e => lt_ne hl e.symm)
            have e3 : (Go.Op.bytesLess (atR t j).key.toList (atR t i).key.toList || ((atR t j).key.toList == (atR t i).key.toList)) = false := by rw [e1, e2]; rfl
            clear hl e1 e2
            go_wp2_with fail
            go_quiet (fail)
            go_wp2_with fail
            go_roundw
            case rel => exact ⟨j + 1, _, rfl, by omega, by go_num, fun q hq => by rcases (by omega : q < j ∨ q = j) with h | rfl; exact HRI.out q h; exact HRJ.out, HNX.out, bdn HB1.out _⟩
            case measure => simp [intOf]; omega
          | false =>
            have HE : Hid (R = false) := HNO.out fun h => by have := rise_lt h.2.1 (i := i) (j := j) (by have := HIJ.out; omega) HJL.out; rw [hl] at this; cases this
            have e3 : (Go.Op.bytesLess (atR t j).key.toList (atR t i).key.toList || ((atR t j).key.toList == (atR t i).key.toList)) = true := by
              cases hg : Go.Op.bytesLess (atR t j).key.toList (atR t i).key.toList
              · rw [tb_eq (lt_tri (by exact hg) hl)]; rfl
              · rfl
            clear hl
            go_wp2_with fail
            go_quiet (fail)
            go_wp2_with fail
            go_ret
            exact ⟨by rw [HE.out]; rfl, bdn HB1.out _⟩
    · have hje : j = n := by omega
      subst hje
      have htl : t.take j = t := by rw [List.take_of_length_le]; have := HN.out; omega
      rw [htl] at HRS
      have hall : ∀ r ∈ t, rightR 2 r = true := fun r hr => by
        obtain ⟨q, hq, rfl⟩ := List.getElem_of_mem hr
        have := HRI.out q (by have := HN.out; omega)
        rw [atR_get hq] at this
        exact this
      by_cases h20 : j ≤ 20
      · have HE : Hid (R = true) := HYES.out ⟨hall, HRS.out, by have := HN.out; omega⟩
        have h20i : (j : Int) ≤ 20 := by omega
        clear hlt htl hall
        go_wp2_with fail
        go_ret
        exact ⟨by rw [HE.out]; simp, HB.out⟩
      · have HE : Hid (R = false) := HNO.out fun h => by have := h.2.2; have := HN.out; omega
        have h20i : ¬ (j : Int) ≤ 20 := by omega
        clear hlt htl hall
        go_wp2_with fail
        go_ret
        exact ⟨by rw [HE.out]; simp, HB.out⟩

set_option maxRecDepth 100000 in
set_option maxHeartbeats 8000000 in
theorem refsame12_any (t u : List Rcd) (A B : Option Addr) (n m cap cap2 : Nat) (w : World) (h : IsTs w A n t) (h2 : IsTs w B m u) :
    Calls Try.prog 18 #[.slice A n cap, .slice B m cap2] w fun e w' => e = .returned (.bool (sameT t u)) ∧ Below w.heap.size w w' := by
  have hn9 := h.2.1
  have hm9 := h2.2.1
  unfold maxLen at hn9 hm9
  have HN : Hid (n = t.length) := h.1
  have HM : Hid (m = u.length) := h2.1
  have HT := Lib.hid h; clear h
  have HU := Lib.hid h2; clear h2
  have HNO : Hid (t ≠ u → sameT t u = false) := fun h => by rw [Bool.eq_false_iff]; exact fun e => h (sameT_iff.1 e)
  have HYES : Hid (t = u → sameT t u = true) := sameT_iff.2
  generalize sameT t u = R at *
  by_cases hnm : n = m
  rotate_left
  · have HE : Hid (R = false) := HNO.out fun e => hnm (by rw [HN.out, HM.out, e])
    have e1 : ((n : Int) != (m : Int)) = true := by simp; omega
    clear hnm
    go_enter Try.func18, Try.ntmps18
    go_wp2_with fail
    go_ret
    exact ⟨by rw [HE.out]; rfl, Below.refl _ _⟩
  subst hnm
  have e1 : ((n : Int) != (n : Int)) = false := by simp
  go_enter Try.func18, Try.ntmps18
  go_wp2_with fail
  go_loopw [5] (fun i wy => ∃ (j : Nat) (wr : World), wr = wy ∧ j ≤ n ∧ i = .int .i64 j ∧ (∀ q, q < j → atR t q = atR u q) ∧ Below w.heap.size w wr) (fun i _ => n - (intOf i).toNat)
  case atStart => exact ⟨0, _, rfl, by omega, rfl, (fun q hq => by omega), Below.refl _ _⟩
  case round =>
    obtain ⟨j, wr, rfl, hj, rfl, hsm, hb⟩ := hrel
    have HB := Lib.hid hb; clear hb
    have HSM := Lib.hid hsm; clear hsm
    by_cases hlt : j < n
    · have hji : (j : Int) < (n : Int) := by omega
      have hj0 : (0 : Int) ≤ (j : Int) := by omega
      have hjl : j < t.length := by have := HN.out; omega
      have hju : j < u.length := by have := HM.out; omega
      obtain ⟨b, off, hA, _⟩ := HT.out.block (by omega)
      subst hA
      obtain ⟨b2, off2, hA2, _⟩ := HU.out.block (by omega)
      subst hA2
      obtain ⟨E, m1, c, hx, _, hfs⟩ := HT.out.at hjl HB.out
      obtain ⟨E2, m2, c2, hy, _, hfs2⟩ := HU.out.at hju HB.out
      have HA : Hid (∀ W, Below wr.heap.size wr W → RcAt W b (off + j * 6) (atR t j) (.slice E m1 c)) := fun W hb => hx.below hb
      have HB2 : Hid (∀ W, Below wr.heap.size wr W → RcAt W b2 (off2 + j * 6) (atR u j) (.slice E2 m2 c2)) := fun W hb => hy.below hb
      have qs := fun W (hb : Below wr.heap.size wr W) => refSame_any (atR t j) (atR u j) E E2 m1 m2 c c2 W (hfs.below hb) (hfs2.below hb)
      clear hx hy hfs hfs2
      have HX : Hid (∀ b, sameR (atR t j) (atR u j) = b → (b = true ↔ atR t j = atR u j)) := fun b hb => by rw [← hb]; exact sameR_iff
      generalize hs : sameR (atR t j) (atR u j) = s at qs
      have HS := Lib.hid (HX.out s hs)
      clear hs HX
      have HJL := Lib.hid (And.intro hjl hju)
      clear hjl hju
      cases s with
      | true =>
        go_upto_region 6 with fail
        refine wp_region_noPanic ?_
        refine wp_region_held_drew (S := fun W => Below wr.heap.size wr W) (by kernel_rfl) ((Below.refl _ _).drew) (fun hHeld => ?_)
        refine wpAnyH_take (i := 0) (v := ?_) rfl (by kernel_rfl) (by kernel_rfl) (by kernel_rfl) (fun _ _ _ h => h) (Or.inl ⟨by rfl, ?_⟩) (by assumption) ?_
        rotate_left
        · (intro w hSw; (try dsimp only at hSw); go_simp; (try with_reducible rfl))
        simp only [Act.put, List.getElem_toArray, List.getElem_cons_zero, List.setIfInBounds_toArray, List.set_cons_zero, List.set_cons_succ]
        refine wpAnyH_take (i := 1) (v := ?_) rfl (by kernel_rfl) (by kernel_rfl) (by kernel_rfl) (fun _ _ _ h => h) (Or.inl ⟨by rfl, ?_⟩) (by assumption) ?_
        rotate_left
        · (intro w hSw; (try dsimp only at hSw); go_simp; (try with_reducible rfl))
        simp only [Act.put, List.getElem_toArray, List.getElem_cons_zero, List.getElem_cons_succ, List.setIfInBounds_toArray, List.set_cons_zero, List.set_cons_succ]
        refine wpAnyH_take (i := 2) (v := ?_) rfl (by kernel_rfl) (by kernel_rfl) (by kernel_rfl) (fun _ _ _ h => h) (Or.inl ⟨by rfl, ?_⟩) (by assumption) ?_
        rotate_left
        · (intro w hSw; (try dsimp only at hSw); go_simp; (try with_reducible rfl))
        simp only [Act.put, List.getElem_toArray, List.getElem_cons_zero, List.getElem_cons_succ, List.setIfInBounds_toArray, List.set_cons_zero, List.set_cons_succ]
        refine wpAnyH_take (i := 3) (v := ?_) rfl (by kernel_rfl) (by kernel_rfl) (by kernel_rfl) (fun _ _ _ h => h) (Or.inl ⟨by rfl, ?_⟩) (by assumption) ?_
        rotate_left
        · (intro w hSw; (try dsimp only at hSw); obtain ⟨x0, x1, x2, x3, x4, x5⟩ := HA.out _ hSw; go_simp; (try with_reducible rfl))
        simp only [Act.put, List.getElem_toArray, List.getElem_cons_zero, List.getElem_cons_succ, List.setIfInBounds_toArray, List.set_cons_zero, List.set_cons_succ]
        refine wpAnyH_take (i := 4) (v := ?_) rfl (by kernel_rfl) (by kernel_rfl) (by kernel_rfl) (fun _ _ _ h => h) (Or.inl ⟨by rfl, ?_⟩) (by assumption) ?_
        rotate_left
        · (intro w hSw; (try dsimp only at hSw); go_simp; (try with_reducible rfl))
        simp only [Act.put, List.getElem_toArray, List.getElem_cons_zero, List.getElem_cons_succ, List.setIfInBounds_toArray, List.set_cons_zero, List.set_cons_succ]
        refine wpAnyH_take (i := 5) (v := ?_) rfl (by kernel_rfl) (by kernel_rfl) (by kernel_rfl) (fun _ _ _ h => h) (Or.inl ⟨by rfl, ?_⟩) (by assumption) ?_
        rotate_left
        · (intro w hSw; (try dsimp only at hSw); go_simp; (try with_reducible rfl))
        simp only [Act.put, List.getElem_toArray, List.getElem_cons_zero, List.getElem_cons_succ, List.setIfInBounds_toArray, List.set_cons_zero, List.set_cons_succ]
        refine wpAnyH_take (i := 6) (v := ?_) rfl (by kernel_rfl) (by kernel_rfl) (by kernel_rfl) (fun _ _ _ h => h) (Or.inl ⟨by rfl, ?_⟩) (by assumption) ?_
        rotate_left
        · (intro w hSw; (try dsimp only at hSw); go_simp; (try with_reducible rfl))
        simp only [Act.put, List.getElem_toArray, List.getElem_cons_zero, List.getElem_cons_succ, List.setIfInBounds_toArray, List.set_cons_zero, List.set_cons_succ]
        refine wpAnyH_take (i := 7) (v := ?_) rfl (by kernel_rfl) (by kernel_rfl) (by kernel_rfl) (fun _ _ _ h => h) (Or.inl ⟨by rfl, ?_⟩) (by assumption) ?_
        rotate_left
        · (intro w hSw; (try dsimp only at hSw); obtain ⟨y0, y1, y2, y3, y4, y5⟩ := HB2.out _ hSw; go_simp; (try with_reducible rfl))
        simp only [Act.put, List.getElem_toArray, List.getElem_cons_zero, List.getElem_cons_succ, List.setIfInBounds_toArray, List.set_cons_zero, List.set_cons_succ]
        refine wpAnyH_ready (rs := [8]) (by kernel_rfl) (by simp) ?_
        refine AllReadyH.cons rfl (fun K hK => ?_) AllReadyH.nil
        rw [if_pos (by rfl)]
        go_simp
        ((with_reducible refine (qs _ hHeld).mono ?_); rintro e w' ⟨rfl, bq⟩)
        refine hK.out _ _ (bch hHeld bq) (fun hHeld2 => ?_)
        clear hK K hHeld
        have hHeld := hHeld2; clear hHeld2
        refine wpAnyH_take (i := 9) (v := ?_) rfl (by kernel_rfl) (by kernel_rfl) (by kernel_rfl) (fun _ _ _ h => h) (Or.inl ⟨by rfl, ?_⟩) (by assumption) ?_
        rotate_left
        · (intro w hSw; (try dsimp only at hSw); go_simp; (try with_reducible rfl))
        simp only [Act.put, List.getElem_toArray, List.getElem_cons_zero, List.getElem_cons_succ, List.setIfInBounds_toArray, List.set_cons_zero, List.set_cons_succ]
        refine wpAnyH_done (by kernel_rfl) ?_ _
        refine NoPanic.normal ?_
        have hbe := bch HB.out hHeld
        have HBE := Lib.hid hbe; clear hbe hHeld
        go_wp2_with fail
        go_roundw
        case rel => exact ⟨j + 1, _, rfl, by omega, by go_num, fun q hq => by rcases (by omega : q < j ∨ q = j) with h | rfl; exact HSM.out q h; exact HS.out.1 rfl, HBE.out⟩
        case measure => simp [intOf]; omega
      | false =>
        have HE : Hid (R = false) := HNO.out fun e => by have := HS.out.2 (by rw [e]); cases this
        go_upto_region 6 with fail
        refine wp_region_noPanic ?_
        refine wp_region_held_drew (S := fun W => Below wr.heap.size wr W) (by kernel_rfl) ((Below.refl _ _).drew) (fun hHeld => ?_)
        refine wpAnyH_take (i := 0) (v := ?_) rfl (by kernel_rfl) (by kernel_rfl) (by kernel_rfl) (fun _ _ _ h => h) (Or.inl ⟨by rfl, ?_⟩) (by assumption) ?_
        rotate_left
        · (intro w hSw; (try dsimp only at hSw); go_simp; (try with_reducible rfl))
        simp only [Act.put, List.getElem_toArray, List.getElem_cons_zero, List.setIfInBounds_toArray, List.set_cons_zero, List.set_cons_succ]
        refine wpAnyH_take (i := 1) (v := ?_) rfl (by kernel_rfl) (by kernel_rfl) (by kernel_rfl) (fun _ _ _ h => h) (Or.inl ⟨by rfl, ?_⟩) (by assumption) ?_
        rotate_left
        · (intro w hSw; (try dsimp only at hSw); go_simp; (try with_reducible rfl))
        simp only [Act.put, List.getElem_toArray, List.getElem_cons_zero, List.getElem_cons_succ, List.setIfInBounds_toArray, List.set_cons_zero, List.set_cons_succ]
        refine wpAnyH_take (i := 2) (v := ?_) rfl (by kernel_rfl) (by kernel_rfl) (by kernel_rfl) (fun _ _ _ h => h) (Or.inl ⟨by rfl, ?_⟩) (by assumption) ?_
        rotate_left
        · (intro w hSw; (try dsimp only at hSw); go_simp; (try with_reducible rfl))
        simp only [Act.put, List.getElem_toArray, List.getElem_cons_zero, List.getElem_cons_succ, List.setIfInBounds_toArray, List.set_cons_zero, List.set_cons_succ]
        refine wpAnyH_take (i := 3) (v := ?_) rfl (by kernel_rfl) (by kernel_rfl) (by kernel_rfl) (fun _ _ _ h => h) (Or.inl ⟨by rfl, ?_⟩) (by assumption) ?_
        rotate_left
        · (intro w hSw; (try dsimp only at hSw); obtain ⟨x0, x1, x2, x3, x4, x5⟩ := HA.out _ hSw; go_simp; (try with_reducible rfl))
        simp only [Act.put, List.getElem_toArray, List.getElem_cons_zero, List.getElem_cons_succ, List.setIfInBounds_toArray, List.set_cons_zero, List.set_cons_succ]
        refine wpAnyH_take (i := 4) (v := ?_) rfl (by kernel_rfl) (by kernel_rfl) (by kernel_rfl) (fun _ _ _ h => h) (Or.inl ⟨by rfl, ?_⟩) (by assumption) ?_
        rotate_left
        · (intro w hSw; (try dsimp only at hSw); go_simp; (try with_reducible rfl))
        simp only [Act.put, List.getElem_toArray, List.getElem_cons_zero, List.getElem_cons_succ, List.setIfInBounds_toArray, List.set_cons_zero, List.set_cons_succ]
        refine wpAnyH_take (i := 5) (v := ?_) rfl (by kernel_rfl) (by kernel_rfl) (by kernel_rfl) (fun _ _ _ h => h) (Or.inl ⟨by rfl, ?_⟩) (by assumption) ?_
        rotate_left
        · (intro w hSw; (try dsimp only at hSw); go_simp; (try with_reducible rfl))
        simp only [Act.put, List.getElem_toArray, List.getElem_cons_zero, List.getElem_cons_succ, List.setIfInBounds_toArray, List.set_cons_zero, List.set_cons_succ]
        refine wpAnyH_take (i := 6) (v := ?_) rfl (by kernel_rfl) (by kernel_rfl) (by kernel_rfl) (fun _ _ _ h => h) (Or.inl ⟨by rfl, ?_⟩) (by assumption) ?_
        rotate_left
        · (intro w hSw; (try dsimp only at hSw); go_simp; (try with_reducible rfl))
        simp only [Act.put, List.getElem_toArray, List.getElem_cons_zero, List.getElem_cons_succ, List.setIfInBounds_toArray, List.set_cons_zero, List.set_cons_succ]
        refine wpAnyH_take (i := 7) (v := ?_) rfl (by kernel_rfl) (by kernel_rfl) (by kernel_rfl) (fun _ _ _ h => h) (Or.inl ⟨by rfl, ?_⟩) (by assumption) ?_
        rotate_left
        · (intro w hSw; (try dsimp only at hSw); obtain ⟨y0, y1, y2, y3, y4, y5⟩ := HB2.out _ hSw; go_simp; (try with_reducible rfl))
        simp only [Act.put, List.getElem_toArray, List.getElem_cons_zero, List.getElem_cons_succ, List.setIfInBounds_toArray, List.set_cons_zero, List.set_cons_succ]
        refine wpAnyH_ready (rs := [8]) (by kernel_rfl) (by simp) ?_
        refine AllReadyH.cons rfl (fun K hK => ?_) AllReadyH.nil
        rw [if_pos (by rfl)]
        go_simp
        ((with_reducible refine (qs _ hHeld).mono ?_); rintro e w' ⟨rfl, bq⟩)
        refine hK.out _ _ (bch hHeld bq) (fun hHeld2 => ?_)
        clear hK K hHeld
        have hHeld := hHeld2; clear hHeld2
        refine wpAnyH_take (i := 9) (v := ?_) rfl (by kernel_rfl) (by kernel_rfl) (by kernel_rfl) (fun _ _ _ h => h) (Or.inl ⟨by rfl, ?_⟩) (by assumption) ?_
        rotate_left
        · (intro w hSw; (try dsimp only at hSw); go_simp; (try with_reducible rfl))
        simp only [Act.put, List.getElem_toArray, List.getElem_cons_zero, List.getElem_cons_succ, List.setIfInBounds_toArray, List.set_cons_zero, List.set_cons_succ]
        refine wpAnyH_done (by kernel_rfl) ?_ _
        refine NoPanic.normal ?_
        have hbe := bch HB.out hHeld
        have HBE := Lib.hid hbe; clear hbe hHeld
        go_wp2_with fail
        go_ret
        exact ⟨by rw [HE.out]; rfl, HBE.out⟩
    · have hje : j = n := by omega
      subst hje
      have HE : Hid (R = true) := HYES.out (by
        refine List.ext_getElem (by rw [← HN.out, ← HM.out]) fun i hi hj2 => ?_
        have := HSM.out i (by have := HN.out; omega)
        rw [atR_get hi, atR_get hj2] at this
        exact this)
      clear hlt
      go_wp2_with fail
      go_ret
      exact ⟨by rw [HE.out]; rfl, HB.out⟩
end Go.Proofs.Ytpnkkiokkhmjpaa
