import Derived.Test.YtjciojgldibfmaaFrP5
/-
  What frame.take answers (tkR: oneR, but 10 where the text is cut off), and its contract (stage 6).
-/
namespace Go.Proofs.Ytjciojgldibfmaa
open Go.RowKit
set_option linter.unusedVariables false

/-- The frame that a text begins with: it, its bytes, and what is wrong (10: cut off). -/
def tkR (v : Int) (l : List UInt8) : Frm × Nat × Nat := if (oneR v l).2.2 = 0 ∧ (oneR v l).2.1 = 0 then (zeroF, 0, 10) else oneR v l
theorem tk_form (v : Int) {l : List UInt8} (h1 : at_ l 0 ≠ 97) (h2 : at_ l 0 ≠ 98) : tkR v l = (zeroF, 0, 11) := by
  have : oneR v l = (zeroF, 0, 11) := by unfold oneR; rw [if_pos ⟨h1, h2⟩]
  unfold tkR; rw [this]; simp
theorem tk_other1 {l : List UInt8} (h : at_ l 0 = 98) : tkR 1 l = (zeroF, 0, 22) := by
  have : oneR 1 l = (zeroF, 0, 22) := by unfold oneR; rw [if_neg (by omega), if_pos (by omega)]
  unfold tkR; rw [this]; simp
theorem tk_other2 {l : List UInt8} (h : at_ l 0 = 97) : tkR 2 l = (zeroF, 0, 22) := by
  have : oneR 2 l = (zeroF, 0, 22) := by unfold oneR; rw [if_neg (by omega), if_pos (by omega)]
  unfold tkR; rw [this]; simp
theorem tk_own {v : Int} {l : List UInt8} {i j x : Nat} (h : at_ l 0 = 97 ∧ v = 1 ∨ at_ l 0 = 98 ∧ v = 2) (hd : dpR v l = (i, j, x)) :
    tkR v l = if x ≠ 0 then (zeroF, 0, x) else if okF v (madeF v l i (j - i)) = false ∨ le4 (sumR (l.take j)) ≠ (l.drop j).take 4 then (zeroF, 0, 11) else (madeF v l i (j - i), j + 4, 0) := by
  have ho : oneR v l = if (sizeR v l).2.2.2 = true then (zeroF, 0, 11)
    else if (sizeR v l).2.2.1 = true ∨ l.length < (sizeR v l).1 + (sizeR v l).2.1 + 4 then (zeroF, 0, 0)
    else if okF v (madeF v l (sizeR v l).1 (sizeR v l).2.1) = false ∨ le4 (sumR (l.take ((sizeR v l).1 + (sizeR v l).2.1))) ≠ (l.drop ((sizeR v l).1 + (sizeR v l).2.1)).take 4 then (zeroF, 0, 11)
    else (madeF v l (sizeR v l).1 (sizeR v l).2.1, (sizeR v l).1 + (sizeR v l).2.1 + 4, 0) := by
    unfold oneR; rw [if_neg (by omega), if_neg (by omega)]
  unfold dpR at hd
  unfold tkR
  by_cases h1 : (sizeR v l).2.2.2 = true
  · rw [if_pos h1] at hd ho
    simp only [Prod.mk.injEq] at hd
    obtain ⟨rfl, rfl, rfl⟩ := hd
    rw [ho]; simp
  · rw [if_neg h1] at hd ho
    by_cases h2 : (sizeR v l).2.2.1 = true ∨ l.length < (sizeR v l).1 + (sizeR v l).2.1 + 4
    · rw [if_pos h2] at hd ho
      simp only [Prod.mk.injEq] at hd
      obtain ⟨rfl, rfl, rfl⟩ := hd
      rw [ho]; simp
    · rw [if_neg h2] at hd ho
      simp only [Prod.mk.injEq] at hd
      obtain ⟨rfl, rfl, rfl⟩ := hd
      rw [Nat.add_sub_cancel_left, if_neg (show ¬ ((0 : Nat) ≠ 0) by simp)]
      by_cases h3 : okF v (madeF v l (sizeR v l).1 (sizeR v l).2.1) = false ∨ le4 (sumR (l.take ((sizeR v l).1 + (sizeR v l).2.1))) ≠ (l.drop ((sizeR v l).1 + (sizeR v l).2.1)).take 4
      · rw [if_pos h3] at ho ⊢
        rw [ho]; simp
      · rw [if_neg h3] at ho ⊢
        rw [ho]; simp
theorem dp_bound {v : Int} {l : List UInt8} {i j x : Nat} (hd : dpR v l = (i, j, x)) : (x = 0 ∨ x = 10 ∨ x = 11) ∧ (x = 0 → 3 ≤ i ∧ i ≤ 11 ∧ i ≤ j ∧ j + 4 ≤ l.length ∧ 3 ≤ l.length) := by
  have hb := (size_bound v l).1
  have h3 : (sizeR v l).2.2.1 = false → 3 ≤ (sizeR v l).1 := by
    unfold sizeR
    split
    · split <;> simp
    · split
      · simp
      · split <;> simp
  unfold dpR at hd
  split at hd
  · simp only [Prod.mk.injEq] at hd; omega
  · split at hd
    · simp only [Prod.mk.injEq] at hd; omega
    · rename_i h
      simp only [Prod.mk.injEq] at hd
      rw [not_or] at h
      have := h3 (by simpa using h.1)
      omega
theorem made_1 (s : ByteArray) (i j : Nat) (hij : i ≤ j) (h : 1 < s.size) : madeF 1 s.data.toList i (j - i) = ⟨(s[1].toNat : Int), 0, s.extract i j⟩ := by
  have e := ext_bytes s i (j - i)
  rw [show i + (j - i) = j by omega] at e
  rw [e]
  unfold madeF; rw [at_byte s 1 h]; rfl
theorem made_2 (s : ByteArray) (i j : Nat) (hij : i ≤ j) (h : 2 < s.size) : madeF 2 s.data.toList i (j - i) = ⟨(s[2].toNat : Int), (s[1].toNat : Int), s.extract i j⟩ := by
  have e := ext_bytes s i (j - i)
  rw [show i + (j - i) = j by omega] at e
  rw [e]
  unfold madeF; rw [at_byte s 1 (by omega), at_byte s 2 h]; rfl
theorem OnePost.mk {w w' : World} {r : Frm × Nat × Nat} {f : Frm} {n x : Nat} (h : r = (f, n, x)) (hb : Below w.heap.size w w') :
    OnePost w r (.returned (.tuple #[.agg #[.int .i64 f.kind, .int .i64 f.flags, .string f.data], .int .i64 n, .int .i64 x])) w' := by subst h; exact ⟨rfl, hb⟩
theorem cmp_bytes (A B : ByteArray) (la lb : List UInt8) (ha : A.data.toList = la) (hb : B.data.toList = lb) : (A.toList == B.toList) = decide (la = lb) := by
  have e : ∀ X : ByteArray, X.toList = X.data.toList := fun X => by rw [bs_of X, bs_toList]; simp [bs]
  rw [e, e, ha, hb]
  by_cases h : la = lb
  · simp [h]
  · simp [h]

set_option maxRecDepth 100000 in
set_option maxHeartbeats 4000000 in
theorem take_1 (s : ByteArray) (hs : s.size ≤ 140737488355328) (h0 : 0 < s.size) (w : World) :
    Calls Try.prog 29 #[fmP, .string s] w (OnePost w (tkR 1 s.data.toList)) := by
  have hsl : s.data.toList.length = s.size := by simp
  have hat0 := at_byte s 0 h0
  obtain ⟨z, hz⟩ : ∃ z, tkR 1 s.data.toList = z := ⟨_, rfl⟩
  rw [hz]
  obtain ⟨c, hc⟩ : ∃ c, s[0].toNat = c := ⟨_, rfl⟩
  rw [hc] at hat0
  have hcb : c < 256 := by rw [← hc]; exact s[0].toNat_lt
  have j0 : (0 : Int) < (s.size : Int) := by omega
  have hb0 : Below w.heap.size w (w.alloc (.cells #[.int .i64 0, .int .i64 0, .string ⟨#[]⟩] 23)) := (Below.refl _ _).alloc (Nat.le_refl _) _
  have hbx := FrBlk.new w zeroF
  simp only [zeroF] at hbx
  obtain ⟨W0, hW0⟩ : ∃ W, w.alloc (.cells #[.int .i64 0, .int .i64 0, .string ⟨#[]⟩] 23) = W := ⟨_, rfl⟩
  rw [hW0] at hb0 hbx
  have HX : Hid (FrBlk W0 w.heap.size zeroF) := hbx
  have HB0 := Lib.hid hb0; clear hb0 hbx
  have HB : Hid (Below W0.heap.size W0 W0) := Below.refl _ _
  have ql := letter_1
  have qu := letter_2
  have qo := other_1
  have qd := fun W => dataPlace_1 s hs W
  unfold fmP at *
  unfold fmF at *
  by_cases hA : c ≠ 97 ∧ c ≠ 98
  · have n1 : ((c : Int) == 97) = false := by have := hA.1; simp; omega
    have n2 : ((c : Int) == 98) = false := by have := hA.2; simp; omega
    rw [tk_form 1 (by omega) (by omega)] at hz
    have HZ := Lib.hid hz.symm
    clear hz hA hsl hat0 qd
    go_enter Try.func29, Try.ntmps29
    go_wp2_with fail
    ((with_reducible refine (ql _).mono ?_); rintro e W1 ⟨rfl, bq⟩)
    have hb1 := bch HB.out bq; clear bq
    go_wp2_with fail
    ((with_reducible refine (qo _).mono ?_); rintro e W2 ⟨rfl, bq⟩)
    have hb2 := bch hb1 bq; clear bq
    clear hb1
    go_wp2_with fail
    ((with_reducible refine (qu _).mono ?_); rintro e W3 ⟨rfl, bq⟩)
    have hb3 := bch hb2 bq; clear bq
    clear hb2
    have hxe := HX.out.below hb3
    obtain ⟨c0, c1, c2⟩ := hxe.cells
    simp only [zeroF] at c0 c1 c2
    have f0 := hxe.frozen 0
    have f1 := hxe.frozen 1
    have f2 := hxe.frozen 2
    have HXE := Lib.hid hxe; clear hxe
    have HBE := Lib.hid hb3; clear hb3
    go_wp2_with fail
    have hfin := HXE.out.put (⟨0, 0, ⟨#[]⟩⟩ : Frm)
    have hbf := (((bch HB0.out HBE.out).setCell (p := ⟨w.heap.size, 0, none⟩) (Nat.le_refl _) (.int .i64 (⟨0, 0, ⟨#[]⟩⟩ : Frm).kind)).setCell (p := ⟨w.heap.size, 1, none⟩) (Nat.le_refl _) (.int .i64 (⟨0, 0, ⟨#[]⟩⟩ : Frm).flags)).setCell (p := ⟨w.heap.size, 2, none⟩) (Nat.le_refl _) (.string (⟨0, 0, ⟨#[]⟩⟩ : Frm).data)
    obtain ⟨d0, d1, d2⟩ := hfin.cells
    simp only at d0 d1 d2 hbf
    refine bodyPost_ret (v := .tuple #[.agg #[.int .i64 0, .int .i64 0, .string ⟨#[]⟩], .int .i64 0, .int .i64 11]) (by simp [results, Try.results29, go_sem, d0, d1, d2]) rfl (OnePost.mk HZ.out hbf)
  by_cases hB : c = 98
  · subst hB
    rw [tk_other1 (by omega)] at hz
    have HZ := Lib.hid hz.symm
    clear hz hA hsl hat0 qd
    go_enter Try.func29, Try.ntmps29
    go_wp2_with fail
    ((with_reducible refine (ql _).mono ?_); rintro e W1 ⟨rfl, bq⟩)
    have hb1 := bch HB.out bq; clear bq
    go_wp2_with fail
    ((with_reducible refine (qo _).mono ?_); rintro e W2 ⟨rfl, bq⟩)
    have hb2 := bch hb1 bq; clear bq
    clear hb1
    go_wp2_with fail
    ((with_reducible refine (qu _).mono ?_); rintro e W3 ⟨rfl, bq⟩)
    have hb3 := bch hb2 bq; clear bq
    clear hb2
    have hxe := HX.out.below hb3
    obtain ⟨c0, c1, c2⟩ := hxe.cells
    simp only [zeroF] at c0 c1 c2
    have f0 := hxe.frozen 0
    have f1 := hxe.frozen 1
    have f2 := hxe.frozen 2
    have HXE := Lib.hid hxe; clear hxe
    have HBE := Lib.hid hb3; clear hb3
    go_wp2_with fail
    have hfin := HXE.out.put (⟨0, 0, ⟨#[]⟩⟩ : Frm)
    have hbf := (((bch HB0.out HBE.out).setCell (p := ⟨w.heap.size, 0, none⟩) (Nat.le_refl _) (.int .i64 (⟨0, 0, ⟨#[]⟩⟩ : Frm).kind)).setCell (p := ⟨w.heap.size, 1, none⟩) (Nat.le_refl _) (.int .i64 (⟨0, 0, ⟨#[]⟩⟩ : Frm).flags)).setCell (p := ⟨w.heap.size, 2, none⟩) (Nat.le_refl _) (.string (⟨0, 0, ⟨#[]⟩⟩ : Frm).data)
    obtain ⟨d0, d1, d2⟩ := hfin.cells
    simp only at d0 d1 d2 hbf
    refine bodyPost_ret (v := .tuple #[.agg #[.int .i64 0, .int .i64 0, .string ⟨#[]⟩], .int .i64 0, .int .i64 22]) (by simp [results, Try.results29, go_sem, d0, d1, d2]) rfl (OnePost.mk HZ.out hbf)
  have hC : c = 97 := by omega
  subst hC
  clear hA hB qo qu
  obtain ⟨i, j, x, hd⟩ : ∃ i j x, dpR 1 s.data.toList = (i, j, x) := ⟨_, _, _, rfl⟩
  rw [tk_own (by omega) hd] at hz
  obtain ⟨hx, hbd⟩ := dp_bound hd
  rw [hd] at qd
  unfold DpPost at qd
  simp only at qd
  clear hd
  rw [hsl] at hbd
  by_cases hx0 : x ≠ 0
  · rw [if_pos hx0] at hz
    have HZ := Lib.hid hz.symm
    have hx2 : x = 10 ∨ x = 11 := by omega
    clear hz hsl hat0 hbd hx hx0
    rcases hx2 with rfl | rfl
    · skip
      go_enter Try.func29, Try.ntmps29
      go_wp2_with fail
      ((with_reducible refine (ql _).mono ?_); rintro e W1 ⟨rfl, bq⟩)
      have hb1 := bch HB.out bq; clear bq
      go_wp2_with fail
      ((with_reducible refine (qd _).mono ?_); rintro e W2 ⟨rfl, bq⟩)
      have hb2 := bch hb1 bq; clear bq
      clear hb1
      have hxe := HX.out.below hb2
      obtain ⟨c0, c1, c2⟩ := hxe.cells
      simp only [zeroF] at c0 c1 c2
      have f0 := hxe.frozen 0
      have f1 := hxe.frozen 1
      have f2 := hxe.frozen 2
      have HXE := Lib.hid hxe; clear hxe
      have HBE := Lib.hid hb2; clear hb2
      go_wp2_with fail
      have hfin := HXE.out.put (⟨0, 0, ⟨#[]⟩⟩ : Frm)
      have hbf := (((bch HB0.out HBE.out).setCell (p := ⟨w.heap.size, 0, none⟩) (Nat.le_refl _) (.int .i64 (⟨0, 0, ⟨#[]⟩⟩ : Frm).kind)).setCell (p := ⟨w.heap.size, 1, none⟩) (Nat.le_refl _) (.int .i64 (⟨0, 0, ⟨#[]⟩⟩ : Frm).flags)).setCell (p := ⟨w.heap.size, 2, none⟩) (Nat.le_refl _) (.string (⟨0, 0, ⟨#[]⟩⟩ : Frm).data)
      obtain ⟨d0, d1, d2⟩ := hfin.cells
      simp only at d0 d1 d2 hbf
      refine bodyPost_ret (v := .tuple #[.agg #[.int .i64 0, .int .i64 0, .string ⟨#[]⟩], .int .i64 0, .int .i64 _]) (by simp [results, Try.results29, go_sem, d0, d1, d2]) rfl (OnePost.mk HZ.out hbf)
    · skip
      go_enter Try.func29, Try.ntmps29
      go_wp2_with fail
      ((with_reducible refine (ql _).mono ?_); rintro e W1 ⟨rfl, bq⟩)
      have hb1 := bch HB.out bq; clear bq
      go_wp2_with fail
      ((with_reducible refine (qd _).mono ?_); rintro e W2 ⟨rfl, bq⟩)
      have hb2 := bch hb1 bq; clear bq
      clear hb1
      have hxe := HX.out.below hb2
      obtain ⟨c0, c1, c2⟩ := hxe.cells
      simp only [zeroF] at c0 c1 c2
      have f0 := hxe.frozen 0
      have f1 := hxe.frozen 1
      have f2 := hxe.frozen 2
      have HXE := Lib.hid hxe; clear hxe
      have HBE := Lib.hid hb2; clear hb2
      go_wp2_with fail
      have hfin := HXE.out.put (⟨0, 0, ⟨#[]⟩⟩ : Frm)
      have hbf := (((bch HB0.out HBE.out).setCell (p := ⟨w.heap.size, 0, none⟩) (Nat.le_refl _) (.int .i64 (⟨0, 0, ⟨#[]⟩⟩ : Frm).kind)).setCell (p := ⟨w.heap.size, 1, none⟩) (Nat.le_refl _) (.int .i64 (⟨0, 0, ⟨#[]⟩⟩ : Frm).flags)).setCell (p := ⟨w.heap.size, 2, none⟩) (Nat.le_refl _) (.string (⟨0, 0, ⟨#[]⟩⟩ : Frm).data)
      obtain ⟨d0, d1, d2⟩ := hfin.cells
      simp only at d0 d1 d2 hbf
      refine bodyPost_ret (v := .tuple #[.agg #[.int .i64 0, .int .i64 0, .string ⟨#[]⟩], .int .i64 0, .int .i64 _]) (by simp [results, Try.results29, go_sem, d0, d1, d2]) rfl (OnePost.mk HZ.out hbf)
  have hx1 : x = 0 := by omega
  subst hx1
  obtain ⟨y1, y2, y3, y4, y5⟩ := hbd rfl
  rw [if_neg (by omega)] at hz
  clear hbd hx hx0 hat0
  obtain ⟨D, hD⟩ : ∃ D, s.extract i j = D := ⟨_, rfl⟩
  have zD : D.size ≤ 140737488351232 → True := fun _ => trivial
  have hDs : D.size = j - i := by rw [← hD, ByteArray.size_extract]; omega
  obtain ⟨a, ha⟩ : ∃ a, s[1].toNat = a := ⟨_, rfl⟩
  have la : a < 256 := by rw [← ha]; exact s[1].toNat_lt
  have qa := fun W => frameAt_1 s D i j a hs y3 (by omega) (by omega) hD ha W
  rw [made_1 s i j y3 (by omega), ha, hD] at hz
  have qr := fun W => right_1 ⟨(a : Int), 0, D⟩ (by show D.size ≤ _; omega) W
  simp only [fmP] at qr qa
  obtain ⟨PR, hPR⟩ : ∃ T, s.extract 0 j = T := ⟨_, rfl⟩
  obtain ⟨SU, hSU⟩ : ∃ T, s.extract j (j + 4) = T := ⟨_, rfl⟩
  have dPR : PR.data.toList = s.data.toList.take j := by rw [← hPR, ext_bytes0]
  have dSU : SU.data.toList = (s.data.toList.drop j).take 4 := by rw [← hSU, ext_bytes4]
  have zPR : PR.size ≤ 140737488355328 := by rw [← hPR, ByteArray.size_extract]; omega
  obtain ⟨j4, hj4⟩ : ∃ x, j + 4 = x := ⟨_, rfl⟩
  have hs2 : ∀ W : World, (Instr.slice 9 (.string s) none (some (.int .i64 j)) none).run Try.prog W = .ok (.string PR) W := fun W => slice_to hPR (by omega) W
  have hs3 : ∀ W : World, (Instr.slice 9 (.string s) (some (.int .i64 j)) (some (.int .i64 j4)) none).run Try.prog W = .ok (.string SU) W := fun W => slice_mid2 (by rw [← hj4]; exact hSU) (by omega) (by omega) W
  have e1 : (j : Int) + 4 = (j4 : Int) := by omega
  have e2 : IntKind.i64.wrap ((j : Int) + 4) = (j4 : Int) := by rw [e1]; exact IntWalk.i64_in _ (by omega)
  have e3 : IntKind.i64.wrap (j4 : Int) = (j4 : Int) := IntWalk.i64_in _ (by omega)
  have k0 : (0 : Int) ≤ (j : Int) := by omega
  have k1 : (j : Int) ≤ (s.size : Int) := by omega
  have k2 : (j4 : Int) ≤ (s.size : Int) := by omega
  have k3 : (j : Int) ≤ (j4 : Int) := by omega
  obtain ⟨u, hu⟩ : ∃ u, sumR (s.data.toList.take j) = u := ⟨_, rfl⟩
  obtain ⟨SB, hSB⟩ : ∃ S, bs (le4 u) = S := ⟨_, rfl⟩
  have qs := fun W => sumOf_any dPR hu hSB zPR W
  have hcmp := cmp_bytes SU SB ((s.data.toList.drop j).take 4) (le4 u) dSU (by rw [← hSB, bs_data])
  rw [hu, hj4] at hz
  obtain ⟨q, hq⟩ : ∃ q, decide ((s.data.toList.drop j).take 4 = le4 u) = q := ⟨_, rfl⟩
  rw [hq] at hcmp
  obtain ⟨k, hok⟩ : ∃ k, okF 1 ⟨(a : Int), 0, D⟩ = k := ⟨_, rfl⟩
  rw [hok] at qr hz
  have HQ := Lib.hid hq; clear hq
  have HZ0 := Lib.hid hz; clear hz
  have HJ := Lib.hid hj4; clear hj4
  have HL := Lib.hid la; clear la
  clear ha
  clear hPR hSU dPR dSU zPR hu hSB hok hsl y1 y2 y4 y5 zD hDs hD hcb
  have hcn : (SU.toList != SB.toList) = !q := by rw [← hcmp]; rfl
  cases k with
  | false =>
    have HZ : Hid (z = (zeroF, 0, 11)) := by
      have := HZ0.out
      rw [if_pos (.inl rfl)] at this
      exact this.symm
    clear HZ0 HQ hcmp hcn
    go_enter Try.func29, Try.ntmps29
    go_wp2_with fail
    ((with_reducible refine (ql _).mono ?_); rintro e W1 ⟨rfl, bq⟩)
    have hb1 := bch HB.out bq; clear bq
    go_wp2_with fail
    ((with_reducible refine (qd _).mono ?_); rintro e W2 ⟨rfl, bq⟩)
    have hb2 := bch hb1 bq; clear bq
    clear hb1
    go_wp2_with fail
    ((with_reducible refine (qa _).mono ?_); rintro e W4 ⟨rfl, bq⟩)
    have hb4 := bch hb2 bq; clear bq
    clear hb2
    have hg5 := FrBlk.new W4 ⟨(a : Int), 0, D⟩
    have hb5 := hb4.alloc hb4.size (.cells #[.int .i64 (a : Int), .int .i64 0, .string D] 23)
    simp only at hg5
    clear hb4
    go_upto_region 10 with fail
    obtain ⟨W5, hW5⟩ : ∃ W, W4.alloc (.cells #[.int .i64 (a : Int), .int .i64 0, .string D] 23) = W := ⟨_, rfl⟩
    try simp only [hW5]
    rw [hW5] at hg5 hb5
    clear hW5
    obtain ⟨g0, g1, g2⟩ := hg5.cells
    simp only at g0 g1 g2
    have HG5 := Lib.hid hg5; clear hg5
    have HB5 := Lib.hid hb5; clear hb5
    refine wp_region_noPanic ?_
    refine wp_region_held_drew (S := fun W => W.cell? ⟨W4.heap.size, 0, none⟩ = some (.int .i64 (a : Int)) ∧ W.cell? ⟨W4.heap.size, 1, none⟩ = some (.int .i64 0) ∧ W.cell? ⟨W4.heap.size, 2, none⟩ = some (.string D) ∧ Below W5.heap.size W5 W) (by kernel_rfl) (⟨g0, g1, g2, (Below.refl _ _).drew⟩) (fun hHeld => ?_)
    refine wpAnyH_take (i := 0) (v := ?_) rfl (by kernel_rfl) (by kernel_rfl) (by kernel_rfl) (fun _ _ _ h => h) (Or.inl ⟨by rfl, ?_⟩) (by assumption) ?_
    rotate_left
    · (intro w hSw; (try dsimp only at hSw); go_simp; (try with_reducible rfl))
    simp only [Act.put, List.getElem_toArray, List.getElem_cons_zero, List.setIfInBounds_toArray, List.set_cons_zero, List.set_cons_succ]
    refine wpAnyH_take (i := 1) (v := ?_) rfl (by kernel_rfl) (by kernel_rfl) (by kernel_rfl) (fun _ _ _ h => h) (Or.inl ⟨by rfl, ?_⟩) (by assumption) ?_
    rotate_left
    · (intro w hSw; (try dsimp only at hSw); go_simp; (try with_reducible rfl))
    simp only [Act.put, List.getElem_toArray, List.getElem_cons_zero, List.getElem_cons_succ, List.setIfInBounds_toArray, List.set_cons_zero, List.set_cons_succ]
    refine wpAnyH_ready (rs := [2]) (by kernel_rfl) (by simp) ?_
    refine AllReadyH.cons rfl (fun K hK => ?_) AllReadyH.nil
    rw [if_pos (by rfl)]
    go_simp
    ((with_reducible refine (qr _).mono ?_); rintro e w' ⟨rfl, bq⟩)
    refine hK.out _ _ (fr_keep hHeld bq) (fun hHeld2 => ?_)
    clear hK K hHeld
    have hHeld := hHeld2; clear hHeld2
    refine wpAnyH_take (i := 3) (v := ?_) rfl (by kernel_rfl) (by kernel_rfl) (by kernel_rfl) (fun _ _ _ h => h) (Or.inl ⟨by rfl, ?_⟩) (by assumption) ?_
    rotate_left
    · (intro w hSw; (try dsimp only at hSw); go_simp; (try with_reducible rfl))
    simp only [Act.put, List.getElem_toArray, List.getElem_cons_zero, List.getElem_cons_succ, List.setIfInBounds_toArray, List.set_cons_zero, List.set_cons_succ]
    refine wpAnyH_take (i := 4) (v := ?_) rfl (by kernel_rfl) (by kernel_rfl) (by kernel_rfl) (fun _ _ _ h => h) (Or.inl ⟨by rfl, ?_⟩) (by assumption) ?_
    rotate_left
    · (intro w hSw; (try dsimp only at hSw); go_simp; (try with_reducible rfl))
    simp only [Act.put, List.getElem_toArray, List.getElem_cons_zero, List.getElem_cons_succ, List.setIfInBounds_toArray, List.set_cons_zero, List.set_cons_succ]
    refine wpAnyH_take (i := 5) (v := undef) rfl (by kernel_rfl) (by kernel_rfl) (by kernel_rfl) (fun _ _ _ h => h) (Or.inr ⟨by rfl, rfl⟩) (by assumption) ?_
    simp only [Act.put, List.getElem_toArray, List.getElem_cons_zero, List.getElem_cons_succ, List.setIfInBounds_toArray, List.set_cons_zero, List.set_cons_succ]
    refine wpAnyH_take (i := 6) (v := undef) rfl (by kernel_rfl) (by kernel_rfl) (by kernel_rfl) (fun _ _ _ h => h) (Or.inr ⟨by rfl, rfl⟩) (by assumption) ?_
    simp only [Act.put, List.getElem_toArray, List.getElem_cons_zero, List.getElem_cons_succ, List.setIfInBounds_toArray, List.set_cons_zero, List.set_cons_succ]
    refine wpAnyH_take (i := 7) (v := undef) rfl (by kernel_rfl) (by kernel_rfl) (by kernel_rfl) (fun _ _ _ h => h) (Or.inr ⟨by rfl, rfl⟩) (by assumption) ?_
    simp only [Act.put, List.getElem_toArray, List.getElem_cons_zero, List.getElem_cons_succ, List.setIfInBounds_toArray, List.set_cons_zero, List.set_cons_succ]
    refine wpAnyH_take (i := 8) (v := undef) rfl (by kernel_rfl) (by kernel_rfl) (by kernel_rfl) (fun _ _ _ h => h) (Or.inr ⟨by rfl, rfl⟩) (by assumption) ?_
    simp only [Act.put, List.getElem_toArray, List.getElem_cons_zero, List.getElem_cons_succ, List.setIfInBounds_toArray, List.set_cons_zero, List.set_cons_succ]
    refine wpAnyH_take (i := 9) (v := undef) rfl (by kernel_rfl) (by kernel_rfl) (by kernel_rfl) (fun _ _ _ h => h) (Or.inr ⟨by rfl, rfl⟩) (by assumption) ?_
    simp only [Act.put, List.getElem_toArray, List.getElem_cons_zero, List.getElem_cons_succ, List.setIfInBounds_toArray, List.set_cons_zero, List.set_cons_succ]
    refine wpAnyH_take (i := 10) (v := undef) rfl (by kernel_rfl) (by kernel_rfl) (by kernel_rfl) (fun _ _ _ h => h) (Or.inr ⟨by rfl, rfl⟩) (by assumption) ?_
    simp only [Act.put, List.getElem_toArray, List.getElem_cons_zero, List.getElem_cons_succ, List.setIfInBounds_toArray, List.set_cons_zero, List.set_cons_succ]
    refine wpAnyH_take (i := 11) (v := undef) rfl (by kernel_rfl) (by kernel_rfl) (by kernel_rfl) (fun _ _ _ h => h) (Or.inr ⟨by rfl, rfl⟩) (by assumption) ?_
    simp only [Act.put, List.getElem_toArray, List.getElem_cons_zero, List.getElem_cons_succ, List.setIfInBounds_toArray, List.set_cons_zero, List.set_cons_succ]
    refine wpAnyH_take (i := 12) (v := undef) rfl (by kernel_rfl) (by kernel_rfl) (by kernel_rfl) (fun _ _ _ h => h) (Or.inr ⟨by rfl, rfl⟩) (by assumption) ?_
    simp only [Act.put, List.getElem_toArray, List.getElem_cons_zero, List.getElem_cons_succ, List.setIfInBounds_toArray, List.set_cons_zero, List.set_cons_succ]
    refine wpAnyH_take (i := 13) (v := undef) rfl (by kernel_rfl) (by kernel_rfl) (by kernel_rfl) (fun _ _ _ h => h) (Or.inr ⟨by rfl, rfl⟩) (by assumption) ?_
    simp only [Act.put, List.getElem_toArray, List.getElem_cons_zero, List.getElem_cons_succ, List.setIfInBounds_toArray, List.set_cons_zero, List.set_cons_succ]
    refine wpAnyH_take (i := 14) (v := undef) rfl (by kernel_rfl) (by kernel_rfl) (by kernel_rfl) (fun _ _ _ h => h) (Or.inr ⟨by rfl, rfl⟩) (by assumption) ?_
    simp only [Act.put, List.getElem_toArray, List.getElem_cons_zero, List.getElem_cons_succ, List.setIfInBounds_toArray, List.set_cons_zero, List.set_cons_succ]
    refine wpAnyH_take (i := 15) (v := ?_) rfl (by kernel_rfl) (by kernel_rfl) (by kernel_rfl) (fun _ _ _ h => h) (Or.inl ⟨by rfl, ?_⟩) (by assumption) ?_
    rotate_left
    · (intro w hSw; (try dsimp only at hSw); go_simp; (try with_reducible rfl))
    simp only [Act.put, List.getElem_toArray, List.getElem_cons_zero, List.getElem_cons_succ, List.setIfInBounds_toArray, List.set_cons_zero, List.set_cons_succ]
    refine wpAnyH_done (by kernel_rfl) ?_ _
    refine NoPanic.normal ?_
    have hbe := bch HB5.out hHeld.2.2.2
    clear hHeld g0 g1 g2
    have hxe := HX.out.below hbe
    obtain ⟨c0, c1, c2⟩ := hxe.cells
    simp only [zeroF] at c0 c1 c2
    have f0 := hxe.frozen 0
    have f1 := hxe.frozen 1
    have f2 := hxe.frozen 2
    have HXE := Lib.hid hxe; clear hxe
    have HBE := Lib.hid hbe; clear hbe
    go_wp2_with fail
    have hfin := HXE.out.put (⟨0, 0, ⟨#[]⟩⟩ : Frm)
    have hbf := (((bch HB0.out HBE.out).setCell (p := ⟨w.heap.size, 0, none⟩) (Nat.le_refl _) (.int .i64 (⟨0, 0, ⟨#[]⟩⟩ : Frm).kind)).setCell (p := ⟨w.heap.size, 1, none⟩) (Nat.le_refl _) (.int .i64 (⟨0, 0, ⟨#[]⟩⟩ : Frm).flags)).setCell (p := ⟨w.heap.size, 2, none⟩) (Nat.le_refl _) (.string (⟨0, 0, ⟨#[]⟩⟩ : Frm).data)
    obtain ⟨d0, d1, d2⟩ := hfin.cells
    simp only at d0 d1 d2 hbf
    refine bodyPost_ret (v := .tuple #[.agg #[.int .i64 0, .int .i64 0, .string ⟨#[]⟩], .int .i64 0, .int .i64 11]) (by simp [results, Try.results29, go_sem, d0, d1, d2]) rfl (OnePost.mk HZ.out hbf)
  | true =>
    cases q with
    | false =>
      have HZ : Hid (z = (zeroF, 0, 11)) := by
        have := HZ0.out
        rw [if_pos (.inr (fun e => of_decide_eq_false HQ.out e.symm))] at this
        exact this.symm
      clear HZ0 HQ
      go_enter Try.func29, Try.ntmps29
      go_wp2_with fail
      ((with_reducible refine (ql _).mono ?_); rintro e W1 ⟨rfl, bq⟩)
      have hb1 := bch HB.out bq; clear bq
      go_wp2_with fail
      ((with_reducible refine (qd _).mono ?_); rintro e W2 ⟨rfl, bq⟩)
      have hb2 := bch hb1 bq; clear bq
      clear hb1
      go_wp2_with fail
      ((with_reducible refine (qa _).mono ?_); rintro e W4 ⟨rfl, bq⟩)
      have hb4 := bch hb2 bq; clear bq
      clear hb2
      have hg5 := FrBlk.new W4 ⟨(a : Int), 0, D⟩
      have hb5 := hb4.alloc hb4.size (.cells #[.int .i64 (a : Int), .int .i64 0, .string D] 23)
      simp only at hg5
      clear hb4
      go_upto_region 10 with fail
      obtain ⟨W5, hW5⟩ : ∃ W, W4.alloc (.cells #[.int .i64 (a : Int), .int .i64 0, .string D] 23) = W := ⟨_, rfl⟩
      try simp only [hW5]
      rw [hW5] at hg5 hb5
      clear hW5
      obtain ⟨g0, g1, g2⟩ := hg5.cells
      simp only at g0 g1 g2
      have HG5 := Lib.hid hg5; clear hg5
      have HB5 := Lib.hid hb5; clear hb5
      refine wp_region_noPanic ?_
      refine wp_region_held_drew (S := fun W => W.cell? ⟨W4.heap.size, 0, none⟩ = some (.int .i64 (a : Int)) ∧ W.cell? ⟨W4.heap.size, 1, none⟩ = some (.int .i64 0) ∧ W.cell? ⟨W4.heap.size, 2, none⟩ = some (.string D) ∧ Below W5.heap.size W5 W) (by kernel_rfl) (⟨g0, g1, g2, (Below.refl _ _).drew⟩) (fun hHeld => ?_)
      refine wpAnyH_take (i := 0) (v := ?_) rfl (by kernel_rfl) (by kernel_rfl) (by kernel_rfl) (fun _ _ _ h => h) (Or.inl ⟨by rfl, ?_⟩) (by assumption) ?_
      rotate_left
      · (intro w hSw; (try dsimp only at hSw); go_simp; (try with_reducible rfl))
      simp only [Act.put, List.getElem_toArray, List.getElem_cons_zero, List.setIfInBounds_toArray, List.set_cons_zero, List.set_cons_succ]
      refine wpAnyH_take (i := 1) (v := ?_) rfl (by kernel_rfl) (by kernel_rfl) (by kernel_rfl) (fun _ _ _ h => h) (Or.inl ⟨by rfl, ?_⟩) (by assumption) ?_
      rotate_left
      · (intro w hSw; (try dsimp only at hSw); go_simp; (try with_reducible rfl))
      simp only [Act.put, List.getElem_toArray, List.getElem_cons_zero, List.getElem_cons_succ, List.setIfInBounds_toArray, List.set_cons_zero, List.set_cons_succ]
      refine wpAnyH_ready (rs := [2]) (by kernel_rfl) (by simp) ?_
      refine AllReadyH.cons rfl (fun K hK => ?_) AllReadyH.nil
      rw [if_pos (by rfl)]
      go_simp
      ((with_reducible refine (qr _).mono ?_); rintro e w' ⟨rfl, bq⟩)
      refine hK.out _ _ (fr_keep hHeld bq) (fun hHeld2 => ?_)
      clear hK K hHeld
      have hHeld := hHeld2; clear hHeld2
      refine wpAnyH_take (i := 3) (v := ?_) rfl (by kernel_rfl) (by kernel_rfl) (by kernel_rfl) (fun _ _ _ h => h) (Or.inl ⟨by rfl, ?_⟩) (by assumption) ?_
      rotate_left
      · (intro w hSw; (try dsimp only at hSw); go_simp; (try with_reducible rfl))
      simp only [Act.put, List.getElem_toArray, List.getElem_cons_zero, List.getElem_cons_succ, List.setIfInBounds_toArray, List.set_cons_zero, List.set_cons_succ]
      refine wpAnyH_take (i := 4) (v := ?_) rfl (by kernel_rfl) (by kernel_rfl) (by kernel_rfl) (fun _ _ _ h => h) (Or.inl ⟨by rfl, ?_⟩) (by assumption) ?_
      rotate_left
      · (intro w hSw; (try dsimp only at hSw); go_simp; (try with_reducible rfl))
      simp only [Act.put, List.getElem_toArray, List.getElem_cons_zero, List.getElem_cons_succ, List.setIfInBounds_toArray, List.set_cons_zero, List.set_cons_succ]
      refine wpAnyH_take (i := 5) (v := ?_) rfl (by kernel_rfl) (by kernel_rfl) (by kernel_rfl) (fun _ _ _ h => h) (Or.inl ⟨by rfl, ?_⟩) (by assumption) ?_
      rotate_left
      · (intro w hSw; (try dsimp only at hSw); go_simp; (try with_reducible rfl))
      simp only [Act.put, List.getElem_toArray, List.getElem_cons_zero, List.getElem_cons_succ, List.setIfInBounds_toArray, List.set_cons_zero, List.set_cons_succ]
      refine wpAnyH_take (i := 6) (v := ?_) rfl (by kernel_rfl) (by kernel_rfl) (by kernel_rfl) (fun _ _ _ h => h) (Or.inl ⟨by rfl, ?_⟩) (by assumption) ?_
      rotate_left
      · (intro w hSw; (try dsimp only at hSw); go_simp; (try with_reducible rfl))
      simp only [Act.put, List.getElem_toArray, List.getElem_cons_zero, List.getElem_cons_succ, List.setIfInBounds_toArray, List.set_cons_zero, List.set_cons_succ]
      refine wpAnyH_take (i := 7) (v := ?_) rfl (by kernel_rfl) (by kernel_rfl) (by kernel_rfl) (fun _ _ _ h => h) (Or.inl ⟨by rfl, ?_⟩) (by assumption) ?_
      rotate_left
      · (intro w hSw; (try dsimp only at hSw); go_simp; (try with_reducible rfl))
      simp only [Act.put, List.getElem_toArray, List.getElem_cons_zero, List.getElem_cons_succ, List.setIfInBounds_toArray, List.set_cons_zero, List.set_cons_succ]
      refine wpAnyH_take (i := 8) (v := ?_) rfl (by kernel_rfl) (by kernel_rfl) (by kernel_rfl) (fun _ _ _ h => h) (Or.inl ⟨by rfl, ?_⟩) (by assumption) ?_
      rotate_left
      · (intro w hSw; (try dsimp only at hSw); go_simp; (try with_reducible rfl))
      simp only [Act.put, List.getElem_toArray, List.getElem_cons_zero, List.getElem_cons_succ, List.setIfInBounds_toArray, List.set_cons_zero, List.set_cons_succ]
      refine wpAnyH_take (i := 9) (v := ?_) rfl (by kernel_rfl) (by kernel_rfl) (by kernel_rfl) (fun _ _ _ h => h) (Or.inl ⟨by rfl, ?_⟩) (by assumption) ?_
      rotate_left
      · (intro w hSw; (try dsimp only at hSw); go_simp; (try with_reducible rfl))
      simp only [Act.put, List.getElem_toArray, List.getElem_cons_zero, List.getElem_cons_succ, List.setIfInBounds_toArray, List.set_cons_zero, List.set_cons_succ]
      refine wpAnyH_take (i := 10) (v := ?_) rfl (by kernel_rfl) (by kernel_rfl) (by kernel_rfl) (fun _ _ _ h => h) (Or.inl ⟨by rfl, ?_⟩) (by assumption) ?_
      rotate_left
      · (intro w hSw; (try dsimp only at hSw); go_simp; (try with_reducible rfl))
      simp only [Act.put, List.getElem_toArray, List.getElem_cons_zero, List.getElem_cons_succ, List.setIfInBounds_toArray, List.set_cons_zero, List.set_cons_succ]
      refine wpAnyH_take (i := 11) (v := ?_) rfl (by kernel_rfl) (by kernel_rfl) (by kernel_rfl) (fun _ _ _ h => h) (Or.inl ⟨by rfl, ?_⟩) (by assumption) ?_
      rotate_left
      · (intro w hSw; (try dsimp only at hSw); go_simp; (try with_reducible rfl))
      simp only [Act.put, List.getElem_toArray, List.getElem_cons_zero, List.getElem_cons_succ, List.setIfInBounds_toArray, List.set_cons_zero, List.set_cons_succ]
      refine wpAnyH_take (i := 12) (v := ?_) rfl (by kernel_rfl) (by kernel_rfl) (by kernel_rfl) (fun _ _ _ h => h) (Or.inl ⟨by rfl, ?_⟩) (by assumption) ?_
      rotate_left
      · (intro w hSw; (try dsimp only at hSw); go_simp; (try with_reducible rfl))
      simp only [Act.put, List.getElem_toArray, List.getElem_cons_zero, List.getElem_cons_succ, List.setIfInBounds_toArray, List.set_cons_zero, List.set_cons_succ]
      refine wpAnyH_ready (rs := [13]) (by kernel_rfl) (by simp) ?_
      refine AllReadyH.cons rfl (fun K hK => ?_) AllReadyH.nil
      rw [if_pos (by rfl)]
      go_simp
      ((with_reducible refine (qs _).mono ?_); rintro e w' ⟨rfl, bq⟩)
      refine hK.out _ _ (fr_keep hHeld bq) (fun hHeld2 => ?_)
      clear hK K hHeld
      have hHeld := hHeld2; clear hHeld2
      refine wpAnyH_take (i := 14) (v := ?_) rfl (by kernel_rfl) (by kernel_rfl) (by kernel_rfl) (fun _ _ _ h => h) (Or.inl ⟨by rfl, ?_⟩) (by assumption) ?_
      rotate_left
      · (intro w hSw; (try dsimp only at hSw); go_simp; (try with_reducible rfl))
      simp only [Act.put, List.getElem_toArray, List.getElem_cons_zero, List.getElem_cons_succ, List.setIfInBounds_toArray, List.set_cons_zero, List.set_cons_succ]
      refine wpAnyH_take (i := 15) (v := ?_) rfl (by kernel_rfl) (by kernel_rfl) (by kernel_rfl) (fun _ _ _ h => h) (Or.inl ⟨by rfl, ?_⟩) (by assumption) ?_
      rotate_left
      · (intro w hSw; (try dsimp only at hSw); go_simp; (try with_reducible rfl))
      simp only [Act.put, List.getElem_toArray, List.getElem_cons_zero, List.getElem_cons_succ, List.setIfInBounds_toArray, List.set_cons_zero, List.set_cons_succ]
      refine wpAnyH_done (by kernel_rfl) ?_ _
      refine NoPanic.normal ?_
      have hbe := bch HB5.out hHeld.2.2.2
      clear hHeld g0 g1 g2
      have hxe := HX.out.below hbe
      obtain ⟨c0, c1, c2⟩ := hxe.cells
      simp only [zeroF] at c0 c1 c2
      have f0 := hxe.frozen 0
      have f1 := hxe.frozen 1
      have f2 := hxe.frozen 2
      have HXE := Lib.hid hxe; clear hxe
      have HBE := Lib.hid hbe; clear hbe
      go_wp2_with fail
      have hfin := HXE.out.put (⟨0, 0, ⟨#[]⟩⟩ : Frm)
      have hbf := (((bch HB0.out HBE.out).setCell (p := ⟨w.heap.size, 0, none⟩) (Nat.le_refl _) (.int .i64 (⟨0, 0, ⟨#[]⟩⟩ : Frm).kind)).setCell (p := ⟨w.heap.size, 1, none⟩) (Nat.le_refl _) (.int .i64 (⟨0, 0, ⟨#[]⟩⟩ : Frm).flags)).setCell (p := ⟨w.heap.size, 2, none⟩) (Nat.le_refl _) (.string (⟨0, 0, ⟨#[]⟩⟩ : Frm).data)
      obtain ⟨d0, d1, d2⟩ := hfin.cells
      simp only at d0 d1 d2 hbf
      refine bodyPost_ret (v := .tuple #[.agg #[.int .i64 0, .int .i64 0, .string ⟨#[]⟩], .int .i64 0, .int .i64 11]) (by simp [results, Try.results29, go_sem, d0, d1, d2]) rfl (OnePost.mk HZ.out hbf)
    | true =>
      have HZ : Hid (z = (⟨(a : Int), 0, D⟩, j4, 0)) := by
        have := HZ0.out
        rw [if_neg (by rintro (h | h); cases h; exact h (of_decide_eq_true HQ.out).symm)] at this
        exact this.symm
      clear HZ0 HQ
      go_enter Try.func29, Try.ntmps29
      go_wp2_with fail
      ((with_reducible refine (ql _).mono ?_); rintro e W1 ⟨rfl, bq⟩)
      have hb1 := bch HB.out bq; clear bq
      go_wp2_with fail
      ((with_reducible refine (qd _).mono ?_); rintro e W2 ⟨rfl, bq⟩)
      have hb2 := bch hb1 bq; clear bq
      clear hb1
      go_wp2_with fail
      ((with_reducible refine (qa _).mono ?_); rintro e W4 ⟨rfl, bq⟩)
      have hb4 := bch hb2 bq; clear bq
      clear hb2
      have hg5 := FrBlk.new W4 ⟨(a : Int), 0, D⟩
      have hb5 := hb4.alloc hb4.size (.cells #[.int .i64 (a : Int), .int .i64 0, .string D] 23)
      simp only at hg5
      clear hb4
      go_upto_region 10 with fail
      obtain ⟨W5, hW5⟩ : ∃ W, W4.alloc (.cells #[.int .i64 (a : Int), .int .i64 0, .string D] 23) = W := ⟨_, rfl⟩
      try simp only [hW5]
      rw [hW5] at hg5 hb5
      clear hW5
      obtain ⟨g0, g1, g2⟩ := hg5.cells
      simp only at g0 g1 g2
      have HG5 := Lib.hid hg5; clear hg5
      have HB5 := Lib.hid hb5; clear hb5
      refine wp_region_noPanic ?_
      refine wp_region_held_drew (S := fun W => W.cell? ⟨W4.heap.size, 0, none⟩ = some (.int .i64 (a : Int)) ∧ W.cell? ⟨W4.heap.size, 1, none⟩ = some (.int .i64 0) ∧ W.cell? ⟨W4.heap.size, 2, none⟩ = some (.string D) ∧ Below W5.heap.size W5 W) (by kernel_rfl) (⟨g0, g1, g2, (Below.refl _ _).drew⟩) (fun hHeld => ?_)
      refine wpAnyH_take (i := 0) (v := ?_) rfl (by kernel_rfl) (by kernel_rfl) (by kernel_rfl) (fun _ _ _ h => h) (Or.inl ⟨by rfl, ?_⟩) (by assumption) ?_
      rotate_left
      · (intro w hSw; (try dsimp only at hSw); go_simp; (try with_reducible rfl))
      simp only [Act.put, List.getElem_toArray, List.getElem_cons_zero, List.setIfInBounds_toArray, List.set_cons_zero, List.set_cons_succ]
      refine wpAnyH_take (i := 1) (v := ?_) rfl (by kernel_rfl) (by kernel_rfl) (by kernel_rfl) (fun _ _ _ h => h) (Or.inl ⟨by rfl, ?_⟩) (by assumption) ?_
      rotate_left
      · (intro w hSw; (try dsimp only at hSw); go_simp; (try with_reducible rfl))
      simp only [Act.put, List.getElem_toArray, List.getElem_cons_zero, List.getElem_cons_succ, List.setIfInBounds_toArray, List.set_cons_zero, List.set_cons_succ]
      refine wpAnyH_ready (rs := [2]) (by kernel_rfl) (by simp) ?_
      refine AllReadyH.cons rfl (fun K hK => ?_) AllReadyH.nil
      rw [if_pos (by rfl)]
      go_simp
      ((with_reducible refine (qr _).mono ?_); rintro e w' ⟨rfl, bq⟩)
      refine hK.out _ _ (fr_keep hHeld bq) (fun hHeld2 => ?_)
      clear hK K hHeld
      have hHeld := hHeld2; clear hHeld2
      refine wpAnyH_take (i := 3) (v := ?_) rfl (by kernel_rfl) (by kernel_rfl) (by kernel_rfl) (fun _ _ _ h => h) (Or.inl ⟨by rfl, ?_⟩) (by assumption) ?_
      rotate_left
      · (intro w hSw; (try dsimp only at hSw); go_simp; (try with_reducible rfl))
      simp only [Act.put, List.getElem_toArray, List.getElem_cons_zero, List.getElem_cons_succ, List.setIfInBounds_toArray, List.set_cons_zero, List.set_cons_succ]
      refine wpAnyH_take (i := 4) (v := ?_) rfl (by kernel_rfl) (by kernel_rfl) (by kernel_rfl) (fun _ _ _ h => h) (Or.inl ⟨by rfl, ?_⟩) (by assumption) ?_
      rotate_left
      · (intro w hSw; (try dsimp only at hSw); go_simp; (try with_reducible rfl))
      simp only [Act.put, List.getElem_toArray, List.getElem_cons_zero, List.getElem_cons_succ, List.setIfInBounds_toArray, List.set_cons_zero, List.set_cons_succ]
      refine wpAnyH_take (i := 5) (v := ?_) rfl (by kernel_rfl) (by kernel_rfl) (by kernel_rfl) (fun _ _ _ h => h) (Or.inl ⟨by rfl, ?_⟩) (by assumption) ?_
      rotate_left
      · (intro w hSw; (try dsimp only at hSw); go_simp; (try with_reducible rfl))
      simp only [Act.put, List.getElem_toArray, List.getElem_cons_zero, List.getElem_cons_succ, List.setIfInBounds_toArray, List.set_cons_zero, List.set_cons_succ]
      refine wpAnyH_take (i := 6) (v := ?_) rfl (by kernel_rfl) (by kernel_rfl) (by kernel_rfl) (fun _ _ _ h => h) (Or.inl ⟨by rfl, ?_⟩) (by assumption) ?_
      rotate_left
      · (intro w hSw; (try dsimp only at hSw); go_simp; (try with_reducible rfl))
      simp only [Act.put, List.getElem_toArray, List.getElem_cons_zero, List.getElem_cons_succ, List.setIfInBounds_toArray, List.set_cons_zero, List.set_cons_succ]
      refine wpAnyH_take (i := 7) (v := ?_) rfl (by kernel_rfl) (by kernel_rfl) (by kernel_rfl) (fun _ _ _ h => h) (Or.inl ⟨by rfl, ?_⟩) (by assumption) ?_
      rotate_left
      · (intro w hSw; (try dsimp only at hSw); go_simp; (try with_reducible rfl))
      simp only [Act.put, List.getElem_toArray, List.getElem_cons_zero, List.getElem_cons_succ, List.setIfInBounds_toArray, List.set_cons_zero, List.set_cons_succ]
      refine wpAnyH_take (i := 8) (v := ?_) rfl (by kernel_rfl) (by kernel_rfl) (by kernel_rfl) (fun _ _ _ h => h) (Or.inl ⟨by rfl, ?_⟩) (by assumption) ?_
      rotate_left
      · (intro w hSw; (try dsimp only at hSw); go_simp; (try with_reducible rfl))
      simp only [Act.put, List.getElem_toArray, List.getElem_cons_zero, List.getElem_cons_succ, List.setIfInBounds_toArray, List.set_cons_zero, List.set_cons_succ]
      refine wpAnyH_take (i := 9) (v := ?_) rfl (by kernel_rfl) (by kernel_rfl) (by kernel_rfl) (fun _ _ _ h => h) (Or.inl ⟨by rfl, ?_⟩) (by assumption) ?_
      rotate_left
      · (intro w hSw; (try dsimp only at hSw); go_simp; (try with_reducible rfl))
      simp only [Act.put, List.getElem_toArray, List.getElem_cons_zero, List.getElem_cons_succ, List.setIfInBounds_toArray, List.set_cons_zero, List.set_cons_succ]
      refine wpAnyH_take (i := 10) (v := ?_) rfl (by kernel_rfl) (by kernel_rfl) (by kernel_rfl) (fun _ _ _ h => h) (Or.inl ⟨by rfl, ?_⟩) (by assumption) ?_
      rotate_left
      · (intro w hSw; (try dsimp only at hSw); go_simp; (try with_reducible rfl))
      simp only [Act.put, List.getElem_toArray, List.getElem_cons_zero, List.getElem_cons_succ, List.setIfInBounds_toArray, List.set_cons_zero, List.set_cons_succ]
      refine wpAnyH_take (i := 11) (v := ?_) rfl (by kernel_rfl) (by kernel_rfl) (by kernel_rfl) (fun _ _ _ h => h) (Or.inl ⟨by rfl, ?_⟩) (by assumption) ?_
      rotate_left
      · (intro w hSw; (try dsimp only at hSw); go_simp; (try with_reducible rfl))
      simp only [Act.put, List.getElem_toArray, List.getElem_cons_zero, List.getElem_cons_succ, List.setIfInBounds_toArray, List.set_cons_zero, List.set_cons_succ]
      refine wpAnyH_take (i := 12) (v := ?_) rfl (by kernel_rfl) (by kernel_rfl) (by kernel_rfl) (fun _ _ _ h => h) (Or.inl ⟨by rfl, ?_⟩) (by assumption) ?_
      rotate_left
      · (intro w hSw; (try dsimp only at hSw); go_simp; (try with_reducible rfl))
      simp only [Act.put, List.getElem_toArray, List.getElem_cons_zero, List.getElem_cons_succ, List.setIfInBounds_toArray, List.set_cons_zero, List.set_cons_succ]
      refine wpAnyH_ready (rs := [13]) (by kernel_rfl) (by simp) ?_
      refine AllReadyH.cons rfl (fun K hK => ?_) AllReadyH.nil
      rw [if_pos (by rfl)]
      go_simp
      ((with_reducible refine (qs _).mono ?_); rintro e w' ⟨rfl, bq⟩)
      refine hK.out _ _ (fr_keep hHeld bq) (fun hHeld2 => ?_)
      clear hK K hHeld
      have hHeld := hHeld2; clear hHeld2
      refine wpAnyH_take (i := 14) (v := ?_) rfl (by kernel_rfl) (by kernel_rfl) (by kernel_rfl) (fun _ _ _ h => h) (Or.inl ⟨by rfl, ?_⟩) (by assumption) ?_
      rotate_left
      · (intro w hSw; (try dsimp only at hSw); go_simp; (try with_reducible rfl))
      simp only [Act.put, List.getElem_toArray, List.getElem_cons_zero, List.getElem_cons_succ, List.setIfInBounds_toArray, List.set_cons_zero, List.set_cons_succ]
      refine wpAnyH_take (i := 15) (v := ?_) rfl (by kernel_rfl) (by kernel_rfl) (by kernel_rfl) (fun _ _ _ h => h) (Or.inl ⟨by rfl, ?_⟩) (by assumption) ?_
      rotate_left
      · (intro w hSw; (try dsimp only at hSw); go_simp; (try with_reducible rfl))
      simp only [Act.put, List.getElem_toArray, List.getElem_cons_zero, List.getElem_cons_succ, List.setIfInBounds_toArray, List.set_cons_zero, List.set_cons_succ]
      refine wpAnyH_done (by kernel_rfl) ?_ _
      refine NoPanic.normal ?_
      have hbe := bch HB5.out hHeld.2.2.2
      have HGE := Lib.hid (HG5.out.below hHeld.2.2.2)
      clear hHeld g0 g1 g2
      obtain ⟨g0, g1, g2⟩ := HGE.out.cells
      simp only at g0 g1 g2
      have hxe := HX.out.below hbe
      obtain ⟨c0, c1, c2⟩ := hxe.cells
      simp only [zeroF] at c0 c1 c2
      have f0 := hxe.frozen 0
      have f1 := hxe.frozen 1
      have f2 := hxe.frozen 2
      have HXE := Lib.hid hxe; clear hxe
      have HBE := Lib.hid hbe; clear hbe
      go_wp2_with fail
      have hfin := HXE.out.put (⟨(a : Int), 0, D⟩ : Frm)
      have hbf := (((bch HB0.out HBE.out).setCell (p := ⟨w.heap.size, 0, none⟩) (Nat.le_refl _) (.int .i64 (⟨(a : Int), 0, D⟩ : Frm).kind)).setCell (p := ⟨w.heap.size, 1, none⟩) (Nat.le_refl _) (.int .i64 (⟨(a : Int), 0, D⟩ : Frm).flags)).setCell (p := ⟨w.heap.size, 2, none⟩) (Nat.le_refl _) (.string (⟨(a : Int), 0, D⟩ : Frm).data)
      obtain ⟨d0, d1, d2⟩ := hfin.cells
      simp only at d0 d1 d2 hbf
      refine bodyPost_ret (v := .tuple #[.agg #[.int .i64 (a : Int), .int .i64 0, .string D], .int .i64 j4, .int .i64 0]) (by simp [results, Try.results29, go_sem, d0, d1, d2]) rfl (OnePost.mk HZ.out hbf)

set_option maxRecDepth 100000 in
set_option maxHeartbeats 4000000 in
theorem take_2 (s : ByteArray) (hs : s.size ≤ 140737488355328) (h0 : 0 < s.size) (w : World) :
    Calls Try.prog 29 #[fmF, .string s] w (OnePost w (tkR 2 s.data.toList)) := by
  have hsl : s.data.toList.length = s.size := by simp
  have hat0 := at_byte s 0 h0
  obtain ⟨z, hz⟩ : ∃ z, tkR 2 s.data.toList = z := ⟨_, rfl⟩
  rw [hz]
  obtain ⟨c, hc⟩ : ∃ c, s[0].toNat = c := ⟨_, rfl⟩
  rw [hc] at hat0
  have hcb : c < 256 := by rw [← hc]; exact s[0].toNat_lt
  have j0 : (0 : Int) < (s.size : Int) := by omega
  have hb0 : Below w.heap.size w (w.alloc (.cells #[.int .i64 0, .int .i64 0, .string ⟨#[]⟩] 23)) := (Below.refl _ _).alloc (Nat.le_refl _) _
  have hbx := FrBlk.new w zeroF
  simp only [zeroF] at hbx
  obtain ⟨W0, hW0⟩ : ∃ W, w.alloc (.cells #[.int .i64 0, .int .i64 0, .string ⟨#[]⟩] 23) = W := ⟨_, rfl⟩
  rw [hW0] at hb0 hbx
  have HX : Hid (FrBlk W0 w.heap.size zeroF) := hbx
  have HB0 := Lib.hid hb0; clear hb0 hbx
  have HB : Hid (Below W0.heap.size W0 W0) := Below.refl _ _
  have ql := letter_2
  have qu := letter_1
  have qo := other_2
  have qd := fun W => dataPlace_2 s hs W
  unfold fmF at *
  unfold fmP at *
  by_cases hA : c ≠ 97 ∧ c ≠ 98
  · have n1 : ((c : Int) == 97) = false := by have := hA.1; simp; omega
    have n2 : ((c : Int) == 98) = false := by have := hA.2; simp; omega
    rw [tk_form 2 (by omega) (by omega)] at hz
    have HZ := Lib.hid hz.symm
    clear hz hA hsl hat0 qd
    go_enter Try.func29, Try.ntmps29
    go_wp2_with fail
    ((with_reducible refine (ql _).mono ?_); rintro e W1 ⟨rfl, bq⟩)
    have hb1 := bch HB.out bq; clear bq
    go_wp2_with fail
    ((with_reducible refine (qo _).mono ?_); rintro e W2 ⟨rfl, bq⟩)
    have hb2 := bch hb1 bq; clear bq
    clear hb1
    go_wp2_with fail
    ((with_reducible refine (qu _).mono ?_); rintro e W3 ⟨rfl, bq⟩)
    have hb3 := bch hb2 bq; clear bq
    clear hb2
    have hxe := HX.out.below hb3
    obtain ⟨c0, c1, c2⟩ := hxe.cells
    simp only [zeroF] at c0 c1 c2
    have f0 := hxe.frozen 0
    have f1 := hxe.frozen 1
    have f2 := hxe.frozen 2
    have HXE := Lib.hid hxe; clear hxe
    have HBE := Lib.hid hb3; clear hb3
    go_wp2_with fail
    have hfin := HXE.out.put (⟨0, 0, ⟨#[]⟩⟩ : Frm)
    have hbf := (((bch HB0.out HBE.out).setCell (p := ⟨w.heap.size, 0, none⟩) (Nat.le_refl _) (.int .i64 (⟨0, 0, ⟨#[]⟩⟩ : Frm).kind)).setCell (p := ⟨w.heap.size, 1, none⟩) (Nat.le_refl _) (.int .i64 (⟨0, 0, ⟨#[]⟩⟩ : Frm).flags)).setCell (p := ⟨w.heap.size, 2, none⟩) (Nat.le_refl _) (.string (⟨0, 0, ⟨#[]⟩⟩ : Frm).data)
    obtain ⟨d0, d1, d2⟩ := hfin.cells
    simp only at d0 d1 d2 hbf
    refine bodyPost_ret (v := .tuple #[.agg #[.int .i64 0, .int .i64 0, .string ⟨#[]⟩], .int .i64 0, .int .i64 11]) (by simp [results, Try.results29, go_sem, d0, d1, d2]) rfl (OnePost.mk HZ.out hbf)
  by_cases hB : c = 97
  · subst hB
    rw [tk_other2 (by omega)] at hz
    have HZ := Lib.hid hz.symm
    clear hz hA hsl hat0 qd
    go_enter Try.func29, Try.ntmps29
    go_wp2_with fail
    ((with_reducible refine (ql _).mono ?_); rintro e W1 ⟨rfl, bq⟩)
    have hb1 := bch HB.out bq; clear bq
    go_wp2_with fail
    ((with_reducible refine (qo _).mono ?_); rintro e W2 ⟨rfl, bq⟩)
    have hb2 := bch hb1 bq; clear bq
    clear hb1
    go_wp2_with fail
    ((with_reducible refine (qu _).mono ?_); rintro e W3 ⟨rfl, bq⟩)
    have hb3 := bch hb2 bq; clear bq
    clear hb2
    have hxe := HX.out.below hb3
    obtain ⟨c0, c1, c2⟩ := hxe.cells
    simp only [zeroF] at c0 c1 c2
    have f0 := hxe.frozen 0
    have f1 := hxe.frozen 1
    have f2 := hxe.frozen 2
    have HXE := Lib.hid hxe; clear hxe
    have HBE := Lib.hid hb3; clear hb3
    go_wp2_with fail
    have hfin := HXE.out.put (⟨0, 0, ⟨#[]⟩⟩ : Frm)
    have hbf := (((bch HB0.out HBE.out).setCell (p := ⟨w.heap.size, 0, none⟩) (Nat.le_refl _) (.int .i64 (⟨0, 0, ⟨#[]⟩⟩ : Frm).kind)).setCell (p := ⟨w.heap.size, 1, none⟩) (Nat.le_refl _) (.int .i64 (⟨0, 0, ⟨#[]⟩⟩ : Frm).flags)).setCell (p := ⟨w.heap.size, 2, none⟩) (Nat.le_refl _) (.string (⟨0, 0, ⟨#[]⟩⟩ : Frm).data)
    obtain ⟨d0, d1, d2⟩ := hfin.cells
    simp only at d0 d1 d2 hbf
    refine bodyPost_ret (v := .tuple #[.agg #[.int .i64 0, .int .i64 0, .string ⟨#[]⟩], .int .i64 0, .int .i64 22]) (by simp [results, Try.results29, go_sem, d0, d1, d2]) rfl (OnePost.mk HZ.out hbf)
  have hC : c = 98 := by omega
  subst hC
  clear hA hB qo qu
  obtain ⟨i, j, x, hd⟩ : ∃ i j x, dpR 2 s.data.toList = (i, j, x) := ⟨_, _, _, rfl⟩
  rw [tk_own (by omega) hd] at hz
  obtain ⟨hx, hbd⟩ := dp_bound hd
  rw [hd] at qd
  unfold DpPost at qd
  simp only at qd
  clear hd
  rw [hsl] at hbd
  by_cases hx0 : x ≠ 0
  · rw [if_pos hx0] at hz
    have HZ := Lib.hid hz.symm
    have hx2 : x = 10 ∨ x = 11 := by omega
    clear hz hsl hat0 hbd hx hx0
    rcases hx2 with rfl | rfl
    · skip
      go_enter Try.func29, Try.ntmps29
      go_wp2_with fail
      ((with_reducible refine (ql _).mono ?_); rintro e W1 ⟨rfl, bq⟩)
      have hb1 := bch HB.out bq; clear bq
      go_wp2_with fail
      ((with_reducible refine (qd _).mono ?_); rintro e W2 ⟨rfl, bq⟩)
      have hb2 := bch hb1 bq; clear bq
      clear hb1
      have hxe := HX.out.below hb2
      obtain ⟨c0, c1, c2⟩ := hxe.cells
      simp only [zeroF] at c0 c1 c2
      have f0 := hxe.frozen 0
      have f1 := hxe.frozen 1
      have f2 := hxe.frozen 2
      have HXE := Lib.hid hxe; clear hxe
      have HBE := Lib.hid hb2; clear hb2
      go_wp2_with fail
      have hfin := HXE.out.put (⟨0, 0, ⟨#[]⟩⟩ : Frm)
      have hbf := (((bch HB0.out HBE.out).setCell (p := ⟨w.heap.size, 0, none⟩) (Nat.le_refl _) (.int .i64 (⟨0, 0, ⟨#[]⟩⟩ : Frm).kind)).setCell (p := ⟨w.heap.size, 1, none⟩) (Nat.le_refl _) (.int .i64 (⟨0, 0, ⟨#[]⟩⟩ : Frm).flags)).setCell (p := ⟨w.heap.size, 2, none⟩) (Nat.le_refl _) (.string (⟨0, 0, ⟨#[]⟩⟩ : Frm).data)
      obtain ⟨d0, d1, d2⟩ := hfin.cells
      simp only at d0 d1 d2 hbf
      refine bodyPost_ret (v := .tuple #[.agg #[.int .i64 0, .int .i64 0, .string ⟨#[]⟩], .int .i64 0, .int .i64 _]) (by simp [results, Try.results29, go_sem, d0, d1, d2]) rfl (OnePost.mk HZ.out hbf)
    · skip
      go_enter Try.func29, Try.ntmps29
      go_wp2_with fail
      ((with_reducible refine (ql _).mono ?_); rintro e W1 ⟨rfl, bq⟩)
      have hb1 := bch HB.out bq; clear bq
      go_wp2_with fail
      ((with_reducible refine (qd _).mono ?_); rintro e W2 ⟨rfl, bq⟩)
      have hb2 := bch hb1 bq; clear bq
      clear hb1
      have hxe := HX.out.below hb2
      obtain ⟨c0, c1, c2⟩ := hxe.cells
      simp only [zeroF] at c0 c1 c2
      have f0 := hxe.frozen 0
      have f1 := hxe.frozen 1
      have f2 := hxe.frozen 2
      have HXE := Lib.hid hxe; clear hxe
      have HBE := Lib.hid hb2; clear hb2
      go_wp2_with fail
      have hfin := HXE.out.put (⟨0, 0, ⟨#[]⟩⟩ : Frm)
      have hbf := (((bch HB0.out HBE.out).setCell (p := ⟨w.heap.size, 0, none⟩) (Nat.le_refl _) (.int .i64 (⟨0, 0, ⟨#[]⟩⟩ : Frm).kind)).setCell (p := ⟨w.heap.size, 1, none⟩) (Nat.le_refl _) (.int .i64 (⟨0, 0, ⟨#[]⟩⟩ : Frm).flags)).setCell (p := ⟨w.heap.size, 2, none⟩) (Nat.le_refl _) (.string (⟨0, 0, ⟨#[]⟩⟩ : Frm).data)
      obtain ⟨d0, d1, d2⟩ := hfin.cells
      simp only at d0 d1 d2 hbf
      refine bodyPost_ret (v := .tuple #[.agg #[.int .i64 0, .int .i64 0, .string ⟨#[]⟩], .int .i64 0, .int .i64 _]) (by simp [results, Try.results29, go_sem, d0, d1, d2]) rfl (OnePost.mk HZ.out hbf)
  have hx1 : x = 0 := by omega
  subst hx1
  obtain ⟨y1, y2, y3, y4, y5⟩ := hbd rfl
  rw [if_neg (by omega)] at hz
  clear hbd hx hx0 hat0
  obtain ⟨D, hD⟩ : ∃ D, s.extract i j = D := ⟨_, rfl⟩
  have zD : D.size ≤ 140737488351232 → True := fun _ => trivial
  have hDs : D.size = j - i := by rw [← hD, ByteArray.size_extract]; omega
  obtain ⟨a, ha⟩ : ∃ a, s[2].toNat = a := ⟨_, rfl⟩
  obtain ⟨b, hb⟩ : ∃ b, s[1].toNat = b := ⟨_, rfl⟩
  have la : a < 256 := by rw [← ha]; exact s[2].toNat_lt
  have lb : b < 256 := by rw [← hb]; exact s[1].toNat_lt
  have qa := fun W => frameAt_2 s D i j a b hs y3 (by omega) (by omega) hD ha hb W
  rw [made_2 s i j y3 (by omega), ha, hb, hD] at hz
  have qr := fun W => right_2 ⟨(a : Int), (b : Int), D⟩ (by show D.size ≤ _; omega) W
  simp only [fmF] at qr qa
  obtain ⟨PR, hPR⟩ : ∃ T, s.extract 0 j = T := ⟨_, rfl⟩
  obtain ⟨SU, hSU⟩ : ∃ T, s.extract j (j + 4) = T := ⟨_, rfl⟩
  have dPR : PR.data.toList = s.data.toList.take j := by rw [← hPR, ext_bytes0]
  have dSU : SU.data.toList = (s.data.toList.drop j).take 4 := by rw [← hSU, ext_bytes4]
  have zPR : PR.size ≤ 140737488355328 := by rw [← hPR, ByteArray.size_extract]; omega
  obtain ⟨j4, hj4⟩ : ∃ x, j + 4 = x := ⟨_, rfl⟩
  have hs2 : ∀ W : World, (Instr.slice 9 (.string s) none (some (.int .i64 j)) none).run Try.prog W = .ok (.string PR) W := fun W => slice_to hPR (by omega) W
  have hs3 : ∀ W : World, (Instr.slice 9 (.string s) (some (.int .i64 j)) (some (.int .i64 j4)) none).run Try.prog W = .ok (.string SU) W := fun W => slice_mid2 (by rw [← hj4]; exact hSU) (by omega) (by omega) W
  have e1 : (j : Int) + 4 = (j4 : Int) := by omega
  have e2 : IntKind.i64.wrap ((j : Int) + 4) = (j4 : Int) := by rw [e1]; exact IntWalk.i64_in _ (by omega)
  have e3 : IntKind.i64.wrap (j4 : Int) = (j4 : Int) := IntWalk.i64_in _ (by omega)
  have k0 : (0 : Int) ≤ (j : Int) := by omega
  have k1 : (j : Int) ≤ (s.size : Int) := by omega
  have k2 : (j4 : Int) ≤ (s.size : Int) := by omega
  have k3 : (j : Int) ≤ (j4 : Int) := by omega
  obtain ⟨u, hu⟩ : ∃ u, sumR (s.data.toList.take j) = u := ⟨_, rfl⟩
  obtain ⟨SB, hSB⟩ : ∃ S, bs (le4 u) = S := ⟨_, rfl⟩
  have qs := fun W => sumOf_any dPR hu hSB zPR W
  have hcmp := cmp_bytes SU SB ((s.data.toList.drop j).take 4) (le4 u) dSU (by rw [← hSB, bs_data])
  rw [hu, hj4] at hz
  obtain ⟨q, hq⟩ : ∃ q, decide ((s.data.toList.drop j).take 4 = le4 u) = q := ⟨_, rfl⟩
  rw [hq] at hcmp
  obtain ⟨k, hok⟩ : ∃ k, okF 2 ⟨(a : Int), (b : Int), D⟩ = k := ⟨_, rfl⟩
  rw [hok] at qr hz
  have HQ := Lib.hid hq; clear hq
  have HZ0 := Lib.hid hz; clear hz
  have HJ := Lib.hid hj4; clear hj4
  have HL := Lib.hid la; clear la
  clear ha hb lb
  clear hPR hSU dPR dSU zPR hu hSB hok hsl y1 y2 y4 y5 zD hDs hD hcb
  have hcn : (SU.toList != SB.toList) = !q := by rw [← hcmp]; rfl
  cases k with
  | false =>
    have HZ : Hid (z = (zeroF, 0, 11)) := by
      have := HZ0.out
      rw [if_pos (.inl rfl)] at this
      exact this.symm
    clear HZ0 HQ hcmp hcn
    go_enter Try.func29, Try.ntmps29
    go_wp2_with fail
    ((with_reducible refine (ql _).mono ?_); rintro e W1 ⟨rfl, bq⟩)
    have hb1 := bch HB.out bq; clear bq
    go_wp2_with fail
    ((with_reducible refine (qd _).mono ?_); rintro e W2 ⟨rfl, bq⟩)
    have hb2 := bch hb1 bq; clear bq
    clear hb1
    go_wp2_with fail
    ((with_reducible refine (qa _).mono ?_); rintro e W4 ⟨rfl, bq⟩)
    have hb4 := bch hb2 bq; clear bq
    clear hb2
    have hg5 := FrBlk.new W4 ⟨(a : Int), (b : Int), D⟩
    have hb5 := hb4.alloc hb4.size (.cells #[.int .i64 (a : Int), .int .i64 (b : Int), .string D] 23)
    simp only at hg5
    clear hb4
    go_upto_region 10 with fail
    obtain ⟨W5, hW5⟩ : ∃ W, W4.alloc (.cells #[.int .i64 (a : Int), .int .i64 (b : Int), .string D] 23) = W := ⟨_, rfl⟩
    try simp only [hW5]
    rw [hW5] at hg5 hb5
    clear hW5
    obtain ⟨g0, g1, g2⟩ := hg5.cells
    simp only at g0 g1 g2
    have HG5 := Lib.hid hg5; clear hg5
    have HB5 := Lib.hid hb5; clear hb5
    refine wp_region_noPanic ?_
    refine wp_region_held_drew (S := fun W => W.cell? ⟨W4.heap.size, 0, none⟩ = some (.int .i64 (a : Int)) ∧ W.cell? ⟨W4.heap.size, 1, none⟩ = some (.int .i64 (b : Int)) ∧ W.cell? ⟨W4.heap.size, 2, none⟩ = some (.string D) ∧ Below W5.heap.size W5 W) (by kernel_rfl) (⟨g0, g1, g2, (Below.refl _ _).drew⟩) (fun hHeld => ?_)
    refine wpAnyH_take (i := 0) (v := ?_) rfl (by kernel_rfl) (by kernel_rfl) (by kernel_rfl) (fun _ _ _ h => h) (Or.inl ⟨by rfl, ?_⟩) (by assumption) ?_
    rotate_left
    · (intro w hSw; (try dsimp only at hSw); go_simp; (try with_reducible rfl))
    simp only [Act.put, List.getElem_toArray, List.getElem_cons_zero, List.setIfInBounds_toArray, List.set_cons_zero, List.set_cons_succ]
    refine wpAnyH_take (i := 1) (v := ?_) rfl (by kernel_rfl) (by kernel_rfl) (by kernel_rfl) (fun _ _ _ h => h) (Or.inl ⟨by rfl, ?_⟩) (by assumption) ?_
    rotate_left
    · (intro w hSw; (try dsimp only at hSw); go_simp; (try with_reducible rfl))
    simp only [Act.put, List.getElem_toArray, List.getElem_cons_zero, List.getElem_cons_succ, List.setIfInBounds_toArray, List.set_cons_zero, List.set_cons_succ]
    refine wpAnyH_ready (rs := [2]) (by kernel_rfl) (by simp) ?_
    refine AllReadyH.cons rfl (fun K hK => ?_) AllReadyH.nil
    rw [if_pos (by rfl)]
    go_simp
    ((with_reducible refine (qr _).mono ?_); rintro e w' ⟨rfl, bq⟩)
    refine hK.out _ _ (fr_keep hHeld bq) (fun hHeld2 => ?_)
    clear hK K hHeld
    have hHeld := hHeld2; clear hHeld2
    refine wpAnyH_take (i := 3) (v := ?_) rfl (by kernel_rfl) (by kernel_rfl) (by kernel_rfl) (fun _ _ _ h => h) (Or.inl ⟨by rfl, ?_⟩) (by assumption) ?_
    rotate_left
    · (intro w hSw; (try dsimp only at hSw); go_simp; (try with_reducible rfl))
    simp only [Act.put, List.getElem_toArray, List.getElem_cons_zero, List.getElem_cons_succ, List.setIfInBounds_toArray, List.set_cons_zero, List.set_cons_succ]
    refine wpAnyH_take (i := 4) (v := ?_) rfl (by kernel_rfl) (by kernel_rfl) (by kernel_rfl) (fun _ _ _ h => h) (Or.inl ⟨by rfl, ?_⟩) (by assumption) ?_
    rotate_left
    · (intro w hSw; (try dsimp only at hSw); go_simp; (try with_reducible rfl))
    simp only [Act.put, List.getElem_toArray, List.getElem_cons_zero, List.getElem_cons_succ, List.setIfInBounds_toArray, List.set_cons_zero, List.set_cons_succ]
    refine wpAnyH_take (i := 5) (v := undef) rfl (by kernel_rfl) (by kernel_rfl) (by kernel_rfl) (fun _ _ _ h => h) (Or.inr ⟨by rfl, rfl⟩) (by assumption) ?_
    simp only [Act.put, List.getElem_toArray, List.getElem_cons_zero, List.getElem_cons_succ, List.setIfInBounds_toArray, List.set_cons_zero, List.set_cons_succ]
    refine wpAnyH_take (i := 6) (v := undef) rfl (by kernel_rfl) (by kernel_rfl) (by kernel_rfl) (fun _ _ _ h => h) (Or.inr ⟨by rfl, rfl⟩) (by assumption) ?_
    simp only [Act.put, List.getElem_toArray, List.getElem_cons_zero, List.getElem_cons_succ, List.setIfInBounds_toArray, List.set_cons_zero, List.set_cons_succ]
    refine wpAnyH_take (i := 7) (v := undef) rfl (by kernel_rfl) (by kernel_rfl) (by kernel_rfl) (fun _ _ _ h => h) (Or.inr ⟨by rfl, rfl⟩) (by assumption) ?_
    simp only [Act.put, List.getElem_toArray, List.getElem_cons_zero, List.getElem_cons_succ, List.setIfInBounds_toArray, List.set_cons_zero, List.set_cons_succ]
    refine wpAnyH_take (i := 8) (v := undef) rfl (by kernel_rfl) (by kernel_rfl) (by kernel_rfl) (fun _ _ _ h => h) (Or.inr ⟨by rfl, rfl⟩) (by assumption) ?_
    simp only [Act.put, List.getElem_toArray, List.getElem_cons_zero, List.getElem_cons_succ, List.setIfInBounds_toArray, List.set_cons_zero, List.set_cons_succ]
    refine wpAnyH_take (i := 9) (v := undef) rfl (by kernel_rfl) (by kernel_rfl) (by kernel_rfl) (fun _ _ _ h => h) (Or.inr ⟨by rfl, rfl⟩) (by assumption) ?_
    simp only [Act.put, List.getElem_toArray, List.getElem_cons_zero, List.getElem_cons_succ, List.setIfInBounds_toArray, List.set_cons_zero, List.set_cons_succ]
    refine wpAnyH_take (i := 10) (v := undef) rfl (by kernel_rfl) (by kernel_rfl) (by kernel_rfl) (fun _ _ _ h => h) (Or.inr ⟨by rfl, rfl⟩) (by assumption) ?_
    simp only [Act.put, List.getElem_toArray, List.getElem_cons_zero, List.getElem_cons_succ, List.setIfInBounds_toArray, List.set_cons_zero, List.set_cons_succ]
    refine wpAnyH_take (i := 11) (v := undef) rfl (by kernel_rfl) (by kernel_rfl) (by kernel_rfl) (fun _ _ _ h => h) (Or.inr ⟨by rfl, rfl⟩) (by assumption) ?_
    simp only [Act.put, List.getElem_toArray, List.getElem_cons_zero, List.getElem_cons_succ, List.setIfInBounds_toArray, List.set_cons_zero, List.set_cons_succ]
    refine wpAnyH_take (i := 12) (v := undef) rfl (by kernel_rfl) (by kernel_rfl) (by kernel_rfl) (fun _ _ _ h => h) (Or.inr ⟨by rfl, rfl⟩) (by assumption) ?_
    simp only [Act.put, List.getElem_toArray, List.getElem_cons_zero, List.getElem_cons_succ, List.setIfInBounds_toArray, List.set_cons_zero, List.set_cons_succ]
    refine wpAnyH_take (i := 13) (v := undef) rfl (by kernel_rfl) (by kernel_rfl) (by kernel_rfl) (fun _ _ _ h => h) (Or.inr ⟨by rfl, rfl⟩) (by assumption) ?_
    simp only [Act.put, List.getElem_toArray, List.getElem_cons_zero, List.getElem_cons_succ, List.setIfInBounds_toArray, List.set_cons_zero, List.set_cons_succ]
    refine wpAnyH_take (i := 14) (v := undef) rfl (by kernel_rfl) (by kernel_rfl) (by kernel_rfl) (fun _ _ _ h => h) (Or.inr ⟨by rfl, rfl⟩) (by assumption) ?_
    simp only [Act.put, List.getElem_toArray, List.getElem_cons_zero, List.getElem_cons_succ, List.setIfInBounds_toArray, List.set_cons_zero, List.set_cons_succ]
    refine wpAnyH_take (i := 15) (v := ?_) rfl (by kernel_rfl) (by kernel_rfl) (by kernel_rfl) (fun _ _ _ h => h) (Or.inl ⟨by rfl, ?_⟩) (by assumption) ?_
    rotate_left
    · (intro w hSw; (try dsimp only at hSw); go_simp; (try with_reducible rfl))
    simp only [Act.put, List.getElem_toArray, List.getElem_cons_zero, List.getElem_cons_succ, List.setIfInBounds_toArray, List.set_cons_zero, List.set_cons_succ]
    refine wpAnyH_done (by kernel_rfl) ?_ _
    refine NoPanic.normal ?_
    have hbe := bch HB5.out hHeld.2.2.2
    clear hHeld g0 g1 g2
    have hxe := HX.out.below hbe
    obtain ⟨c0, c1, c2⟩ := hxe.cells
    simp only [zeroF] at c0 c1 c2
    have f0 := hxe.frozen 0
    have f1 := hxe.frozen 1
    have f2 := hxe.frozen 2
    have HXE := Lib.hid hxe; clear hxe
    have HBE := Lib.hid hbe; clear hbe
    go_wp2_with fail
    have hfin := HXE.out.put (⟨0, 0, ⟨#[]⟩⟩ : Frm)
    have hbf := (((bch HB0.out HBE.out).setCell (p := ⟨w.heap.size, 0, none⟩) (Nat.le_refl _) (.int .i64 (⟨0, 0, ⟨#[]⟩⟩ : Frm).kind)).setCell (p := ⟨w.heap.size, 1, none⟩) (Nat.le_refl _) (.int .i64 (⟨0, 0, ⟨#[]⟩⟩ : Frm).flags)).setCell (p := ⟨w.heap.size, 2, none⟩) (Nat.le_refl _) (.string (⟨0, 0, ⟨#[]⟩⟩ : Frm).data)
    obtain ⟨d0, d1, d2⟩ := hfin.cells
    simp only at d0 d1 d2 hbf
    refine bodyPost_ret (v := .tuple #[.agg #[.int .i64 0, .int .i64 0, .string ⟨#[]⟩], .int .i64 0, .int .i64 11]) (by simp [results, Try.results29, go_sem, d0, d1, d2]) rfl (OnePost.mk HZ.out hbf)
  | true =>
    cases q with
    | false =>
      have HZ : Hid (z = (zeroF, 0, 11)) := by
        have := HZ0.out
        rw [if_pos (.inr (fun e => of_decide_eq_false HQ.out e.symm))] at this
        exact this.symm
      clear HZ0 HQ
      go_enter Try.func29, Try.ntmps29
      go_wp2_with fail
      ((with_reducible refine (ql _).mono ?_); rintro e W1 ⟨rfl, bq⟩)
      have hb1 := bch HB.out bq; clear bq
      go_wp2_with fail
      ((with_reducible refine (qd _).mono ?_); rintro e W2 ⟨rfl, bq⟩)
      have hb2 := bch hb1 bq; clear bq
      clear hb1
      go_wp2_with fail
      ((with_reducible refine (qa _).mono ?_); rintro e W4 ⟨rfl, bq⟩)
      have hb4 := bch hb2 bq; clear bq
      clear hb2
      have hg5 := FrBlk.new W4 ⟨(a : Int), (b : Int), D⟩
      have hb5 := hb4.alloc hb4.size (.cells #[.int .i64 (a : Int), .int .i64 (b : Int), .string D] 23)
      simp only at hg5
      clear hb4
      go_upto_region 10 with fail
      obtain ⟨W5, hW5⟩ : ∃ W, W4.alloc (.cells #[.int .i64 (a : Int), .int .i64 (b : Int), .string D] 23) = W := ⟨_, rfl⟩
      try simp only [hW5]
      rw [hW5] at hg5 hb5
      clear hW5
      obtain ⟨g0, g1, g2⟩ := hg5.cells
      simp only at g0 g1 g2
      have HG5 := Lib.hid hg5; clear hg5
      have HB5 := Lib.hid hb5; clear hb5
      refine wp_region_noPanic ?_
      refine wp_region_held_drew (S := fun W => W.cell? ⟨W4.heap.size, 0, none⟩ = some (.int .i64 (a : Int)) ∧ W.cell? ⟨W4.heap.size, 1, none⟩ = some (.int .i64 (b : Int)) ∧ W.cell? ⟨W4.heap.size, 2, none⟩ = some (.string D) ∧ Below W5.heap.size W5 W) (by kernel_rfl) (⟨g0, g1, g2, (Below.refl _ _).drew⟩) (fun hHeld => ?_)
      refine wpAnyH_take (i := 0) (v := ?_) rfl (by kernel_rfl) (by kernel_rfl) (by kernel_rfl) (fun _ _ _ h => h) (Or.inl ⟨by rfl, ?_⟩) (by assumption) ?_
      rotate_left
      · (intro w hSw; (try dsimp only at hSw); go_simp; (try with_reducible rfl))
      simp only [Act.put, List.getElem_toArray, List.getElem_cons_zero, List.setIfInBounds_toArray, List.set_cons_zero, List.set_cons_succ]
      refine wpAnyH_take (i := 1) (v := ?_) rfl (by kernel_rfl) (by kernel_rfl) (by kernel_rfl) (fun _ _ _ h => h) (Or.inl ⟨by rfl, ?_⟩) (by assumption) ?_
      rotate_left
      · (intro w hSw; (try dsimp only at hSw); go_simp; (try with_reducible rfl))
      simp only [Act.put, List.getElem_toArray, List.getElem_cons_zero, List.getElem_cons_succ, List.setIfInBounds_toArray, List.set_cons_zero, List.set_cons_succ]
      refine wpAnyH_ready (rs := [2]) (by kernel_rfl) (by simp) ?_
      refine AllReadyH.cons rfl (fun K hK => ?_) AllReadyH.nil
      rw [if_pos (by rfl)]
      go_simp
      ((with_reducible refine (qr _).mono ?_); rintro e w' ⟨rfl, bq⟩)
      refine hK.out _ _ (fr_keep hHeld bq) (fun hHeld2 => ?_)
      clear hK K hHeld
      have hHeld := hHeld2; clear hHeld2
      refine wpAnyH_take (i := 3) (v := ?_) rfl (by kernel_rfl) (by kernel_rfl) (by kernel_rfl) (fun _ _ _ h => h) (Or.inl ⟨by rfl, ?_⟩) (by assumption) ?_
      rotate_left
      · (intro w hSw; (try dsimp only at hSw); go_simp; (try with_reducible rfl))
      simp only [Act.put, List.getElem_toArray, List.getElem_cons_zero, List.getElem_cons_succ, List.setIfInBounds_toArray, List.set_cons_zero, List.set_cons_succ]
      refine wpAnyH_take (i := 4) (v := ?_) rfl (by kernel_rfl) (by kernel_rfl) (by kernel_rfl) (fun _ _ _ h => h) (Or.inl ⟨by rfl, ?_⟩) (by assumption) ?_
      rotate_left
      · (intro w hSw; (try dsimp only at hSw); go_simp; (try with_reducible rfl))
      simp only [Act.put, List.getElem_toArray, List.getElem_cons_zero, List.getElem_cons_succ, List.setIfInBounds_toArray, List.set_cons_zero, List.set_cons_succ]
      refine wpAnyH_take (i := 5) (v := ?_) rfl (by kernel_rfl) (by kernel_rfl) (by kernel_rfl) (fun _ _ _ h => h) (Or.inl ⟨by rfl, ?_⟩) (by assumption) ?_
      rotate_left
      · (intro w hSw; (try dsimp only at hSw); go_simp; (try with_reducible rfl))
      simp only [Act.put, List.getElem_toArray, List.getElem_cons_zero, List.getElem_cons_succ, List.setIfInBounds_toArray, List.set_cons_zero, List.set_cons_succ]
      refine wpAnyH_take (i := 6) (v := ?_) rfl (by kernel_rfl) (by kernel_rfl) (by kernel_rfl) (fun _ _ _ h => h) (Or.inl ⟨by rfl, ?_⟩) (by assumption) ?_
      rotate_left
      · (intro w hSw; (try dsimp only at hSw); go_simp; (try with_reducible rfl))
      simp only [Act.put, List.getElem_toArray, List.getElem_cons_zero, List.getElem_cons_succ, List.setIfInBounds_toArray, List.set_cons_zero, List.set_cons_succ]
      refine wpAnyH_take (i := 7) (v := ?_) rfl (by kernel_rfl) (by kernel_rfl) (by kernel_rfl) (fun _ _ _ h => h) (Or.inl ⟨by rfl, ?_⟩) (by assumption) ?_
      rotate_left
      · (intro w hSw; (try dsimp only at hSw); go_simp; (try with_reducible rfl))
      simp only [Act.put, List.getElem_toArray, List.getElem_cons_zero, List.getElem_cons_succ, List.setIfInBounds_toArray, List.set_cons_zero, List.set_cons_succ]
      refine wpAnyH_take (i := 8) (v := ?_) rfl (by kernel_rfl) (by kernel_rfl) (by kernel_rfl) (fun _ _ _ h => h) (Or.inl ⟨by rfl, ?_⟩) (by assumption) ?_
      rotate_left
      · (intro w hSw; (try dsimp only at hSw); go_simp; (try with_reducible rfl))
      simp only [Act.put, List.getElem_toArray, List.getElem_cons_zero, List.getElem_cons_succ, List.setIfInBounds_toArray, List.set_cons_zero, List.set_cons_succ]
      refine wpAnyH_take (i := 9) (v := ?_) rfl (by kernel_rfl) (by kernel_rfl) (by kernel_rfl) (fun _ _ _ h => h) (Or.inl ⟨by rfl, ?_⟩) (by assumption) ?_
      rotate_left
      · (intro w hSw; (try dsimp only at hSw); go_simp; (try with_reducible rfl))
      simp only [Act.put, List.getElem_toArray, List.getElem_cons_zero, List.getElem_cons_succ, List.setIfInBounds_toArray, List.set_cons_zero, List.set_cons_succ]
      refine wpAnyH_take (i := 10) (v := ?_) rfl (by kernel_rfl) (by kernel_rfl) (by kernel_rfl) (fun _ _ _ h => h) (Or.inl ⟨by rfl, ?_⟩) (by assumption) ?_
      rotate_left
      · (intro w hSw; (try dsimp only at hSw); go_simp; (try with_reducible rfl))
      simp only [Act.put, List.getElem_toArray, List.getElem_cons_zero, List.getElem_cons_succ, List.setIfInBounds_toArray, List.set_cons_zero, List.set_cons_succ]
      refine wpAnyH_take (i := 11) (v := ?_) rfl (by kernel_rfl) (by kernel_rfl) (by kernel_rfl) (fun _ _ _ h => h) (Or.inl ⟨by rfl, ?_⟩) (by assumption) ?_
      rotate_left
      · (intro w hSw; (try dsimp only at hSw); go_simp; (try with_reducible rfl))
      simp only [Act.put, List.getElem_toArray, List.getElem_cons_zero, List.getElem_cons_succ, List.setIfInBounds_toArray, List.set_cons_zero, List.set_cons_succ]
      refine wpAnyH_take (i := 12) (v := ?_) rfl (by kernel_rfl) (by kernel_rfl) (by kernel_rfl) (fun _ _ _ h => h) (Or.inl ⟨by rfl, ?_⟩) (by assumption) ?_
      rotate_left
      · (intro w hSw; (try dsimp only at hSw); go_simp; (try with_reducible rfl))
      simp only [Act.put, List.getElem_toArray, List.getElem_cons_zero, List.getElem_cons_succ, List.setIfInBounds_toArray, List.set_cons_zero, List.set_cons_succ]
      refine wpAnyH_ready (rs := [13]) (by kernel_rfl) (by simp) ?_
      refine AllReadyH.cons rfl (fun K hK => ?_) AllReadyH.nil
      rw [if_pos (by rfl)]
      go_simp
      ((with_reducible refine (qs _).mono ?_); rintro e w' ⟨rfl, bq⟩)
      refine hK.out _ _ (fr_keep hHeld bq) (fun hHeld2 => ?_)
      clear hK K hHeld
      have hHeld := hHeld2; clear hHeld2
      refine wpAnyH_take (i := 14) (v := ?_) rfl (by kernel_rfl) (by kernel_rfl) (by kernel_rfl) (fun _ _ _ h => h) (Or.inl ⟨by rfl, ?_⟩) (by assumption) ?_
      rotate_left
      · (intro w hSw; (try dsimp only at hSw); go_simp; (try with_reducible rfl))
      simp only [Act.put, List.getElem_toArray, List.getElem_cons_zero, List.getElem_cons_succ, List.setIfInBounds_toArray, List.set_cons_zero, List.set_cons_succ]
      refine wpAnyH_take (i := 15) (v := ?_) rfl (by kernel_rfl) (by kernel_rfl) (by kernel_rfl) (fun _ _ _ h => h) (Or.inl ⟨by rfl, ?_⟩) (by assumption) ?_
      rotate_left
      · (intro w hSw; (try dsimp only at hSw); go_simp; (try with_reducible rfl))
      simp only [Act.put, List.getElem_toArray, List.getElem_cons_zero, List.getElem_cons_succ, List.setIfInBounds_toArray, List.set_cons_zero, List.set_cons_succ]
      refine wpAnyH_done (by kernel_rfl) ?_ _
      refine NoPanic.normal ?_
      have hbe := bch HB5.out hHeld.2.2.2
      clear hHeld g0 g1 g2
      have hxe := HX.out.below hbe
      obtain ⟨c0, c1, c2⟩ := hxe.cells
      simp only [zeroF] at c0 c1 c2
      have f0 := hxe.frozen 0
      have f1 := hxe.frozen 1
      have f2 := hxe.frozen 2
      have HXE := Lib.hid hxe; clear hxe
      have HBE := Lib.hid hbe; clear hbe
      go_wp2_with fail
      have hfin := HXE.out.put (⟨0, 0, ⟨#[]⟩⟩ : Frm)
      have hbf := (((bch HB0.out HBE.out).setCell (p := ⟨w.heap.size, 0, none⟩) (Nat.le_refl _) (.int .i64 (⟨0, 0, ⟨#[]⟩⟩ : Frm).kind)).setCell (p := ⟨w.heap.size, 1, none⟩) (Nat.le_refl _) (.int .i64 (⟨0, 0, ⟨#[]⟩⟩ : Frm).flags)).setCell (p := ⟨w.heap.size, 2, none⟩) (Nat.le_refl _) (.string (⟨0, 0, ⟨#[]⟩⟩ : Frm).data)
      obtain ⟨d0, d1, d2⟩ := hfin.cells
      simp only at d0 d1 d2 hbf
      refine bodyPost_ret (v := .tuple #[.agg #[.int .i64 0, .int .i64 0, .string ⟨#[]⟩], .int .i64 0, .int .i64 11]) (by simp [results, Try.results29, go_sem, d0, d1, d2]) rfl (OnePost.mk HZ.out hbf)
    | true =>
      have HZ : Hid (z = (⟨(a : Int), (b : Int), D⟩, j4, 0)) := by
        have := HZ0.out
        rw [if_neg (by rintro (h | h); cases h; exact h (of_decide_eq_true HQ.out).symm)] at this
        exact this.symm
      clear HZ0 HQ
      go_enter Try.func29, Try.ntmps29
      go_wp2_with fail
      ((with_reducible refine (ql _).mono ?_); rintro e W1 ⟨rfl, bq⟩)
      have hb1 := bch HB.out bq; clear bq
      go_wp2_with fail
      ((with_reducible refine (qd _).mono ?_); rintro e W2 ⟨rfl, bq⟩)
      have hb2 := bch hb1 bq; clear bq
      clear hb1
      go_wp2_with fail
      ((with_reducible refine (qa _).mono ?_); rintro e W4 ⟨rfl, bq⟩)
      have hb4 := bch hb2 bq; clear bq
      clear hb2
      have hg5 := FrBlk.new W4 ⟨(a : Int), (b : Int), D⟩
      have hb5 := hb4.alloc hb4.size (.cells #[.int .i64 (a : Int), .int .i64 (b : Int), .string D] 23)
      simp only at hg5
      clear hb4
      go_upto_region 10 with fail
      obtain ⟨W5, hW5⟩ : ∃ W, W4.alloc (.cells #[.int .i64 (a : Int), .int .i64 (b : Int), .string D] 23) = W := ⟨_, rfl⟩
      try simp only [hW5]
      rw [hW5] at hg5 hb5
      clear hW5
      obtain ⟨g0, g1, g2⟩ := hg5.cells
      simp only at g0 g1 g2
      have HG5 := Lib.hid hg5; clear hg5
      have HB5 := Lib.hid hb5; clear hb5
      refine wp_region_noPanic ?_
      refine wp_region_held_drew (S := fun W => W.cell? ⟨W4.heap.size, 0, none⟩ = some (.int .i64 (a : Int)) ∧ W.cell? ⟨W4.heap.size, 1, none⟩ = some (.int .i64 (b : Int)) ∧ W.cell? ⟨W4.heap.size, 2, none⟩ = some (.string D) ∧ Below W5.heap.size W5 W) (by kernel_rfl) (⟨g0, g1, g2, (Below.refl _ _).drew⟩) (fun hHeld => ?_)
      refine wpAnyH_take (i := 0) (v := ?_) rfl (by kernel_rfl) (by kernel_rfl) (by kernel_rfl) (fun _ _ _ h => h) (Or.inl ⟨by rfl, ?_⟩) (by assumption) ?_
      rotate_left
      · (intro w hSw; (try dsimp only at hSw); go_simp; (try with_reducible rfl))
      simp only [Act.put, List.getElem_toArray, List.getElem_cons_zero, List.setIfInBounds_toArray, List.set_cons_zero, List.set_cons_succ]
      refine wpAnyH_take (i := 1) (v := ?_) rfl (by kernel_rfl) (by kernel_rfl) (by kernel_rfl) (fun _ _ _ h => h) (Or.inl ⟨by rfl, ?_⟩) (by assumption) ?_
      rotate_left
      · (intro w hSw; (try dsimp only at hSw); go_simp; (try with_reducible rfl))
      simp only [Act.put, List.getElem_toArray, List.getElem_cons_zero, List.getElem_cons_succ, List.setIfInBounds_toArray, List.set_cons_zero, List.set_cons_succ]
      refine wpAnyH_ready (rs := [2]) (by kernel_rfl) (by simp) ?_
      refine AllReadyH.cons rfl (fun K hK => ?_) AllReadyH.nil
      rw [if_pos (by rfl)]
      go_simp
      ((with_reducible refine (qr _).mono ?_); rintro e w' ⟨rfl, bq⟩)
      refine hK.out _ _ (fr_keep hHeld bq) (fun hHeld2 => ?_)
      clear hK K hHeld
      have hHeld := hHeld2; clear hHeld2
      refine wpAnyH_take (i := 3) (v := ?_) rfl (by kernel_rfl) (by kernel_rfl) (by kernel_rfl) (fun _ _ _ h => h) (Or.inl ⟨by rfl, ?_⟩) (by assumption) ?_
      rotate_left
      · (intro w hSw; (try dsimp only at hSw); go_simp; (try with_reducible rfl))
      simp only [Act.put, List.getElem_toArray, List.getElem_cons_zero, List.getElem_cons_succ, List.setIfInBounds_toArray, List.set_cons_zero, List.set_cons_succ]
      refine wpAnyH_take (i := 4) (v := ?_) rfl (by kernel_rfl) (by kernel_rfl) (by kernel_rfl) (fun _ _ _ h => h) (Or.inl ⟨by rfl, ?_⟩) (by assumption) ?_
      rotate_left
      · (intro w hSw; (try dsimp only at hSw); go_simp; (try with_reducible rfl))
      simp only [Act.put, List.getElem_toArray, List.getElem_cons_zero, List.getElem_cons_succ, List.setIfInBounds_toArray, List.set_cons_zero, List.set_cons_succ]
      refine wpAnyH_take (i := 5) (v := ?_) rfl (by kernel_rfl) (by kernel_rfl) (by kernel_rfl) (fun _ _ _ h => h) (Or.inl ⟨by rfl, ?_⟩) (by assumption) ?_
      rotate_left
      · (intro w hSw; (try dsimp only at hSw); go_simp; (try with_reducible rfl))
      simp only [Act.put, List.getElem_toArray, List.getElem_cons_zero, List.getElem_cons_succ, List.setIfInBounds_toArray, List.set_cons_zero, List.set_cons_succ]
      refine wpAnyH_take (i := 6) (v := ?_) rfl (by kernel_rfl) (by kernel_rfl) (by kernel_rfl) (fun _ _ _ h => h) (Or.inl ⟨by rfl, ?_⟩) (by assumption) ?_
      rotate_left
      · (intro w hSw; (try dsimp only at hSw); go_simp; (try with_reducible rfl))
      simp only [Act.put, List.getElem_toArray, List.getElem_cons_zero, List.getElem_cons_succ, List.setIfInBounds_toArray, List.set_cons_zero, List.set_cons_succ]
      refine wpAnyH_take (i := 7) (v := ?_) rfl (by kernel_rfl) (by kernel_rfl) (by kernel_rfl) (fun _ _ _ h => h) (Or.inl ⟨by rfl, ?_⟩) (by assumption) ?_
      rotate_left
      · (intro w hSw; (try dsimp only at hSw); go_simp; (try with_reducible rfl))
      simp only [Act.put, List.getElem_toArray, List.getElem_cons_zero, List.getElem_cons_succ, List.setIfInBounds_toArray, List.set_cons_zero, List.set_cons_succ]
      refine wpAnyH_take (i := 8) (v := ?_) rfl (by kernel_rfl) (by kernel_rfl) (by kernel_rfl) (fun _ _ _ h => h) (Or.inl ⟨by rfl, ?_⟩) (by assumption) ?_
      rotate_left
      · (intro w hSw; (try dsimp only at hSw); go_simp; (try with_reducible rfl))
      simp only [Act.put, List.getElem_toArray, List.getElem_cons_zero, List.getElem_cons_succ, List.setIfInBounds_toArray, List.set_cons_zero, List.set_cons_succ]
      refine wpAnyH_take (i := 9) (v := ?_) rfl (by kernel_rfl) (by kernel_rfl) (by kernel_rfl) (fun _ _ _ h => h) (Or.inl ⟨by rfl, ?_⟩) (by assumption) ?_
      rotate_left
      · (intro w hSw; (try dsimp only at hSw); go_simp; (try with_reducible rfl))
      simp only [Act.put, List.getElem_toArray, List.getElem_cons_zero, List.getElem_cons_succ, List.setIfInBounds_toArray, List.set_cons_zero, List.set_cons_succ]
      refine wpAnyH_take (i := 10) (v := ?_) rfl (by kernel_rfl) (by kernel_rfl) (by kernel_rfl) (fun _ _ _ h => h) (Or.inl ⟨by rfl, ?_⟩) (by assumption) ?_
      rotate_left
      · (intro w hSw; (try dsimp only at hSw); go_simp; (try with_reducible rfl))
      simp only [Act.put, List.getElem_toArray, List.getElem_cons_zero, List.getElem_cons_succ, List.setIfInBounds_toArray, List.set_cons_zero, List.set_cons_succ]
      refine wpAnyH_take (i := 11) (v := ?_) rfl (by kernel_rfl) (by kernel_rfl) (by kernel_rfl) (fun _ _ _ h => h) (Or.inl ⟨by rfl, ?_⟩) (by assumption) ?_
      rotate_left
      · (intro w hSw; (try dsimp only at hSw); go_simp; (try with_reducible rfl))
      simp only [Act.put, List.getElem_toArray, List.getElem_cons_zero, List.getElem_cons_succ, List.setIfInBounds_toArray, List.set_cons_zero, List.set_cons_succ]
      refine wpAnyH_take (i := 12) (v := ?_) rfl (by kernel_rfl) (by kernel_rfl) (by kernel_rfl) (fun _ _ _ h => h) (Or.inl ⟨by rfl, ?_⟩) (by assumption) ?_
      rotate_left
      · (intro w hSw; (try dsimp only at hSw); go_simp; (try with_reducible rfl))
      simp only [Act.put, List.getElem_toArray, List.getElem_cons_zero, List.getElem_cons_succ, List.setIfInBounds_toArray, List.set_cons_zero, List.set_cons_succ]
      refine wpAnyH_ready (rs := [13]) (by kernel_rfl) (by simp) ?_
      refine AllReadyH.cons rfl (fun K hK => ?_) AllReadyH.nil
      rw [if_pos (by rfl)]
      go_simp
      ((with_reducible refine (qs _).mono ?_); rintro e w' ⟨rfl, bq⟩)
      refine hK.out _ _ (fr_keep hHeld bq) (fun hHeld2 => ?_)
      clear hK K hHeld
      have hHeld := hHeld2; clear hHeld2
      refine wpAnyH_take (i := 14) (v := ?_) rfl (by kernel_rfl) (by kernel_rfl) (by kernel_rfl) (fun _ _ _ h => h) (Or.inl ⟨by rfl, ?_⟩) (by assumption) ?_
      rotate_left
      · (intro w hSw; (try dsimp only at hSw); go_simp; (try with_reducible rfl))
      simp only [Act.put, List.getElem_toArray, List.getElem_cons_zero, List.getElem_cons_succ, List.setIfInBounds_toArray, List.set_cons_zero, List.set_cons_succ]
      refine wpAnyH_take (i := 15) (v := ?_) rfl (by kernel_rfl) (by kernel_rfl) (by kernel_rfl) (fun _ _ _ h => h) (Or.inl ⟨by rfl, ?_⟩) (by assumption) ?_
      rotate_left
      · (intro w hSw; (try dsimp only at hSw); go_simp; (try with_reducible rfl))
      simp only [Act.put, List.getElem_toArray, List.getElem_cons_zero, List.getElem_cons_succ, List.setIfInBounds_toArray, List.set_cons_zero, List.set_cons_succ]
      refine wpAnyH_done (by kernel_rfl) ?_ _
      refine NoPanic.normal ?_
      have hbe := bch HB5.out hHeld.2.2.2
      have HGE := Lib.hid (HG5.out.below hHeld.2.2.2)
      clear hHeld g0 g1 g2
      obtain ⟨g0, g1, g2⟩ := HGE.out.cells
      simp only at g0 g1 g2
      have hxe := HX.out.below hbe
      obtain ⟨c0, c1, c2⟩ := hxe.cells
      simp only [zeroF] at c0 c1 c2
      have f0 := hxe.frozen 0
      have f1 := hxe.frozen 1
      have f2 := hxe.frozen 2
      have HXE := Lib.hid hxe; clear hxe
      have HBE := Lib.hid hbe; clear hbe
      go_wp2_with fail
      have hfin := HXE.out.put (⟨(a : Int), (b : Int), D⟩ : Frm)
      have hbf := (((bch HB0.out HBE.out).setCell (p := ⟨w.heap.size, 0, none⟩) (Nat.le_refl _) (.int .i64 (⟨(a : Int), (b : Int), D⟩ : Frm).kind)).setCell (p := ⟨w.heap.size, 1, none⟩) (Nat.le_refl _) (.int .i64 (⟨(a : Int), (b : Int), D⟩ : Frm).flags)).setCell (p := ⟨w.heap.size, 2, none⟩) (Nat.le_refl _) (.string (⟨(a : Int), (b : Int), D⟩ : Frm).data)
      obtain ⟨d0, d1, d2⟩ := hfin.cells
      simp only at d0 d1 d2 hbf
      refine bodyPost_ret (v := .tuple #[.agg #[.int .i64 (a : Int), .int .i64 (b : Int), .string D], .int .i64 j4, .int .i64 0]) (by simp [results, Try.results29, go_sem, d0, d1, d2]) rfl (OnePost.mk HZ.out hbf)
end Go.Proofs.Ytjciojgldibfmaa
