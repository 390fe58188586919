import Derived.Test.YtjciojgldibfmaaFrSize
import Derived.Deep.DeepCutAuto
/-
  The contract of the document's own 'one' (stage 6): the frame that a text begins with.
-/
namespace Go.Proofs.Ytjciojgldibfmaa
open Go.RowKit
set_option linter.unusedVariables false

/-- What one leaves. -/
def OnePost (w : World) (r : Frm × Nat × Nat) (e : Ending) (w' : World) : Prop :=
  e = .returned (.tuple #[.agg #[.int .i64 r.1.kind, .int .i64 r.1.flags, .string r.1.data], .int .i64 r.2.1, .int .i64 r.2.2]) ∧ Below w.heap.size w w'
/-- A frame's block. -/
def FrBlk (W : World) (b : Nat) (f : Frm) : Prop := W.heap[b]? = some (.cells #[.int .i64 f.kind, .int .i64 f.flags, .string f.data] 23 (0, 0))
theorem FrBlk.below {w w' : World} {b : Nat} {f : Frm} (h : FrBlk w b f) (hb : Below w.heap.size w w') : FrBlk w' b f := Eq.trans (hb.block b (lt_of_blk h)) h
theorem FrBlk.cells {W : World} {b : Nat} {f : Frm} (h : FrBlk W b f) : W.cell? ⟨b, 0, none⟩ = some (.int .i64 f.kind) ∧ W.cell? ⟨b, 1, none⟩ = some (.int .i64 f.flags) ∧ W.cell? ⟨b, 2, none⟩ = some (.string f.data) := ⟨cell_blk h 0, cell_blk h 1, cell_blk h 2⟩
theorem FrBlk.frozen {W : World} {b : Nat} {f : Frm} (h : FrBlk W b f) (j : Nat) : W.frozen? ⟨b, j, none⟩ = false := frozen_blk h j
theorem FrBlk.new (W : World) (f : Frm) : FrBlk (W.alloc (.cells #[.int .i64 f.kind, .int .i64 f.flags, .string f.data] 23)) W.heap.size f := World.alloc_heap_new W _
theorem FrBlk.put {W : World} {b : Nat} {f : Frm} (h : FrBlk W b f) (g : Frm) : FrBlk (((W.setCell ⟨b, 0, none⟩ (.int .i64 g.kind)).setCell ⟨b, 1, none⟩ (.int .i64 g.flags)).setCell ⟨b, 2, none⟩ (.string g.data)) b g :=
  heap_setCell_same _ b 2 _ _ _ (heap_setCell_same _ b 1 _ _ _ (heap_setCell_same _ b 0 _ _ _ h))
theorem fr2_keep {b g : Nat} {f f2 : Frm} {w0 W W' : World} (h : FrBlk W b f ∧ FrBlk W g f2 ∧ Below w0.heap.size w0 W) (k : Below W.heap.size W W') : FrBlk W' b f ∧ FrBlk W' g f2 ∧ Below w0.heap.size w0 W' := ⟨h.1.below k, h.2.1.below k, bch h.2.2 k⟩
theorem ext_list (s : ByteArray) (i j : Nat) : (s.extract i j).data.toList = (s.data.toList.drop i).take (j - i) := by
  simp [ByteArray.data_extract, Array.toList_extract, List.extract_eq_take_drop]
theorem ext_bytes (s : ByteArray) (k n : Nat) : s.extract k (k + n) = ⟨((s.data.toList.drop k).take n).toArray⟩ := by
  have h := ext_list s k (k + n)
  rw [Nat.add_sub_cancel_left] at h
  rw [← h]
theorem ext_bytes0 (s : ByteArray) (k : Nat) : (s.extract 0 k).data.toList = s.data.toList.take k := by rw [ext_list]; rfl
theorem ext_bytes4 (s : ByteArray) (k : Nat) : (s.extract k (k + 4)).data.toList = (s.data.toList.drop k).take 4 := by rw [ext_list, Nat.add_sub_cancel_left]
theorem slice_mid2 {T S : ByteArray} {j k : Nat} (h : T.extract j k = S) (h1 : j ≤ k) (h2 : k ≤ T.size) (W : World) :
    (Instr.slice 9 (.string T) (some (.int .i64 j)) (some (.int .i64 k)) none).run Try.prog W = .ok (.string S) W := by
  rw [run_slice_string W _ T _ _ (j : Int) (k : Int) Try.underlying9 (by omega) (by omega) (by omega), ← h]; rfl
theorem size_bound (v : Int) (l : List UInt8) : (sizeR v l).1 ≤ 11 ∧ (sizeR v l).2.1 ≤ 9007199254740992 ∧ ((sizeR v l).2.2.2 = false → (sizeR v l).2.1 ≤ 4000) := by
  unfold sizeR
  have h1 := takeR_fst_le (l.drop 3)
  have h2 := takeR_snd_le (l.drop 3)
  have h3 : at_ l 2 < 256 := byte_lt _
  have h4 : at_ l 3 < 256 := byte_lt _
  split
  · split
    · simp
    · simp; omega
  · split
    · simp
    · split
      · simp
      · simp; omega

set_option maxRecDepth 100000 in
set_option maxHeartbeats 4000000 in
theorem refone_any (v : Int) (hv : v = 1 ∨ v = 2) (s : ByteArray) (hs : s.size ≤ 140737488355328) (h0 : 0 < s.size) (w : World) :
    Calls Try.prog 30 #[.int .i64 v, .string s] w (OnePost w (oneR v s.data.toList)) := by
  have hsl : s.data.toList.length = s.size := by simp
  have hat0 := at_byte s 0 h0
  obtain ⟨z, hz⟩ : ∃ z, oneR v s.data.toList = z := ⟨_, rfl⟩
  rw [hz]
  obtain ⟨c, hc⟩ : ∃ c, s[0].toNat = c := ⟨_, rfl⟩
  have hcb : c < 256 := by rw [← hc]; exact s[0].toNat_lt
  have j0 : (0 : Int) < (s.size : Int) := by omega
  have hb0 : Below w.heap.size w (w.alloc (.cells #[.int .i64 0, .int .i64 0, .string ⟨#[]⟩] 23)) := (Below.refl _ _).alloc (Nat.le_refl _) _
  have hbx := frBlk w zeroF
  have hz1 := hz
  unfold oneR at hz1
  rw [hat0, hc] at hz1
  by_cases hA : c ≠ 97 ∧ c ≠ 98
  · rw [if_pos hA] at hz1
    have n1 : ((c : Int) != 97) = true := by have := hA.1; simp; omega
    have n2 : ((c : Int) != 98) = true := by have := hA.2; simp; omega
    have HZ := Lib.hid hz1
    clear hz hz1 hA hsl hat0
    obtain ⟨c0, c1, c2⟩ := hbx
    simp only [zeroF] at c0 c1 c2
    go_enter Try.func30, Try.ntmps30
    go_wp2_with fail
    refine bodyPost_ret (v := .tuple #[.agg #[.int .i64 0, .int .i64 0, .string ⟨#[]⟩], .int .i64 0, .int .i64 11]) (by simp [results, Try.results30, go_sem, c0, c1, c2]) rfl ⟨by rw [← HZ.out]; rfl, hb0⟩
  · rw [if_neg hA] at hz1
    have hc2 : c = 97 ∨ c = 98 := by omega
    by_cases hB : ¬ (c = 97 ↔ v = 1)
    · rw [if_pos hB] at hz1
      have HZ := Lib.hid hz1
      have hlit : c = 97 ∧ v = 2 ∨ c = 98 ∧ v = 1 := by omega
      clear hz hz1 hA hB hsl hat0 hv hc2
      obtain ⟨c0, c1, c2⟩ := hbx
      simp only [zeroF] at c0 c1 c2
      rcases hlit with ⟨rfl, rfl⟩ | ⟨rfl, rfl⟩
      · go_enter Try.func30, Try.ntmps30
        go_wp2_with fail
        refine bodyPost_ret (v := .tuple #[.agg #[.int .i64 0, .int .i64 0, .string ⟨#[]⟩], .int .i64 0, .int .i64 22]) (by simp [results, Try.results30, go_sem, c0, c1, c2]) rfl ⟨by rw [← HZ.out]; rfl, hb0⟩
      · go_enter Try.func30, Try.ntmps30
        go_wp2_with fail
        refine bodyPost_ret (v := .tuple #[.agg #[.int .i64 0, .int .i64 0, .string ⟨#[]⟩], .int .i64 0, .int .i64 22]) (by simp [results, Try.results30, go_sem, c0, c1, c2]) rfl ⟨by rw [← HZ.out]; rfl, hb0⟩
    · rw [if_neg hB] at hz1
      have hlit : c = 97 ∧ v = 1 ∨ c = 98 ∧ v = 2 := by omega
      have p := fun W => refsize_any v s hs W
      obtain ⟨q1, q2, q3⟩ := size_bound v s.data.toList
      generalize hzz : sizeR v s.data.toList = zz at *
      obtain ⟨k, n, cut, wr⟩ := zz
      simp only at hz1 p q1 q2 q3
      have hkl : (k : Int) ≤ 11 := by omega
      have hnl : (n : Int) ≤ 9007199254740992 := by omega
      cases wr with
      | true =>
        rw [if_pos rfl] at hz1
        have HZ := Lib.hid hz1
        clear hz hz1 hA hB hsl hat0 hv hc2 q1 q2 q3 hzz hbx
        rcases hlit with ⟨rfl, rfl⟩ | ⟨rfl, rfl⟩
        · skip
          go_enter Try.func30, Try.ntmps30
          go_wp2_with fail
          ((with_reducible refine (p _).mono ?_); rintro e W1 ⟨rfl, b1⟩)
          have hk1 := (FrBlk.new w zeroF).below b1
          have hb1 := bch hb0 b1
          clear b1
          obtain ⟨c0, c1, c2⟩ := hk1.cells
          simp only [zeroF] at c0 c1 c2
          have f0 := hk1.frozen 0
          have f1 := hk1.frozen 1
          have f2 := hk1.frozen 2
          have HK1 := Lib.hid hk1; clear hk1
          go_wp2_with fail
          have hfin := (HK1.out).put zeroF
          have hbf := ((hb1.setCell (p := ⟨w.heap.size, 0, none⟩) (Nat.le_refl _) (.int .i64 (zeroF : Frm).kind)).setCell (p := ⟨w.heap.size, 1, none⟩) (Nat.le_refl _) (.int .i64 (zeroF : Frm).flags)).setCell (p := ⟨w.heap.size, 2, none⟩) (Nat.le_refl _) (.string (zeroF : Frm).data)
          obtain ⟨d0, d1, d2⟩ := hfin.cells
          simp only [zeroF] at d0 d1 d2 hbf
          refine bodyPost_ret (v := .tuple #[.agg #[.int .i64 0, .int .i64 0, .string ⟨#[]⟩], .int .i64 0, .int .i64 11]) (by simp [results, Try.results30, go_sem, d0, d1, d2]) rfl ⟨by rw [← HZ.out]; rfl, hbf⟩
        · skip
          go_enter Try.func30, Try.ntmps30
          go_wp2_with fail
          ((with_reducible refine (p _).mono ?_); rintro e W1 ⟨rfl, b1⟩)
          have hk1 := (FrBlk.new w zeroF).below b1
          have hb1 := bch hb0 b1
          clear b1
          obtain ⟨c0, c1, c2⟩ := hk1.cells
          simp only [zeroF] at c0 c1 c2
          have f0 := hk1.frozen 0
          have f1 := hk1.frozen 1
          have f2 := hk1.frozen 2
          have HK1 := Lib.hid hk1; clear hk1
          go_wp2_with fail
          have hfin := (HK1.out).put zeroF
          have hbf := ((hb1.setCell (p := ⟨w.heap.size, 0, none⟩) (Nat.le_refl _) (.int .i64 (zeroF : Frm).kind)).setCell (p := ⟨w.heap.size, 1, none⟩) (Nat.le_refl _) (.int .i64 (zeroF : Frm).flags)).setCell (p := ⟨w.heap.size, 2, none⟩) (Nat.le_refl _) (.string (zeroF : Frm).data)
          obtain ⟨d0, d1, d2⟩ := hfin.cells
          simp only [zeroF] at d0 d1 d2 hbf
          refine bodyPost_ret (v := .tuple #[.agg #[.int .i64 0, .int .i64 0, .string ⟨#[]⟩], .int .i64 0, .int .i64 11]) (by simp [results, Try.results30, go_sem, d0, d1, d2]) rfl ⟨by rw [← HZ.out]; rfl, hbf⟩
      | false =>
        rw [if_neg (by simp)] at hz1
        have hn4 := q3 rfl
        have hn4' : (n : Int) ≤ 4000 := by omega
        by_cases hcut : cut = true ∨ s.size < k + n + 4
        · rw [if_pos (by rw [hsl]; exact hcut)] at hz1
          have HZ := Lib.hid hz1
          clear hz hz1 hA hB hsl hat0 hv hc2 q1 q2 q3 hzz hbx hn4
          cases cut with
          | true =>
            clear hcut
            rcases hlit with ⟨rfl, rfl⟩ | ⟨rfl, rfl⟩
            · skip
              go_enter Try.func30, Try.ntmps30
              go_wp2_with fail
              ((with_reducible refine (p _).mono ?_); rintro e W1 ⟨rfl, b1⟩)
              have hk1 := (FrBlk.new w zeroF).below b1
              have hb1 := bch hb0 b1
              clear b1
              obtain ⟨c0, c1, c2⟩ := hk1.cells
              simp only [zeroF] at c0 c1 c2
              have f0 := hk1.frozen 0
              have f1 := hk1.frozen 1
              have f2 := hk1.frozen 2
              have HK1 := Lib.hid hk1; clear hk1
              go_wp2_with fail
              have hfin := (HK1.out).put zeroF
              have hbf := ((hb1.setCell (p := ⟨w.heap.size, 0, none⟩) (Nat.le_refl _) (.int .i64 (zeroF : Frm).kind)).setCell (p := ⟨w.heap.size, 1, none⟩) (Nat.le_refl _) (.int .i64 (zeroF : Frm).flags)).setCell (p := ⟨w.heap.size, 2, none⟩) (Nat.le_refl _) (.string (zeroF : Frm).data)
              obtain ⟨d0, d1, d2⟩ := hfin.cells
              simp only [zeroF] at d0 d1 d2 hbf
              refine bodyPost_ret (v := .tuple #[.agg #[.int .i64 0, .int .i64 0, .string ⟨#[]⟩], .int .i64 0, .int .i64 0]) (by simp [results, Try.results30, go_sem, d0, d1, d2]) rfl ⟨by rw [← HZ.out]; rfl, hbf⟩
            · skip
              go_enter Try.func30, Try.ntmps30
              go_wp2_with fail
              ((with_reducible refine (p _).mono ?_); rintro e W1 ⟨rfl, b1⟩)
              have hk1 := (FrBlk.new w zeroF).below b1
              have hb1 := bch hb0 b1
              clear b1
              obtain ⟨c0, c1, c2⟩ := hk1.cells
              simp only [zeroF] at c0 c1 c2
              have f0 := hk1.frozen 0
              have f1 := hk1.frozen 1
              have f2 := hk1.frozen 2
              have HK1 := Lib.hid hk1; clear hk1
              go_wp2_with fail
              have hfin := (HK1.out).put zeroF
              have hbf := ((hb1.setCell (p := ⟨w.heap.size, 0, none⟩) (Nat.le_refl _) (.int .i64 (zeroF : Frm).kind)).setCell (p := ⟨w.heap.size, 1, none⟩) (Nat.le_refl _) (.int .i64 (zeroF : Frm).flags)).setCell (p := ⟨w.heap.size, 2, none⟩) (Nat.le_refl _) (.string (zeroF : Frm).data)
              obtain ⟨d0, d1, d2⟩ := hfin.cells
              simp only [zeroF] at d0 d1 d2 hbf
              refine bodyPost_ret (v := .tuple #[.agg #[.int .i64 0, .int .i64 0, .string ⟨#[]⟩], .int .i64 0, .int .i64 0]) (by simp [results, Try.results30, go_sem, d0, d1, d2]) rfl ⟨by rw [← HZ.out]; rfl, hbf⟩
          | false =>
            have hlt : (s.size : Int) < (k : Int) + (n : Int) + 4 := by
              rcases hcut with h | h
              · cases h
              · omega
            clear hcut
            rcases hlit with ⟨rfl, rfl⟩ | ⟨rfl, rfl⟩
            · skip
              go_enter Try.func30, Try.ntmps30
              go_wp2_with fail
              ((with_reducible refine (p _).mono ?_); rintro e W1 ⟨rfl, b1⟩)
              have hk1 := (FrBlk.new w zeroF).below b1
              have hb1 := bch hb0 b1
              clear b1
              obtain ⟨c0, c1, c2⟩ := hk1.cells
              simp only [zeroF] at c0 c1 c2
              have f0 := hk1.frozen 0
              have f1 := hk1.frozen 1
              have f2 := hk1.frozen 2
              have HK1 := Lib.hid hk1; clear hk1
              go_wp2_with fail
              have hfin := (HK1.out).put zeroF
              have hbf := ((hb1.setCell (p := ⟨w.heap.size, 0, none⟩) (Nat.le_refl _) (.int .i64 (zeroF : Frm).kind)).setCell (p := ⟨w.heap.size, 1, none⟩) (Nat.le_refl _) (.int .i64 (zeroF : Frm).flags)).setCell (p := ⟨w.heap.size, 2, none⟩) (Nat.le_refl _) (.string (zeroF : Frm).data)
              obtain ⟨d0, d1, d2⟩ := hfin.cells
              simp only [zeroF] at d0 d1 d2 hbf
              refine bodyPost_ret (v := .tuple #[.agg #[.int .i64 0, .int .i64 0, .string ⟨#[]⟩], .int .i64 0, .int .i64 0]) (by simp [results, Try.results30, go_sem, d0, d1, d2]) rfl ⟨by rw [← HZ.out]; rfl, hbf⟩
            · skip
              go_enter Try.func30, Try.ntmps30
              go_wp2_with fail
              ((with_reducible refine (p _).mono ?_); rintro e W1 ⟨rfl, b1⟩)
              have hk1 := (FrBlk.new w zeroF).below b1
              have hb1 := bch hb0 b1
              clear b1
              obtain ⟨c0, c1, c2⟩ := hk1.cells
              simp only [zeroF] at c0 c1 c2
              have f0 := hk1.frozen 0
              have f1 := hk1.frozen 1
              have f2 := hk1.frozen 2
              have HK1 := Lib.hid hk1; clear hk1
              go_wp2_with fail
              have hfin := (HK1.out).put zeroF
              have hbf := ((hb1.setCell (p := ⟨w.heap.size, 0, none⟩) (Nat.le_refl _) (.int .i64 (zeroF : Frm).kind)).setCell (p := ⟨w.heap.size, 1, none⟩) (Nat.le_refl _) (.int .i64 (zeroF : Frm).flags)).setCell (p := ⟨w.heap.size, 2, none⟩) (Nat.le_refl _) (.string (zeroF : Frm).data)
              obtain ⟨d0, d1, d2⟩ := hfin.cells
              simp only [zeroF] at d0 d1 d2 hbf
              refine bodyPost_ret (v := .tuple #[.agg #[.int .i64 0, .int .i64 0, .string ⟨#[]⟩], .int .i64 0, .int .i64 0]) (by simp [results, Try.results30, go_sem, d0, d1, d2]) rfl ⟨by rw [← HZ.out]; rfl, hbf⟩
        · rw [if_neg (by rw [hsl]; exact hcut)] at hz1
          have hcf : cut = false := by
            cases cut with
            | true => exact absurd (.inl rfl) hcut
            | false => rfl
          subst hcf
          have hsz : k + n + 4 ≤ s.size := by
            rcases Nat.lt_or_ge s.size (k + n + 4) with h | h
            · exact absurd (.inr h) hcut
            · exact h
          obtain ⟨M, hM⟩ : ∃ M, madeF v s.data.toList k n = M := ⟨_, rfl⟩
          rw [hM] at hz1
          obtain ⟨D, hD⟩ : ∃ D, s.extract k (k + n) = D := ⟨_, rfl⟩
          have hMD : M.data = D := by
            rw [← hM, ← hD]
            show (⟨((s.data.toList.drop k).take n).toArray⟩ : ByteArray) = _
            rw [ext_bytes]
          obtain ⟨PR, hPR⟩ : ∃ T, s.extract 0 (k + n) = T := ⟨_, rfl⟩
          obtain ⟨SU, hSU⟩ : ∃ T, s.extract (k + n) (k + n + 4) = T := ⟨_, rfl⟩
          have dPR : PR.data.toList = s.data.toList.take (k + n) := by rw [← hPR, ext_bytes0]
          have dSU : SU.data.toList = (s.data.toList.drop (k + n)).take 4 := by rw [← hSU, ext_bytes4]
          have zPR : PR.size ≤ 140737488355328 := by rw [← hPR, ByteArray.size_extract]; omega
          obtain ⟨kn, hkn⟩ : ∃ x, k + n = x := ⟨_, rfl⟩
          have hs1 : ∀ W : World, (Instr.slice 9 (.string s) (some (.int .i64 k)) (some (.int .i64 kn)) none).run Try.prog W = .ok (.string D) W := fun W => slice_mid2 (by rw [← hkn]; exact hD) (by omega) (by omega) W
          have hs2 : ∀ W : World, (Instr.slice 9 (.string s) none (some (.int .i64 kn)) none).run Try.prog W = .ok (.string PR) W := fun W => slice_to (by rw [← hkn]; exact hPR) (by omega) W
          obtain ⟨kn4, hkn4⟩ : ∃ x, k + n + 4 = x := ⟨_, rfl⟩
          have hs3 : ∀ W : World, (Instr.slice 9 (.string s) (some (.int .i64 kn)) (some (.int .i64 kn4)) none).run Try.prog W = .ok (.string SU) W := fun W => slice_mid2 (by rw [← hkn, ← hkn4]; exact hSU) (by omega) (by omega) W
          have e1 : (k : Int) + (n : Int) = (kn : Int) := by omega
          have e2 : IntKind.i64.wrap ((k : Int) + (n : Int)) = (kn : Int) := by rw [e1]; exact IntWalk.i64_in _ (by omega)
          have e3 : (kn : Int) + 4 = (kn4 : Int) := by omega
          have e4 : IntKind.i64.wrap ((kn : Int) + 4) = (kn4 : Int) := by rw [e3]; exact IntWalk.i64_in _ (by omega)
          have e5 : IntKind.i64.wrap (kn : Int) = (kn : Int) := IntWalk.i64_in _ (by omega)
          have e6 : IntKind.i64.wrap (kn4 : Int) = (kn4 : Int) := IntWalk.i64_in _ (by omega)
          have hkb0 : (0 : Int) ≤ (kn : Int) := by omega
          have hkb1 : (kn : Int) ≤ (s.size : Int) := by omega
          have hkb2 : (kn4 : Int) ≤ (s.size : Int) := by omega
          have hkb3 : (kn : Int) ≤ (kn4 : Int) := by omega
          have HPR : Hid (s.extract 0 kn = PR) := by show _ = _; rw [← hkn]; exact hPR
          have HSU : Hid (s.extract kn kn4 = SU) := by show _ = _; rw [← hkn, ← hkn4]; exact hSU
          have hge : ((s.size : Int) < (kn4 : Int)) = False := by simp; omega
          rw [hkn4] at hz1
          rw [hkn] at hz1 dPR dSU
          obtain ⟨u, hu⟩ : ∃ u, sumR (s.data.toList.take kn) = u := ⟨_, rfl⟩
          rw [hu] at hz1
          have lu : u < 4294967296 := by rw [← hu]; exact sumR_lt _
          have o1 := refof_list dPR hu zPR
          obtain ⟨SB, hSB⟩ : ∃ S, bs (le4 u) = S := ⟨_, rfl⟩
          have y1 := refbytes_at lu hSB
          have hcmp : (SB.toList == SU.toList) = decide (le4 u = (s.data.toList.drop kn).take 4) := by
            have e : ∀ X : ByteArray, X.toList = X.data.toList := fun X => by rw [bs_of X, bs_toList]; simp [bs]
            rw [e SU, dSU, ← hSB, bs_toList]
            by_cases h : le4 u = (s.data.toList.drop kn).take 4
            · simp [h]
            · simp [h]
          have i1 : 1 < s.size := by omega
          have i2 : 2 < s.size := by omega
          have j1 : (1 : Int) < (s.size : Int) := by omega
          have j2 : (2 : Int) < (s.size : Int) := by omega
          have a1 := at_byte s 1 i1
          have a2 := at_byte s 2 i2
          obtain ⟨x1, hx1⟩ : ∃ x, s[1].toNat = x := ⟨_, rfl⟩
          obtain ⟨x2, hx2⟩ : ∃ x, s[2].toNat = x := ⟨_, rfl⟩
          have l1 : x1 < 256 := by rw [← hx1]; exact s[1].toNat_lt
          have l2 : x2 < 256 := by rw [← hx2]; exact s[2].toNat_lt
          rw [hx1] at a1
          rw [hx2] at a2
          have hsz4 : (s.size : Int) ≥ (kn4 : Int) := by omega
          clear hz hA hB hat0 hv hc2 q1 q2 q3 hzz hcut hPR hSU dPR dSU zPR hu lu hSB hn4 hsl hbx hD
          rcases hlit with ⟨rfl, rfl⟩ | ⟨rfl, rfl⟩
          · skip
            have hMe : M = ⟨(x1 : Int), 0, D⟩ := by rw [← hMD, ← hM]; unfold madeF; rw [a1]; rfl
            clear hM hMD
            subst hMe
            obtain ⟨b, hok⟩ : ∃ b, okF 1 ⟨(x1 : Int), 0, D⟩ = b := ⟨_, rfl⟩
            have r1 := fun W => refright_any 1 ⟨(x1 : Int), 0, D⟩ W
            rw [hok] at r1
            rw [hok] at hz1
            have HC := Lib.hid hcmp; clear hcmp
            have HZ1 := Lib.hid hz1; clear hz1 hok
            have HKN := Lib.hid hkn; clear hkn
            have HK4 := Lib.hid hkn4; clear hkn4 hsz hsz4
            go_enter Try.func30, Try.ntmps30
            go_wp2_with fail
            ((with_reducible refine (p _).mono ?_); rintro e W1 ⟨rfl, b1⟩)
            have hk1 := (FrBlk.new w zeroF).below b1
            have hb1 := bch hb0 b1
            clear b1
            obtain ⟨c0, c1, c2⟩ := hk1.cells
            simp only [zeroF] at c0 c1 c2
            have f0 := hk1.frozen 0
            have f1 := hk1.frozen 1
            have f2 := hk1.frozen 2
            have HK1 := Lib.hid hk1; clear hk1
            have hlt1 : w.heap.size < W1.heap.size := lt_of_blk HK1.out
            have HLT := Lib.hid hlt1; clear hlt1
            go_wp2_with fail
            go_region
            have hg2 : FrBlk (W1.alloc (.cells #[.int .i64 (x1 : Int), .int .i64 0, .string D] 23)).drew W1.heap.size ⟨(x1 : Int), 0, D⟩ := FrBlk.new W1 ⟨(x1 : Int), 0, D⟩
            have hk2 : FrBlk (W1.alloc (.cells #[.int .i64 (x1 : Int), .int .i64 0, .string D] 23)).drew w.heap.size zeroF := HK1.out.below (((Below.refl _ _).alloc (Nat.le_refl _) _).drew)
            have hb2 : Below w.heap.size w (W1.alloc (.cells #[.int .i64 (x1 : Int), .int .i64 0, .string D] 23)).drew := (hb1.alloc hb1.size _).drew
            obtain ⟨W2, hW2⟩ : ∃ W, (W1.alloc (.cells #[.int .i64 (x1 : Int), .int .i64 0, .string D] 23)).drew = W := ⟨_, rfl⟩
            rw [hW2] at hg2 hk2 hb2
            rw [hW2]
            clear hW2 hb1 c0 c1 c2 f0 f1 f2
            generalize W1.heap.size = g at *
            obtain ⟨g0, g1, g2⟩ := hg2.cells
            simp only at g0 g1 g2
            have h0 := hg2.frozen 0
            have h1 := hg2.frozen 1
            have HG2 := Lib.hid hg2; clear hg2
            have HK2 := Lib.hid hk2; clear hk2
            have HB2 := Lib.hid hb2; clear hb2
            try simp only at r1
            go_wp2_with fail
            ((with_reducible refine (r1 _).mono ?_); rintro e W4 ⟨rfl, b4⟩)
            have hg4 := HG2.out.below b4
            have hk4 := HK2.out.below b4
            have hb4 := bch HB2.out b4
            clear g0 g1 g2 b4 HG2 HK2 HB2
            obtain ⟨g0, g1, g2⟩ := hg4.cells
            simp only at g0 g1 g2
            obtain ⟨c0, c1, c2⟩ := hk4.cells
            simp only [zeroF] at c0 c1 c2
            have f0 := hk4.frozen 0
            have f1 := hk4.frozen 1
            have f2 := hk4.frozen 2
            have HG4 := Lib.hid hg4; clear hg4
            have HK4B := Lib.hid hk4; clear hk4
            have HB4 := Lib.hid hb4; clear hb4
            cases b with
            | false =>
              have HZ : Hid ((zeroF, 0, 11) = z) := by
                have := HZ1.out
                rw [if_pos (.inl rfl)] at this
                exact this
              clear HZ1 hs1 hs2 hs3 HPR HSU HC
              go_wp2_with fail
              go_quiet (fail)
              go_wp2_with fail
              have hfinN := fun n => (HK4B.out.below (bdn (Below.refl _ _) n) : FrBlk (W4.drewN n) w.heap.size zeroF).put zeroF
              have d0 := fun n => (hfinN n).cells.1
              have d1 := fun n => (hfinN n).cells.2.1
              have d2 := fun n => (hfinN n).cells.2.2
              have hbf := fun n => (((bdn HB4.out n).setCell (p := ⟨w.heap.size, 0, none⟩) (Nat.le_refl _) (.int .i64 (zeroF).kind)).setCell (p := ⟨w.heap.size, 1, none⟩) (Nat.le_refl _) (.int .i64 (zeroF).flags)).setCell (p := ⟨w.heap.size, 2, none⟩) (Nat.le_refl _) (.string (zeroF).data)
              simp only [zeroF] at d0 d1 d2 hbf
              refine bodyPost_ret (v := .tuple #[.agg #[.int .i64 0, .int .i64 0, .string ⟨#[]⟩], .int .i64 0, .int .i64 11]) (by simp [results, Try.results30, go_sem, d0, d1, d2]) rfl ⟨by rw [← HZ.out]; rfl, hbf _⟩
            | true =>
              rw [← HPR.out] at o1
              have hcm := HC.out
              rw [← HSU.out] at hcm
              clear hs1 hs2 hs3 HPR HSU HC
              obtain ⟨q, hq⟩ : ∃ q, decide (le4 u = (s.data.toList.drop kn).take 4) = q := ⟨_, rfl⟩
              rw [hq] at hcm
              have HQ := Lib.hid hq; clear hq
              have hcn : (SB.toList != (s.extract kn kn4).toList) = !q := by rw [← hcm]; rfl
              have HS : Hid (∀ W, W = W4.drew → (FrBlk W w.heap.size zeroF ∧ FrBlk W g ⟨(x1 : Int), 0, D⟩ ∧ Below w.heap.size w W)) := by rintro W rfl; exact ⟨HK4B.out, HG4.out, HB4.out.drew⟩
              go_wp2_with fail
              go_region_held3 (fun W => FrBlk W w.heap.size zeroF ∧ FrBlk W g ⟨(x1 : Int), 0, D⟩ ∧ Below w.heap.size w W) (first | exact HS.out _ rfl | assumption | exact fr2_keep (by assumption) (by assumption)) (first | ((with_reducible refine (o1 _).mono ?_); rintro e w' ⟨rfl, rfl⟩) | ((with_reducible refine (y1 _).mono ?_); rintro e w' ⟨rfl, bq⟩))
              rename_i hH
              obtain ⟨hka, hga, hba⟩ := hH
              obtain ⟨w5, hw5⟩ : ∃ W, W = w' := ⟨_, rfl⟩
              subst hw5
              clear c0 c1 c2 f0 f1 f2 g0 g1 g2 HG4 HK4B HB4 HS o1 y1
              obtain ⟨g0, g1, g2⟩ := hga.cells
              simp only at g0 g1 g2
              obtain ⟨c0, c1, c2⟩ := hka.cells
              simp only [zeroF] at c0 c1 c2
              have f0 := hka.frozen 0
              have f1 := hka.frozen 1
              have f2 := hka.frozen 2
              have HKA := Lib.hid hka; clear hka hga
              cases q with
              | true =>
                have HZ : Hid ((⟨(x1 : Int), 0, D⟩, kn4, 0) = z) := by
                  have := HZ1.out
                  rw [if_neg (by rintro (h | h); cases h; exact h (of_decide_eq_true HQ.out))] at this
                  exact this
                clear HZ1 HQ
                go_wp2_with fail
                have hfin := (HKA.out).put ⟨(x1 : Int), 0, D⟩
                have hbf := ((hba.setCell (p := ⟨w.heap.size, 0, none⟩) (Nat.le_refl _) (.int .i64 (⟨(x1 : Int), 0, D⟩ : Frm).kind)).setCell (p := ⟨w.heap.size, 1, none⟩) (Nat.le_refl _) (.int .i64 (⟨(x1 : Int), 0, D⟩ : Frm).flags)).setCell (p := ⟨w.heap.size, 2, none⟩) (Nat.le_refl _) (.string (⟨(x1 : Int), 0, D⟩ : Frm).data)
                obtain ⟨d0, d1, d2⟩ := hfin.cells
                simp only at d0 d1 d2 hbf
                refine bodyPost_ret (v := .tuple #[.agg #[.int .i64 (x1 : Int), .int .i64 0, .string D], .int .i64 kn4, .int .i64 0]) (by simp [results, Try.results30, go_sem, d0, d1, d2]) rfl ⟨by rw [← HZ.out]; rfl, hbf⟩
              | false =>
                have HZ : Hid ((zeroF, 0, 11) = z) := by
                  have := HZ1.out
                  rw [if_pos (.inr (of_decide_eq_false HQ.out))] at this
                  exact this
                clear HZ1 HQ
                go_wp2_with fail
                have hfin := (HKA.out).put zeroF
                have hbf := ((hba.setCell (p := ⟨w.heap.size, 0, none⟩) (Nat.le_refl _) (.int .i64 (zeroF : Frm).kind)).setCell (p := ⟨w.heap.size, 1, none⟩) (Nat.le_refl _) (.int .i64 (zeroF : Frm).flags)).setCell (p := ⟨w.heap.size, 2, none⟩) (Nat.le_refl _) (.string (zeroF : Frm).data)
                obtain ⟨d0, d1, d2⟩ := hfin.cells
                simp only [zeroF] at d0 d1 d2 hbf
                refine bodyPost_ret (v := .tuple #[.agg #[.int .i64 0, .int .i64 0, .string ⟨#[]⟩], .int .i64 0, .int .i64 11]) (by simp [results, Try.results30, go_sem, d0, d1, d2]) rfl ⟨by rw [← HZ.out]; rfl, hbf⟩
        
          · skip
            have hMe : M = ⟨(x2 : Int), (x1 : Int), D⟩ := by rw [← hMD, ← hM]; unfold madeF; rw [a1, a2]; rfl
            clear hM hMD
            subst hMe
            obtain ⟨b, hok⟩ : ∃ b, okF 2 ⟨(x2 : Int), (x1 : Int), D⟩ = b := ⟨_, rfl⟩
            have r1 := fun W => refright_any 2 ⟨(x2 : Int), (x1 : Int), D⟩ W
            rw [hok] at r1
            rw [hok] at hz1
            have HC := Lib.hid hcmp; clear hcmp
            have HZ1 := Lib.hid hz1; clear hz1 hok
            have HKN := Lib.hid hkn; clear hkn
            have HK4 := Lib.hid hkn4; clear hkn4 hsz hsz4
            go_enter Try.func30, Try.ntmps30
            go_wp2_with fail
            ((with_reducible refine (p _).mono ?_); rintro e W1 ⟨rfl, b1⟩)
            have hk1 := (FrBlk.new w zeroF).below b1
            have hb1 := bch hb0 b1
            clear b1
            obtain ⟨c0, c1, c2⟩ := hk1.cells
            simp only [zeroF] at c0 c1 c2
            have f0 := hk1.frozen 0
            have f1 := hk1.frozen 1
            have f2 := hk1.frozen 2
            have HK1 := Lib.hid hk1; clear hk1
            have hlt1 : w.heap.size < W1.heap.size := lt_of_blk HK1.out
            have HLT := Lib.hid hlt1; clear hlt1
            go_wp2_with fail
            go_region
            have hg2 : FrBlk (W1.alloc (.cells #[.int .i64 (x1 : Int), .int .i64 0, .string D] 23)).drew W1.heap.size ⟨(x1 : Int), 0, D⟩ := FrBlk.new W1 ⟨(x1 : Int), 0, D⟩
            have hk2 : FrBlk (W1.alloc (.cells #[.int .i64 (x1 : Int), .int .i64 0, .string D] 23)).drew w.heap.size zeroF := HK1.out.below (((Below.refl _ _).alloc (Nat.le_refl _) _).drew)
            have hb2 : Below w.heap.size w (W1.alloc (.cells #[.int .i64 (x1 : Int), .int .i64 0, .string D] 23)).drew := (hb1.alloc hb1.size _).drew
            obtain ⟨W2, hW2⟩ : ∃ W, (W1.alloc (.cells #[.int .i64 (x1 : Int), .int .i64 0, .string D] 23)).drew = W := ⟨_, rfl⟩
            rw [hW2] at hg2 hk2 hb2
            rw [hW2]
            clear hW2 hb1 c0 c1 c2 f0 f1 f2
            generalize W1.heap.size = g at *
            obtain ⟨g0, g1, g2⟩ := hg2.cells
            simp only at g0 g1 g2
            have h0 := hg2.frozen 0
            have h1 := hg2.frozen 1
            have HG2 := Lib.hid hg2; clear hg2
            have HK2 := Lib.hid hk2; clear hk2
            have HB2 := Lib.hid hb2; clear hb2
            try simp only at r1
            go_upto_region 14 with fail
            have hg3 : FrBlk ((W2.setCell ⟨g, 1, none⟩ (.int .i64 (x1 : Int))).setCell ⟨g, 0, none⟩ (.int .i64 (x2 : Int))) g ⟨(x2 : Int), (x1 : Int), D⟩ := heap_setCell_same _ g 0 _ _ _ (heap_setCell_same _ g 1 _ _ _ HG2.out)
            have hk3 : FrBlk ((W2.setCell ⟨g, 1, none⟩ (.int .i64 (x1 : Int))).setCell ⟨g, 0, none⟩ (.int .i64 (x2 : Int))) w.heap.size zeroF := by
              have hne : w.heap.size ≠ g := by have := HLT.out; omega
              exact (heap_setCell_other _ ⟨g, 0, none⟩ _ _ hne).trans ((heap_setCell_other _ ⟨g, 1, none⟩ _ _ hne).trans HK2.out)
            have hb3 : Below w.heap.size w ((W2.setCell ⟨g, 1, none⟩ (.int .i64 (x1 : Int))).setCell ⟨g, 0, none⟩ (.int .i64 (x2 : Int))) := (HB2.out.setCell (p := ⟨g, 1, none⟩) (by have := HLT.out; show w.heap.size ≤ g; omega) _).setCell (p := ⟨g, 0, none⟩) (by have := HLT.out; show w.heap.size ≤ g; omega) _
            obtain ⟨W3, hW3⟩ : ∃ W, (W2.setCell ⟨g, 1, none⟩ (.int .i64 (x1 : Int))).setCell ⟨g, 0, none⟩ (.int .i64 (x2 : Int)) = W := ⟨_, rfl⟩
            rw [hW3] at hg3 hk3 hb3
            rw [hW3]
            clear hW3 HG2 HK2 HB2 g0 g1 g2 h0 h1
            obtain ⟨g0, g1, g2⟩ := hg3.cells
            simp only at g0 g1 g2
            have HG2 := Lib.hid hg3; clear hg3
            have HK2 := Lib.hid hk3; clear hk3
            have HB2 := Lib.hid hb3; clear hb3
            go_wp2_with fail
            ((with_reducible refine (r1 _).mono ?_); rintro e W4 ⟨rfl, b4⟩)
            have hg4 := HG2.out.below b4
            have hk4 := HK2.out.below b4
            have hb4 := bch HB2.out b4
            clear g0 g1 g2 b4 HG2 HK2 HB2
            obtain ⟨g0, g1, g2⟩ := hg4.cells
            simp only at g0 g1 g2
            obtain ⟨c0, c1, c2⟩ := hk4.cells
            simp only [zeroF] at c0 c1 c2
            have f0 := hk4.frozen 0
            have f1 := hk4.frozen 1
            have f2 := hk4.frozen 2
            have HG4 := Lib.hid hg4; clear hg4
            have HK4B := Lib.hid hk4; clear hk4
            have HB4 := Lib.hid hb4; clear hb4
            cases b with
            | false =>
              have HZ : Hid ((zeroF, 0, 11) = z) := by
                have := HZ1.out
                rw [if_pos (.inl rfl)] at this
                exact this
              clear HZ1 hs1 hs2 hs3 HPR HSU HC
              go_wp2_with fail
              go_quiet (fail)
              go_wp2_with fail
              have hfinN := fun n => (HK4B.out.below (bdn (Below.refl _ _) n) : FrBlk (W4.drewN n) w.heap.size zeroF).put zeroF
              have d0 := fun n => (hfinN n).cells.1
              have d1 := fun n => (hfinN n).cells.2.1
              have d2 := fun n => (hfinN n).cells.2.2
              have hbf := fun n => (((bdn HB4.out n).setCell (p := ⟨w.heap.size, 0, none⟩) (Nat.le_refl _) (.int .i64 (zeroF).kind)).setCell (p := ⟨w.heap.size, 1, none⟩) (Nat.le_refl _) (.int .i64 (zeroF).flags)).setCell (p := ⟨w.heap.size, 2, none⟩) (Nat.le_refl _) (.string (zeroF).data)
              simp only [zeroF] at d0 d1 d2 hbf
              refine bodyPost_ret (v := .tuple #[.agg #[.int .i64 0, .int .i64 0, .string ⟨#[]⟩], .int .i64 0, .int .i64 11]) (by simp [results, Try.results30, go_sem, d0, d1, d2]) rfl ⟨by rw [← HZ.out]; rfl, hbf _⟩
            | true =>
              rw [← HPR.out] at o1
              have hcm := HC.out
              rw [← HSU.out] at hcm
              clear hs1 hs2 hs3 HPR HSU HC
              obtain ⟨q, hq⟩ : ∃ q, decide (le4 u = (s.data.toList.drop kn).take 4) = q := ⟨_, rfl⟩
              rw [hq] at hcm
              have HQ := Lib.hid hq; clear hq
              have hcn : (SB.toList != (s.extract kn kn4).toList) = !q := by rw [← hcm]; rfl
              have HS : Hid (∀ W, W = W4.drew → (FrBlk W w.heap.size zeroF ∧ FrBlk W g ⟨(x2 : Int), (x1 : Int), D⟩ ∧ Below w.heap.size w W)) := by rintro W rfl; exact ⟨HK4B.out, HG4.out, HB4.out.drew⟩
              go_wp2_with fail
              go_region_held3 (fun W => FrBlk W w.heap.size zeroF ∧ FrBlk W g ⟨(x2 : Int), (x1 : Int), D⟩ ∧ Below w.heap.size w W) (first | exact HS.out _ rfl | assumption | exact fr2_keep (by assumption) (by assumption)) (first | ((with_reducible refine (o1 _).mono ?_); rintro e w' ⟨rfl, rfl⟩) | ((with_reducible refine (y1 _).mono ?_); rintro e w' ⟨rfl, bq⟩))
              rename_i hH
              obtain ⟨hka, hga, hba⟩ := hH
              obtain ⟨w5, hw5⟩ : ∃ W, W = w' := ⟨_, rfl⟩
              subst hw5
              clear c0 c1 c2 f0 f1 f2 g0 g1 g2 HG4 HK4B HB4 HS o1 y1
              obtain ⟨g0, g1, g2⟩ := hga.cells
              simp only at g0 g1 g2
              obtain ⟨c0, c1, c2⟩ := hka.cells
              simp only [zeroF] at c0 c1 c2
              have f0 := hka.frozen 0
              have f1 := hka.frozen 1
              have f2 := hka.frozen 2
              have HKA := Lib.hid hka; clear hka hga
              cases q with
              | true =>
                have HZ : Hid ((⟨(x2 : Int), (x1 : Int), D⟩, kn4, 0) = z) := by
                  have := HZ1.out
                  rw [if_neg (by rintro (h | h); cases h; exact h (of_decide_eq_true HQ.out))] at this
                  exact this
                clear HZ1 HQ
                go_wp2_with fail
                have hfin := (HKA.out).put ⟨(x2 : Int), (x1 : Int), D⟩
                have hbf := ((hba.setCell (p := ⟨w.heap.size, 0, none⟩) (Nat.le_refl _) (.int .i64 (⟨(x2 : Int), (x1 : Int), D⟩ : Frm).kind)).setCell (p := ⟨w.heap.size, 1, none⟩) (Nat.le_refl _) (.int .i64 (⟨(x2 : Int), (x1 : Int), D⟩ : Frm).flags)).setCell (p := ⟨w.heap.size, 2, none⟩) (Nat.le_refl _) (.string (⟨(x2 : Int), (x1 : Int), D⟩ : Frm).data)
                obtain ⟨d0, d1, d2⟩ := hfin.cells
                simp only at d0 d1 d2 hbf
                refine bodyPost_ret (v := .tuple #[.agg #[.int .i64 (x2 : Int), .int .i64 (x1 : Int), .string D], .int .i64 kn4, .int .i64 0]) (by simp [results, Try.results30, go_sem, d0, d1, d2]) rfl ⟨by rw [← HZ.out]; rfl, hbf⟩
              | false =>
                have HZ : Hid ((zeroF, 0, 11) = z) := by
                  have := HZ1.out
                  rw [if_pos (.inr (of_decide_eq_false HQ.out))] at this
                  exact this
                clear HZ1 HQ
                go_wp2_with fail
                have hfin := (HKA.out).put zeroF
                have hbf := ((hba.setCell (p := ⟨w.heap.size, 0, none⟩) (Nat.le_refl _) (.int .i64 (zeroF : Frm).kind)).setCell (p := ⟨w.heap.size, 1, none⟩) (Nat.le_refl _) (.int .i64 (zeroF : Frm).flags)).setCell (p := ⟨w.heap.size, 2, none⟩) (Nat.le_refl _) (.string (zeroF : Frm).data)
                obtain ⟨d0, d1, d2⟩ := hfin.cells
                simp only [zeroF] at d0 d1 d2 hbf
                refine bodyPost_ret (v := .tuple #[.agg #[.int .i64 0, .int .i64 0, .string ⟨#[]⟩], .int .i64 0, .int .i64 11]) (by simp [results, Try.results30, go_sem, d0, d1, d2]) rfl ⟨by rw [← HZ.out]; rfl, hbf⟩
end Go.Proofs.Ytjciojgldibfmaa
