import Derived.Test.YtbncaolflhmgpaaDkP
import Derived.Deep.RegionLaw
/-
  The contracts of strings.Clone and of the method settle of a drive (the program's own, stage 7).
-/
namespace Go.Proofs.Ytbncaolflhmgpaa
open Go.RowKit
set_option linter.unusedVariables false

set_option maxRecDepth 100000 in
set_option maxHeartbeats 2000000 in
theorem settle_at (qc : ∀ (s : ByteArray), s.size ≤ 140737488355328 → ∀ w : World, Calls Try.prog 26 #[.string s] w fun e w' => e = .returned (.string s) ∧ Below w.heap.size w w') (g : Nat) (a b c x : ByteArray) (k : Int) (hx : b ++ c.extract 0 (tearN k c.size) = x) (hb : b.size ≤ 400000) (hc : c.size ≤ 400000) (hk : (Lit.int .i64 k).wf = true) (w : World) (h : DvBlk w g a b c) :
    Calls Try.prog 22 #[.pointer (some ⟨g, 0, none⟩), .int .i64 k] w (DvPost g a x ⟨#[]⟩ 0 w) := by
  have hkb := bounds_i64 hk
  obtain ⟨m, hm⟩ : ∃ m, tearN k c.size = m := ⟨_, rfl⟩
  have hml := tearN_le k c.size
  rw [hm] at hml hx
  obtain ⟨y, hy⟩ : ∃ y, c.extract 0 m = y := ⟨_, rfl⟩
  have zy : y.size = m := by rw [← hy]; exact ext_size c hml
  have hsl := fun W => slice_to hy hml W
  rw [hy] at hx
  have hadd : ∀ W : World, (Op.stringOp .add b y).run Try.prog W = .ok (.string x) W := fun W => by rw [← hx]; exact str_add (by omega) W
  have q := fun W => qc y (by omega) W
  clear qc
  unfold tearN at hm
  obtain ⟨c0, c1, c2⟩ := h.cells
  have f1 := h.frozen 1
  have f2 := h.frozen 2
  have hlt := lt_of_blk h
  have H := Lib.hid h; clear h
  have HX := Lib.hid hx; clear hx
  have HY := Lib.hid hy; clear hy
  have HLT := Lib.hid hlt; clear hlt
  by_cases h1 : k < 0
  · have hm0 : m = 0 := by omega
    subst hm0
    have g1 : ¬ ((c.size : Int) < 0) := by omega
    have nb : ¬ (9223372036854775807 < b.size) := by omega
    have hye : y = ByteArray.empty := by rw [← HY.out]; exact ByteArray.extract_same
    have hxb : b = x := by
      rw [← HX.out, hye]
      apply ByteArray.ext
      simp
    subst hxb
    subst hye
    clear hm zy hml hk hkb
    go_enter Try.func22, Try.ntmps22
    go_wp2_with fail
    go_region_law (first | (go_simp; go_at_call 26; refine (q _).mono ?_; rintro e V1 ⟨rfl, bq⟩; have hd := (DvBlk.drew H.out).below bq; obtain ⟨d0, d1, d2⟩ := hd.cells; have e1 := hd.frozen 1; have H3 := Lib.hid hd; clear hd))
    all_goals
      have hbe := ((Below.refl g w).drew.trans (bq.mono (Nat.le_of_lt HLT.out))).setCell (p := ⟨g, 1, none⟩) (Nat.le_refl _) (.string b)
      have hd := H3.out.put1 b
      clear c0 c1 c2 f1 f2 d0 d1 d2 e1 bq
      obtain ⟨V2, hV2⟩ : ∃ W, V1.setCell ⟨g, 1, none⟩ (.string b) = W := ⟨_, rfl⟩
      rw [hV2] at hbe hd ⊢
      clear hV2
      have x2 := hd.frozen 2
      have y2 := hd.cells.2.2
      have HBE := Lib.hid hbe; clear hbe
      have HD := Lib.hid hd; clear hd
      go_wp2_with fail
      go_ret
      exact ⟨rfl, HD.out.put2 _, HBE.out.setCell (p := ⟨g, 2, none⟩) (Nat.le_refl _) _⟩
  · by_cases h2 : (c.size : Int) < k
    · have hm0 : m = c.size := by omega
      subst hm0
      clear hm zy hml hk hkb
      go_enter Try.func22, Try.ntmps22
      go_wp2_with fail
      go_region_law (first | (go_simp; go_at_call 26; refine (q _).mono ?_; rintro e V1 ⟨rfl, bq⟩; have hd := (DvBlk.drew H.out).below bq; obtain ⟨d0, d1, d2⟩ := hd.cells; have e1 := hd.frozen 1; have H3 := Lib.hid hd; clear hd))
      all_goals
        have hbe := ((Below.refl g w).drew.trans (bq.mono (Nat.le_of_lt HLT.out))).setCell (p := ⟨g, 1, none⟩) (Nat.le_refl _) (.string x)
        have hd := H3.out.put1 x
        clear c0 c1 c2 f1 f2 d0 d1 d2 e1 bq
        obtain ⟨V2, hV2⟩ : ∃ W, V1.setCell ⟨g, 1, none⟩ (.string x) = W := ⟨_, rfl⟩
        rw [hV2] at hbe hd ⊢
        clear hV2
        have x2 := hd.frozen 2
        have y2 := hd.cells.2.2
        have HBE := Lib.hid hbe; clear hbe
        have HD := Lib.hid hd; clear hd
        go_wp2_with fail
        go_ret
        exact ⟨rfl, HD.out.put2 _, HBE.out.setCell (p := ⟨g, 2, none⟩) (Nat.le_refl _) _⟩
    · have hk0 : k = (m : Int) := by omega
      subst hk0
      have g1 : ¬ ((m : Int) < 0) := by omega
      have g2 : ¬ ((c.size : Int) < (m : Int)) := by omega
      clear hm zy hk hkb
      go_enter Try.func22, Try.ntmps22
      go_wp2_with fail
      go_region_law (first | (go_simp; go_at_call 26; refine (q _).mono ?_; rintro e V1 ⟨rfl, bq⟩; have hd := (DvBlk.drew H.out).below bq; obtain ⟨d0, d1, d2⟩ := hd.cells; have e1 := hd.frozen 1; have H3 := Lib.hid hd; clear hd))
      all_goals
        have hbe := ((Below.refl g w).drew.trans (bq.mono (Nat.le_of_lt HLT.out))).setCell (p := ⟨g, 1, none⟩) (Nat.le_refl _) (.string x)
        have hd := H3.out.put1 x
        clear c0 c1 c2 f1 f2 d0 d1 d2 e1 bq
        obtain ⟨V2, hV2⟩ : ∃ W, V1.setCell ⟨g, 1, none⟩ (.string x) = W := ⟨_, rfl⟩
        rw [hV2] at hbe hd ⊢
        clear hV2
        have x2 := hd.frozen 2
        have y2 := hd.cells.2.2
        have HBE := Lib.hid hbe; clear hbe
        have HD := Lib.hid hd; clear hd
        go_wp2_with fail
        go_ret
        exact ⟨rfl, HD.out.put2 _, HBE.out.setCell (p := ⟨g, 2, none⟩) (Nat.le_refl _) _⟩
end Go.Proofs.Ytbncaolflhmgpaa
