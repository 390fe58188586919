import Derived.Test.YtndkmepdnekigaaCtRefR
/-
  The contract of the document's own Load of controllers (stage 18).
-/
namespace Go.Proofs.Ytndkmepdnekigaa
open Go.RowKit
set_option linter.unusedVariables false

theorem load_take (l : List PlR) (x : Int) (k : Nat) (h : k < l.length) : loadC (l.take (k + 1)) x = loadC (l.take k) x + (if hasP x (atP9 l k) = true then 1 else 0) := by
  unfold loadC
  rw [List.take_succ_eq_append_getElem h, List.countP_append]
  congr 1
  unfold atP9
  rw [List.getD_eq_getElem?_getD, List.getElem?_eq_getElem h]
  simp [List.countP_cons]
set_option maxRecDepth 100000 in
set_option maxHeartbeats 8000000 in
theorem refload9_any (c : CtR) (A B : Option Addr) (n cap m cm : Nat) (x : Int) (w : World) (hc : IsG s3 w B m c.pl) (hm24 : m ≤ 17592186044416) :
    Calls Try.prog 52 #[ctV c A n cap B m cm, .int .i64 x] w fun e w' => e = .returned (.int .i64 (loadC c.pl x : Nat)) ∧ Below w.heap.size w w' := by
  have hm := hc.1
  have HX := Blk.new w (ctB c A n cap B m cm)
  have HB := (Below.refl w.heap.size w).alloc (Nat.le_refl _) (ctB c A n cap B m cm)
  have HC := hc.below HB
  obtain ⟨W, hW⟩ : ∃ W, w.alloc (ctB c A n cap B m cm) = W := ⟨_, rfl⟩
  rw [hW] at HX HB HC
  have HHX := Lib.hid HX; clear HX
  have HHB := Lib.hid HB; clear HB
  have HHC := Lib.hid HC; clear HC
  clear hc
  have HM := Lib.hid hm; clear hm
  have HFUL : Hid (c.pl.take m = c.pl) := by show _ = _; rw [HM.out, List.take_length]
  have HCNT : Hid (∀ k, loadC (c.pl.take k) x ≤ k) := fun k => Nat.le_trans List.countP_le_length (by simp; omega)
  have HST : Hid (∀ k, k < c.pl.length → loadC (c.pl.take (k + 1)) x = loadC (c.pl.take k) x + (if hasP x (atP9 c.pl k) = true then 1 else 0)) := fun k h => load_take c.pl x k h
  go_enter Try.func52, Try.ntmps52
  go_upto_region 1 with fail
  try rw [hW]
  clear hW
  go_wp2_with fail
  go_loopw [5, 6] (fun s i wr => ∃ k : Nat, k ≤ m ∧ i = .int .i64 k ∧ s = .int .i64 (loadC (c.pl.take k) x : Nat) ∧ Hid (Below W.heap.size W wr)) (fun _ i _ => m - (intOf i).toNat)
  case atStart => exact ⟨0, by omega, rfl, rfl, Below.refl _ _⟩
  case round =>
    obtain ⟨k, hk, rfl, rfl, hbw⟩ := hrel
    have z2 := Blk.cell (Blk.below HHX.out hbw.out) 2
    simp only [List.getElem?_toArray, List.getElem?_cons_zero, List.getElem?_cons_succ] at z2
    by_cases hlt : k < m
    · have HK : Hid (k < c.pl.length) := by show k < _; rw [← HM.out]; exact hlt
      obtain ⟨b, off, hA, hb, y0, y1, y2⟩ := is3_at (HHC.out.below hbw.out) (atP9_get HK.out)
      subst hA
      have hnx := HST.out k HK.out
      have hle := HCNT.out k
      generalize hp : atP9 c.pl k = z at *
      clear hp
      generalize loadC (c.pl.take k) x = q at *
      obtain ⟨ow, ep, tz⟩ := z
      simp only at y0 y1 y2
      have hh : hasP x (ow, ep, tz) = (tz == x || (tz == 0 && ow == x)) := rfl
      rw [hh] at hnx
      clear hh
      go_upto_region 6 with fail
      have HM2 := Blk.new wr (.cells #[.int .i64 ow, .int .i64 ep, .int .i64 tz] 48)
      have hb2 := hbw.out.alloc hbw.out.size (.cells #[.int .i64 ow, .int .i64 ep, .int .i64 tz] 48)
      obtain ⟨W2, hW2⟩ : ∃ W, wr.alloc (.cells #[.int .i64 ow, .int .i64 ep, .int .i64 tz] 48) = W := ⟨_, rfl⟩
      rw [hW2] at HM2 hb2
      rw [hW2]
      clear hW2 z2 y0 y1 y2
      have x0 := Blk.cell HM2 0
      have x1 := Blk.cell HM2 1
      have x2 := Blk.cell HM2 2
      simp only [List.getElem?_toArray, List.getElem?_cons_zero, List.getElem?_cons_succ] at x0 x1 x2
      have HB2 := Lib.hid hb2
      clear HM2 hb2
      by_cases g1 : tz = x
      · have HNX : Hid (loadC (c.pl.take (k + 1)) x = q + 1) := by show _ = _; rw [hnx] <;> simp [g1]
        subst g1
        clear hnx
        go_wp2_with fail
        go_roundw
        case rel => exact ⟨k + 1, by omega, by go_num, by rw [HNX.out] <;> first | rfl | (congr 1; simp; done), HB2.out⟩
        case measure => simp [intOf]; omega
      have e1 : (tz == x) = false := by simpa using g1
      by_cases g2 : tz = 0
      · subst g2
        by_cases g3 : ow = x
        · have HNX : Hid (loadC (c.pl.take (k + 1)) x = q + 1) := by show _ = _; rw [hnx] <;> simp [g3]
          subst g3
          clear hnx g1
          go_wp2_with fail
          go_roundw
          case rel => exact ⟨k + 1, by omega, by go_num, by rw [HNX.out] <;> first | rfl | (congr 1; simp; done), HB2.out⟩
          case measure => simp [intOf]; omega
        · have HNX : Hid (loadC (c.pl.take (k + 1)) x = q) := by show _ = _; rw [hnx] <;> simp [e1, g3]
          have e3 : (ow == x) = false := by simpa using g3
          clear hnx g1 g3
          go_wp2_with fail
          go_roundw
          case rel => exact ⟨k + 1, by omega, by go_num, by rw [HNX.out] <;> first | rfl | (congr 1; simp; done), HB2.out⟩
          case measure => simp [intOf]; omega
      · have HNX : Hid (loadC (c.pl.take (k + 1)) x = q) := by show _ = _; rw [hnx] <;> simp [g1, g2]
        have e2 : (tz == 0) = false := by simpa using g2
        clear hnx g1 g2
        go_wp2_with fail
        go_roundw
        case rel => exact ⟨k + 1, by omega, by go_num, by rw [HNX.out] <;> first | rfl | (congr 1; simp; done), HB2.out⟩
        case measure => simp [intOf]; omega
    · have hke : k = m := by omega
      subst hke
      go_wp2_with fail
      go_ret
      exact ⟨by rw [HFUL.out]; rfl, bch HHB.out hbw.out⟩
end Go.Proofs.Ytndkmepdnekigaa
