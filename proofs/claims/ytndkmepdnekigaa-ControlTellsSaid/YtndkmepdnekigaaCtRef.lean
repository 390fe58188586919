import Derived.Test.YtndkmepdnekigaaCt
import Derived.Deep.DeepCutAuto
/-
  The contracts of the document's own functions of controllers: bin, member, Load (stage 18).
-/
namespace Go.Proofs.Ytndkmepdnekigaa
open Go.RowKit
set_option linter.unusedVariables false

theorem refbin_any (l n : Int) (w : World) :
    Calls Try.prog 38 #[.int .i64 l, .int .i64 n] w fun e w' => e = .returned (.bool (binB l n)) ∧ w = w' := by
  have HB : Hid (binB l n = (n == 2 || (n == 1 && l == 1))) := rfl
  generalize binB l n = R at *
  by_cases h1 : n = 2
  · subst h1
    go_enter Try.func38, Try.ntmps38
    go_wp2_with fail
    go_ret
    exact ⟨ret_bool (by rw [HB.out]; rfl), rfl⟩
  · have e1 : (n == 2) = false := by simpa using h1
    by_cases h2 : n = 1
    · subst h2
      cases h3 : (l == 1)
      · go_enter Try.func38, Try.ntmps38
        go_wp2_with fail
        go_ret
        exact ⟨ret_bool (by rw [HB.out, h3]; rfl), rfl⟩
      · go_enter Try.func38, Try.ntmps38
        go_wp2_with fail
        go_ret
        exact ⟨ret_bool (by rw [HB.out, h3]; rfl), rfl⟩
    · have e2 : (n == 1) = false := by simpa using h2
      go_enter Try.func38, Try.ntmps38
      go_wp2_with fail
      go_ret
      exact ⟨ret_bool (by rw [HB.out, e1, e2]; rfl), rfl⟩
set_option maxRecDepth 100000 in
set_option maxHeartbeats 8000000 in
theorem refmember_any (c : CtR) (A B : Option Addr) (n cap m cm : Nat) (x : Int) (w : World) (hc : IsG s2 w A n c.mem) :
    Calls Try.prog 39 #[ctV c A n cap B m cm, .int .i64 x] w fun e w' => e = .returned (.int .i64 (memI c.mem x)) ∧ Below w.heap.size w w' := by
  have hn := hc.1
  have hnm := hc.2.1
  unfold maxLen at hnm
  have HX := Blk.new w (ctB c A n cap B m cm)
  have HB := (Below.refl w.heap.size w).alloc (Nat.le_refl _) (ctB c A n cap B m cm)
  have HC := hc.below HB
  obtain ⟨W, hW⟩ : ∃ W, w.alloc (ctB c A n cap B m cm) = W := ⟨_, rfl⟩
  rw [hW] at HX HB HC
  have HHX := Lib.hid HX; clear HX
  have HHB := Lib.hid HB; clear HB
  have HHC := Lib.hid HC; clear HC
  clear hc
  have HN := Lib.hid hn; clear hn
  have HIS : Hid (∀ k, k < c.mem.length → (atM9 c.mem k).1 = x → (∀ j, j < k → (atM9 c.mem j).1 ≠ x) → memI c.mem x = k) := fun k h1 h2 h3 => memI_is h1 h2 h3
  have HNO : Hid ((∀ j, j < c.mem.length → (atM9 c.mem j).1 ≠ x) → memI c.mem x = -1) := memI_none
  generalize memI c.mem x = R at *
  go_enter Try.func39, Try.ntmps39
  go_upto_region 1 with fail
  try rw [hW]
  clear hW
  go_wp2_with fail
  go_loopw [5] (fun i wr => ∃ k : Nat, k ≤ n ∧ i = .int .i64 k ∧ Hid (Below W.heap.size W wr) ∧ Hid (∀ j, j < k → (atM9 c.mem j).1 ≠ x)) (fun i _ => n - (intOf i).toNat)
  case atStart => exact ⟨0, by omega, rfl, Below.refl _ _, fun j hj => by omega⟩
  case round =>
    obtain ⟨k, hk, rfl, hbw, hno⟩ := hrel
    have c1 := Blk.cell (Blk.below HHX.out hbw.out) 1
    simp only [List.getElem?_toArray, List.getElem?_cons_zero, List.getElem?_cons_succ] at c1
    by_cases hlt : k < n
    · have HK : Hid (k < c.mem.length) := by show k < _; rw [← HN.out]; exact hlt
      obtain ⟨b, off, hA, hb, y0, y1⟩ := is2_at (HHC.out.below hbw.out) (atM9_get HK.out)
      subst hA
      have HQ := HIS.out k HK.out
      have HS : Hid (∀ j, j < k + 1 → (atM9 c.mem k).1 ≠ x → (atM9 c.mem j).1 ≠ x) := fun j hj he => by
        rcases Nat.lt_or_ge j k with h5 | h5
        · exact hno.out j h5
        · rw [show j = k by omega]; exact he
      have HQ' := Lib.hid HQ; clear HQ
      generalize atM9 c.mem k = z at *
      obtain ⟨z1, z2⟩ := z
      simp only at y0 y1
      by_cases hz : z1 = x
      · have HE : Hid (R = k) := HQ'.out hz hno.out
        have e1 : (z1 == x) = true := by simpa using hz
        clear hz HS HQ'
        go_wp2_with fail
        go_ret
        exact ⟨by rw [HE.out]; rfl, bch HHB.out hbw.out⟩
      · have HNX : Hid (∀ j, j < k + 1 → (atM9 c.mem j).1 ≠ x) := fun j hj => HS.out j hj hz
        have e1 : (z1 == x) = false := by simpa using hz
        clear hz HS HQ'
        go_wp2_with fail
        go_roundw
        case rel => exact ⟨k + 1, by omega, by go_num, hbw.out, HNX⟩
        case measure => simp [intOf]; omega
    · have hke : k = n := by omega
      subst hke
      have HE : Hid (R = -1) := HNO.out (fun j hj => hno.out j (by rw [HN.out]; exact hj))
      go_wp2_with fail
      go_ret
      exact ⟨by rw [HE.out]; rfl, bch HHB.out hbw.out⟩
end Go.Proofs.Ytndkmepdnekigaa
