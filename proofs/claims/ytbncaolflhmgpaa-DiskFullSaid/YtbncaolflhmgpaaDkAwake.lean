import Derived.Test.YtbncaolflhmgpaaDkRef
import Derived.Test.YtbncaolflhmgpaaGPick
import Derived.Deep.DeepCutAuto
/-
  The contracts of the law package's own 'small' and 'awake' (stage 7).
-/
namespace Go.Proofs.Ytbncaolflhmgpaa
open Go.RowKit
set_option linter.unusedVariables false

theorem leastD (T : ByteArray) (k : Nat) : ∃ m : Nat, (if (k : Int) < (T.size : Int) then (k : Int) else (T.size : Int)) = (m : Int) ∧ m ≤ T.size ∧ m ≤ k := by
  by_cases h : (k : Int) < (T.size : Int)
  · exact ⟨k, by rw [if_pos h], by omega, by omega⟩
  · exact ⟨T.size, by rw [if_neg h], by omega, by omega⟩
/-- A disk of texts that are not long: what small leaves. -/
def SmallPost (w : World) (e : Ending) (w' : World) : Prop :=
  ∃ a b c : ByteArray, e = .returned (.agg #[.string a, .string b, .string c]) ∧ a.size ≤ 3000 ∧ b.size ≤ 3000 ∧ c.size ≤ 3000 ∧ Below w.heap.size w w'

set_option maxRecDepth 100000 in
set_option maxHeartbeats 4000000 in
theorem small_any (x y z : ByteArray) (hx : x.size ≤ 140737488355328) (hy : y.size ≤ 140737488355328) (hz : z.size ≤ 140737488355328) (w : World) :
    Calls Try.prog 9 #[.agg #[.string x, .string y, .string z]] w (SmallPost w) := by
  obtain ⟨m0, i0', k0, l0⟩ := leastD x 3000
  have i0 : (if (3000 : Int) < (x.size : Int) then (3000 : Int) else (x.size : Int)) = (m0 : Int) := i0'
  clear i0'
  obtain ⟨m1, i1', k1, l1⟩ := leastD y 3000
  have i1 : (if (3000 : Int) < (y.size : Int) then (3000 : Int) else (y.size : Int)) = (m1 : Int) := i1'
  clear i1'
  obtain ⟨m2, i2', k2, l2⟩ := leastD z 3000
  have i2 : (if (3000 : Int) < (z.size : Int) then (3000 : Int) else (z.size : Int)) = (m2 : Int) := i2'
  clear i2'
  obtain ⟨a, ha⟩ : ∃ a, x.extract 0 m0 = a := ⟨_, rfl⟩
  obtain ⟨b, hb⟩ : ∃ a, y.extract 0 m1 = a := ⟨_, rfl⟩
  obtain ⟨c, hc⟩ : ∃ a, z.extract 0 m2 = a := ⟨_, rfl⟩
  have za : a.size ≤ 3000 := by rw [← ha, ext_size x k0]; exact l0
  have zb : b.size ≤ 3000 := by rw [← hb, ext_size y k1]; exact l1
  have zc : c.size ≤ 3000 := by rw [← hc, ext_size z k2]; exact l2
  have s0 := fun W => slice_to ha k0 W
  have s1 := fun W => slice_to hb k1 W
  have s2 := fun W => slice_to hc k2 W
  have HZ : Hid (a.size ≤ 3000 ∧ b.size ≤ 3000 ∧ c.size ≤ 3000) := ⟨za, zb, zc⟩
  clear ha hb hc za zb zc l0 l1 l2
  have j0 : (m0 : Int) ≤ (x.size : Int) := by omega
  have j1 : (m1 : Int) ≤ (y.size : Int) := by omega
  have j2 : (m2 : Int) ≤ (z.size : Int) := by omega
  have hb0 : Below w.heap.size w ((w.alloc (.cells #[.string x, .string y, .string z] 23)).alloc (.cells #[.string ⟨#[]⟩, .string ⟨#[]⟩, .string ⟨#[]⟩] 23)) := ((Below.refl _ _).alloc (Nat.le_refl _) _).alloc (by simp) _
  have hg : DkBlk ((w.alloc (.cells #[.string x, .string y, .string z] 23)).alloc (.cells #[.string ⟨#[]⟩, .string ⟨#[]⟩, .string ⟨#[]⟩] 23)) w.heap.size x y z := (DkBlk.new w x y z).below ((Below.refl _ _).alloc (Nat.le_refl _) _)
  have hx : DkBlk ((w.alloc (.cells #[.string x, .string y, .string z] 23)).alloc (.cells #[.string ⟨#[]⟩, .string ⟨#[]⟩, .string ⟨#[]⟩] 23)) (w.heap.size + 1) ⟨#[]⟩ ⟨#[]⟩ ⟨#[]⟩ := by
    have h := DkBlk.new (w.alloc (.cells #[.string x, .string y, .string z] 23)) ⟨#[]⟩ ⟨#[]⟩ ⟨#[]⟩
    rw [World.size_alloc] at h
    exact h
  obtain ⟨W0, hW0⟩ : ∃ W, (w.alloc (.cells #[.string x, .string y, .string z] 23)).alloc (.cells #[.string ⟨#[]⟩, .string ⟨#[]⟩, .string ⟨#[]⟩] 23) = W := ⟨_, rfl⟩
  rw [hW0] at hb0 hg hx
  have HB0 := Lib.hid hb0; clear hb0
  have HG := Lib.hid hg; clear hg
  have HX := Lib.hid hx; clear hx
  go_enter Try.func9, Try.ntmps9
  go_wp2_with fail
  refine wp_region_noPanic ?_
  refine wp_region_held_drew (S := fun W => Below w.heap.size w W ∧ DkBlk W w.heap.size x y z) (by kernel_rfl) (⟨HB0.out.drew, HG.out.drew⟩) (fun hHeld => ?_)
  have hxe := HX.out.drew
  obtain ⟨W1, hW1⟩ : ∃ W, W0.drew = W := ⟨_, rfl⟩
  rw [hW1] at hHeld hxe ⊢
  clear hW1
  refine wpAnyH_take (i := 0) (v := ?_) rfl (by kernel_rfl) (by kernel_rfl) (by kernel_rfl) (fun _ _ _ h => h) (Or.inl ⟨by rfl, ?_⟩) (by assumption) ?_
  rotate_left
  · (intro w hSw; (try dsimp only at hSw); go_simp; (try with_reducible rfl))
  simp only [Act.put, List.getElem_toArray, List.getElem_cons_zero, List.setIfInBounds_toArray, List.set_cons_zero, List.set_cons_succ]
  refine wpAnyH_take (i := 1) (v := ?_) rfl (by kernel_rfl) (by kernel_rfl) (by kernel_rfl) (fun _ _ _ h => h) (Or.inl ⟨by rfl, ?_⟩) (by assumption) ?_
  rotate_left
  · (intro w hSw; (try dsimp only at hSw); obtain ⟨c0, c1, c2⟩ := hSw.2.cells; go_simp; (try with_reducible rfl))
  simp only [Act.put, List.getElem_toArray, List.getElem_cons_zero, List.getElem_cons_succ, List.setIfInBounds_toArray, List.set_cons_zero, List.set_cons_succ]
  refine wpAnyH_take (i := 2) (v := ?_) rfl (by kernel_rfl) (by kernel_rfl) (by kernel_rfl) (fun _ _ _ h => h) (Or.inl ⟨by rfl, ?_⟩) (by assumption) ?_
  rotate_left
  · (intro w hSw; (try dsimp only at hSw); go_simp; (try with_reducible rfl))
  simp only [Act.put, List.getElem_toArray, List.getElem_cons_zero, List.getElem_cons_succ, List.setIfInBounds_toArray, List.set_cons_zero, List.set_cons_succ]
  refine wpAnyH_take (i := 3) (v := ?_) rfl (by kernel_rfl) (by kernel_rfl) (by kernel_rfl) (fun _ _ _ h => h) (Or.inl ⟨by rfl, ?_⟩) (by assumption) ?_
  rotate_left
  · (intro w hSw; (try dsimp only at hSw); obtain ⟨c0, c1, c2⟩ := hSw.2.cells; go_simp; (try with_reducible rfl))
  simp only [Act.put, List.getElem_toArray, List.getElem_cons_zero, List.getElem_cons_succ, List.setIfInBounds_toArray, List.set_cons_zero, List.set_cons_succ]
  refine wpAnyH_take (i := 4) (v := ?_) rfl (by kernel_rfl) (by kernel_rfl) (by kernel_rfl) (fun _ _ _ h => h) (Or.inl ⟨by rfl, ?_⟩) (by assumption) ?_
  rotate_left
  · (intro w hSw; (try dsimp only at hSw); go_simp; (try with_reducible rfl))
  simp only [Act.put, List.getElem_toArray, List.getElem_cons_zero, List.getElem_cons_succ, List.setIfInBounds_toArray, List.set_cons_zero, List.set_cons_succ]
  refine wpAnyH_take (i := 5) (v := ?_) rfl (by kernel_rfl) (by kernel_rfl) (by kernel_rfl) (fun _ _ _ h => h) (Or.inl ⟨by rfl, ?_⟩) (by assumption) ?_
  rotate_left
  · (intro w hSw; (try dsimp only at hSw); go_simp; (try with_reducible rfl))
  simp only [Act.put, List.getElem_toArray, List.getElem_cons_zero, List.getElem_cons_succ, List.setIfInBounds_toArray, List.set_cons_zero, List.set_cons_succ]
  refine wpAnyH_take (i := 6) (v := ?_) rfl (by kernel_rfl) (by kernel_rfl) (by kernel_rfl) (fun _ _ _ h => h) (Or.inl ⟨by rfl, ?_⟩) (by assumption) ?_
  rotate_left
  · (intro w hSw; (try dsimp only at hSw); go_simp; (try with_reducible rfl))
  simp only [Act.put, List.getElem_toArray, List.getElem_cons_zero, List.getElem_cons_succ, List.setIfInBounds_toArray, List.set_cons_zero, List.set_cons_succ]
  refine wpAnyH_take (i := 7) (v := ?_) rfl (by kernel_rfl) (by kernel_rfl) (by kernel_rfl) (fun _ _ _ h => h) (Or.inl ⟨by rfl, ?_⟩) (by assumption) ?_
  rotate_left
  · (intro w hSw; (try dsimp only at hSw); go_simp; (try with_reducible rfl))
  simp only [Act.put, List.getElem_toArray, List.getElem_cons_zero, List.getElem_cons_succ, List.setIfInBounds_toArray, List.set_cons_zero, List.set_cons_succ]
  refine wpAnyH_take (i := 8) (v := ?_) rfl (by kernel_rfl) (by kernel_rfl) (by kernel_rfl) (fun _ _ _ h => h) (Or.inl ⟨by rfl, ?_⟩) (by assumption) ?_
  rotate_left
  · (intro w hSw; (try dsimp only at hSw); obtain ⟨c0, c1, c2⟩ := hSw.2.cells; go_simp; (try with_reducible rfl))
  simp only [Act.put, List.getElem_toArray, List.getElem_cons_zero, List.getElem_cons_succ, List.setIfInBounds_toArray, List.set_cons_zero, List.set_cons_succ]
  refine wpAnyH_take (i := 9) (v := ?_) rfl (by kernel_rfl) (by kernel_rfl) (by kernel_rfl) (fun _ _ _ h => h) (Or.inl ⟨by rfl, ?_⟩) (by assumption) ?_
  rotate_left
  · (intro w hSw; (try dsimp only at hSw); go_simp; (try with_reducible rfl))
  simp only [Act.put, List.getElem_toArray, List.getElem_cons_zero, List.getElem_cons_succ, List.setIfInBounds_toArray, List.set_cons_zero, List.set_cons_succ]
  refine wpAnyH_take (i := 10) (v := ?_) rfl (by kernel_rfl) (by kernel_rfl) (by kernel_rfl) (fun _ _ _ h => h) (Or.inl ⟨by rfl, ?_⟩) (by assumption) ?_
  rotate_left
  · (intro w hSw; (try dsimp only at hSw); obtain ⟨c0, c1, c2⟩ := hSw.2.cells; go_simp; (try with_reducible rfl))
  simp only [Act.put, List.getElem_toArray, List.getElem_cons_zero, List.getElem_cons_succ, List.setIfInBounds_toArray, List.set_cons_zero, List.set_cons_succ]
  refine wpAnyH_take (i := 11) (v := ?_) rfl (by kernel_rfl) (by kernel_rfl) (by kernel_rfl) (fun _ _ _ h => h) (Or.inl ⟨by rfl, ?_⟩) (by assumption) ?_
  rotate_left
  · (intro w hSw; (try dsimp only at hSw); go_simp; (try with_reducible rfl))
  simp only [Act.put, List.getElem_toArray, List.getElem_cons_zero, List.getElem_cons_succ, List.setIfInBounds_toArray, List.set_cons_zero, List.set_cons_succ]
  refine wpAnyH_take (i := 12) (v := ?_) rfl (by kernel_rfl) (by kernel_rfl) (by kernel_rfl) (fun _ _ _ h => h) (Or.inl ⟨by rfl, ?_⟩) (by assumption) ?_
  rotate_left
  · (intro w hSw; (try dsimp only at hSw); go_simp; (try with_reducible rfl))
  simp only [Act.put, List.getElem_toArray, List.getElem_cons_zero, List.getElem_cons_succ, List.setIfInBounds_toArray, List.set_cons_zero, List.set_cons_succ]
  refine wpAnyH_take (i := 13) (v := ?_) rfl (by kernel_rfl) (by kernel_rfl) (by kernel_rfl) (fun _ _ _ h => h) (Or.inl ⟨by rfl, ?_⟩) (by assumption) ?_
  rotate_left
  · (intro w hSw; (try dsimp only at hSw); go_simp; (try with_reducible rfl))
  simp only [Act.put, List.getElem_toArray, List.getElem_cons_zero, List.getElem_cons_succ, List.setIfInBounds_toArray, List.set_cons_zero, List.set_cons_succ]
  refine wpAnyH_take (i := 14) (v := ?_) rfl (by kernel_rfl) (by kernel_rfl) (by kernel_rfl) (fun _ _ _ h => h) (Or.inl ⟨by rfl, ?_⟩) (by assumption) ?_
  rotate_left
  · (intro w hSw; (try dsimp only at hSw); go_simp; (try with_reducible rfl))
  simp only [Act.put, List.getElem_toArray, List.getElem_cons_zero, List.getElem_cons_succ, List.setIfInBounds_toArray, List.set_cons_zero, List.set_cons_succ]
  refine wpAnyH_take (i := 15) (v := ?_) rfl (by kernel_rfl) (by kernel_rfl) (by kernel_rfl) (fun _ _ _ h => h) (Or.inl ⟨by rfl, ?_⟩) (by assumption) ?_
  rotate_left
  · (intro w hSw; (try dsimp only at hSw); obtain ⟨c0, c1, c2⟩ := hSw.2.cells; go_simp; (try with_reducible rfl))
  simp only [Act.put, List.getElem_toArray, List.getElem_cons_zero, List.getElem_cons_succ, List.setIfInBounds_toArray, List.set_cons_zero, List.set_cons_succ]
  refine wpAnyH_take (i := 16) (v := ?_) rfl (by kernel_rfl) (by kernel_rfl) (by kernel_rfl) (fun _ _ _ h => h) (Or.inl ⟨by rfl, ?_⟩) (by assumption) ?_
  rotate_left
  · (intro w hSw; (try dsimp only at hSw); go_simp; (try with_reducible rfl))
  simp only [Act.put, List.getElem_toArray, List.getElem_cons_zero, List.getElem_cons_succ, List.setIfInBounds_toArray, List.set_cons_zero, List.set_cons_succ]
  refine wpAnyH_take (i := 17) (v := ?_) rfl (by kernel_rfl) (by kernel_rfl) (by kernel_rfl) (fun _ _ _ h => h) (Or.inl ⟨by rfl, ?_⟩) (by assumption) ?_
  rotate_left
  · (intro w hSw; (try dsimp only at hSw); obtain ⟨c0, c1, c2⟩ := hSw.2.cells; go_simp; (try with_reducible rfl))
  simp only [Act.put, List.getElem_toArray, List.getElem_cons_zero, List.getElem_cons_succ, List.setIfInBounds_toArray, List.set_cons_zero, List.set_cons_succ]
  refine wpAnyH_take (i := 18) (v := ?_) rfl (by kernel_rfl) (by kernel_rfl) (by kernel_rfl) (fun _ _ _ h => h) (Or.inl ⟨by rfl, ?_⟩) (by assumption) ?_
  rotate_left
  · (intro w hSw; (try dsimp only at hSw); go_simp; (try with_reducible rfl))
  simp only [Act.put, List.getElem_toArray, List.getElem_cons_zero, List.getElem_cons_succ, List.setIfInBounds_toArray, List.set_cons_zero, List.set_cons_succ]
  refine wpAnyH_take (i := 19) (v := ?_) rfl (by kernel_rfl) (by kernel_rfl) (by kernel_rfl) (fun _ _ _ h => h) (Or.inl ⟨by rfl, ?_⟩) (by assumption) ?_
  rotate_left
  · (intro w hSw; (try dsimp only at hSw); go_simp; (try with_reducible rfl))
  simp only [Act.put, List.getElem_toArray, List.getElem_cons_zero, List.getElem_cons_succ, List.setIfInBounds_toArray, List.set_cons_zero, List.set_cons_succ]
  refine wpAnyH_take (i := 20) (v := ?_) rfl (by kernel_rfl) (by kernel_rfl) (by kernel_rfl) (fun _ _ _ h => h) (Or.inl ⟨by rfl, ?_⟩) (by assumption) ?_
  rotate_left
  · (intro w hSw; (try dsimp only at hSw); go_simp; (try with_reducible rfl))
  simp only [Act.put, List.getElem_toArray, List.getElem_cons_zero, List.getElem_cons_succ, List.setIfInBounds_toArray, List.set_cons_zero, List.set_cons_succ]
  refine wpAnyH_take (i := 21) (v := ?_) rfl (by kernel_rfl) (by kernel_rfl) (by kernel_rfl) (fun _ _ _ h => h) (Or.inl ⟨by rfl, ?_⟩) (by assumption) ?_
  rotate_left
  · (intro w hSw; (try dsimp only at hSw); go_simp; (try with_reducible rfl))
  simp only [Act.put, List.getElem_toArray, List.getElem_cons_zero, List.getElem_cons_succ, List.setIfInBounds_toArray, List.set_cons_zero, List.set_cons_succ]
  obtain ⟨d0, d1, d2⟩ := hxe.cells
  have f0 := hxe.frozen 0
  have f1 := hxe.frozen 1
  have f2 := hxe.frozen 2
  have HXE := Lib.hid hxe; clear hxe
  refine wpAnyH_ready (rs := [22]) (by kernel_rfl) (by simp) ?_
  refine AllReadyH.cons rfl (fun K hK => ?_) AllReadyH.nil
  rw [if_pos (by rfl)]
  go_simp
  refine hK.out _ _ (⟨((hHeld.1.setCell (p := ⟨w.heap.size + 1, 0, none⟩) (Nat.le_succ _) _).setCell (p := ⟨w.heap.size + 1, 1, none⟩) (Nat.le_succ _) _).setCell (p := ⟨w.heap.size + 1, 2, none⟩) (Nat.le_succ _) _, ((hHeld.2.far (by omega) _ _).far (by omega) _ _).far (by omega) _ _⟩) (fun hHeld2 => ?_)
  clear hK K hHeld
  have hHeld := hHeld2; clear hHeld2
  refine wpAnyH_done (by kernel_rfl) ?_ _
  refine NoPanic.normal ?_
  have hfin := HXE.out.put a b c
  obtain ⟨e0, e1, e2⟩ := hfin.cells
  have hbf := hHeld.1
  clear d0 d1 d2 hHeld
  go_wp2_with fail
  refine bodyPost_ret (v := .agg #[.string a, .string b, .string c]) (by simp [results, Try.results9, go_sem, e0, e1, e2]) rfl ⟨a, b, c, rfl, HZ.out.1, HZ.out.2.1, HZ.out.2.2, hbf⟩

theorem bytes_eq {a b : ByteArray} (h : a.data.toList = b.data.toList) : a = b := by
  cases a; cases b
  simp only [ByteArray.mk.injEq]
  exact Array.ext' h
set_option maxRecDepth 100000 in
set_option maxHeartbeats 4000000 in
theorem awake7_any (hL : LogC) (hA : AppC) (hY : SyncC) (hC : CrashC) (hS : SwapC) (w : World) :
    Calls Try.prog 8 #[] w fun e w' => e = .returned (.bool true) ∧ Below w.heap.size w w' := by
  have q1 := fun W => hA.ok (a := ⟨#[120]⟩) (b := ⟨#[]⟩) (c := ⟨#[]⟩) (s := ⟨#[97, 98]⟩) (x := ⟨#[97, 98]⟩) (bytes_eq (by simp)) (by decide) W
  have q2 := fun W => hY.at (a := ⟨#[120]⟩) (b := ⟨#[]⟩) (c := ⟨#[97, 98]⟩) (x := ⟨#[97, 98]⟩) (bytes_eq (by simp)) (by decide) (by decide) W
  have q3 := fun W => hA.ok (a := ⟨#[120]⟩) (b := ⟨#[97, 98]⟩) (c := ⟨#[]⟩) (s := ⟨#[99, 100]⟩) (x := ⟨#[99, 100]⟩) (bytes_eq (by simp)) (by decide) W
  have q4 := fun W => hS.ok (a := ⟨#[120]⟩) (b := ⟨#[97, 98]⟩) (c := ⟨#[99, 100]⟩) (s := ⟨#[121]⟩) (by decide) W
  have q5 := fun W => hC.at (a := ⟨#[120]⟩) (b := ⟨#[97, 98]⟩) (c := ⟨#[99, 100]⟩) (x := ⟨#[97, 98, 99]⟩) (k := 1) (by decide) (by decide) (by decide) (by decide) W
  have q6 := fun W => hL.at (a := ⟨#[120]⟩) (b := ⟨#[97, 98, 99]⟩) (c := ⟨#[]⟩) (x := ⟨#[97, 98, 99]⟩) (bytes_eq (by simp)) (by decide) (by decide) W
  have q7 := fun W => hC.at (a := ⟨#[120]⟩) (b := ⟨#[]⟩) (c := ⟨#[97, 98]⟩) (x := ⟨#[]⟩) (k := -1) (by decide) (by decide) (by decide) (by decide) W
  have q8 := fun W => hL.at (a := ⟨#[120]⟩) (b := ⟨#[]⟩) (c := ⟨#[]⟩) (x := ⟨#[]⟩) (bytes_eq (by simp)) (by decide) (by decide) W
  have q9 := fun W => hL.at (a := ⟨#[120]⟩) (b := ⟨#[97, 98]⟩) (c := ⟨#[99, 100]⟩) (x := ⟨#[97, 98, 99, 100]⟩) (bytes_eq (by simp)) (by decide) (by decide) W
  have eq1 := eqDk_same ⟨#[120]⟩ ⟨#[97, 98]⟩ ⟨#[99, 100]⟩
  have eq2 := eqDk_same ⟨#[121]⟩ ⟨#[]⟩ ⟨#[]⟩
  have hgu := guardDk
  clear hL hA hY hC hS
  go_enter Try.func8, Try.ntmps8
  go_wp2_with fail
  ((with_reducible refine (q1 _).mono ?_); rintro e W1 ⟨rfl, b1⟩)
  have B1 := b1.alloc b1.size (.cells #[.string ⟨#[120]⟩, .string ⟨#[]⟩, .string ⟨#[97, 98]⟩] 23)
  have h1 := DkBlk.new W1 ⟨#[120]⟩ ⟨#[]⟩ ⟨#[97, 98]⟩
  obtain ⟨V1, hV1⟩ : ∃ W, W1.alloc (.cells #[.string ⟨#[120]⟩, .string ⟨#[]⟩, .string ⟨#[97, 98]⟩] 23) = W := ⟨_, rfl⟩
  rw [hV1] at B1 h1
  obtain ⟨c0, c1, c2⟩ := h1.cells
  have H1 := Lib.hid h1; clear h1 b1
  have HB1 := Lib.hid B1; clear B1
  go_wp2_with fail
  ((with_reducible refine (q2 _).mono ?_); rintro e W2 ⟨rfl, b2⟩)
  clear c0 c1 c2
  have HB2 := Lib.hid (bch HB1.out b2)
  have H2 := Lib.hid (H1.out.below b2)
  clear b2
  go_wp2_with fail
  ((with_reducible refine (q3 _).mono ?_); rintro e W3 ⟨rfl, b3⟩)
  have B3 := (bch HB2.out b3).alloc (bch HB2.out b3).size (.cells #[.string ⟨#[120]⟩, .string ⟨#[97, 98]⟩, .string ⟨#[99, 100]⟩] 23)
  have h3 := DkBlk.new W3 ⟨#[120]⟩ ⟨#[97, 98]⟩ ⟨#[99, 100]⟩
  have h3a := (H2.out.below b3).below ((Below.refl _ _).alloc (Nat.le_refl _) (.cells #[.string ⟨#[120]⟩, .string ⟨#[97, 98]⟩, .string ⟨#[99, 100]⟩] 23))
  obtain ⟨V3, hV3⟩ : ∃ W, W3.alloc (.cells #[.string ⟨#[120]⟩, .string ⟨#[97, 98]⟩, .string ⟨#[99, 100]⟩] 23) = W := ⟨_, rfl⟩
  rw [hV3] at B3 h3 h3a
  obtain ⟨c0, c1, c2⟩ := h3.cells
  have H3 := Lib.hid h3; clear h3 b3
  have H3A := Lib.hid h3a; clear h3a
  have HB3 := Lib.hid B3; clear B3
  go_wp2_with fail
  ((with_reducible refine (q4 _).mono ?_); rintro e W4 ⟨rfl, b4⟩)
  clear c0 c1 c2
  have B4 := (bch HB3.out b4).alloc (bch HB3.out b4).size (.cells #[.string ⟨#[121]⟩, .string ⟨#[]⟩, .string ⟨#[]⟩] 23)
  have h4 := DkBlk.new W4 ⟨#[121]⟩ ⟨#[]⟩ ⟨#[]⟩
  have h4a := (H3A.out.below b4).below ((Below.refl _ _).alloc (Nat.le_refl _) (.cells #[.string ⟨#[121]⟩, .string ⟨#[]⟩, .string ⟨#[]⟩] 23))
  have h4b := (H3.out.below b4).below ((Below.refl _ _).alloc (Nat.le_refl _) (.cells #[.string ⟨#[121]⟩, .string ⟨#[]⟩, .string ⟨#[]⟩] 23))
  go_upto_region 4 with fail
  obtain ⟨V4, hV4⟩ : ∃ W, W4.alloc (.cells #[.string ⟨#[121]⟩, .string ⟨#[]⟩, .string ⟨#[]⟩] 23) = W := ⟨_, rfl⟩
  rw [hV4] at B4 h4 h4a h4b
  rw [hV4]
  clear hV4
  obtain ⟨c0, c1, c2⟩ := h4b.cells
  have H4 := Lib.hid h4; clear h4 b4
  have H4A := Lib.hid h4a; clear h4a
  have H4B := Lib.hid h4b; clear h4b
  have HB4 := Lib.hid B4; clear B4
  go_wp2_with fail
  ((with_reducible refine (q5 _).mono ?_); rintro e W5 ⟨rfl, b5⟩)
  clear c0 c1 c2
  go_wp2_with fail
  ((with_reducible refine (q6 _).mono ?_); rintro e W6 ⟨rfl, b6⟩)
  have b56 := bch b5 b6
  obtain ⟨c0, c1, c2⟩ := (H4A.out.below b56).cells
  clear b5 b6
  have HB6 := Lib.hid b56; clear b56
  go_wp2_with fail
  ((with_reducible refine (q7 _).mono ?_); rintro e W7 ⟨rfl, b7⟩)
  clear c0 c1 c2
  go_wp2_with fail
  ((with_reducible refine (q8 _).mono ?_); rintro e W8 ⟨rfl, b8⟩)
  have b58 := bch (bch HB6.out b7) b8
  obtain ⟨c0, c1, c2⟩ := (H4B.out.below b58).cells
  clear b7 b8
  have HB8 := Lib.hid b58; clear b58
  go_wp2_with fail
  ((with_reducible refine (q9 _).mono ?_); rintro e W9 ⟨rfl, b9⟩)
  clear c0 c1 c2
  have b59 := bch HB8.out b9
  obtain ⟨c0, c1, c2⟩ := (H4B.out.below b59).cells
  obtain ⟨d0, d1, d2⟩ := (H4.out.below b59).cells
  clear b9
  have HB9 := Lib.hid b59; clear b59
  go_wp2_with fail
  go_ret
  exact ⟨rfl, bch HB4.out HB9.out⟩
end Go.Proofs.Ytbncaolflhmgpaa
