import Derived.Test.YtgckoihangccbaaRpAnsM
import Derived.Deep.DeepCutAuto
/-
  The contract of the law package's own Answer (stage 13): a reply of raw numbers.
-/
namespace Go.Proofs.Ytgckoihangccbaa
open Go.RowKit
set_option linter.unusedVariables false
set_option linter.unusedSimpArgs false

theorem er_tab13 {W : World} {g p : Nat} (h : Blk W g (.cells #[.int .i64 0, .int .i64 0, .int .i64 70, .int .i64 71] 28 (0, 0))) (hp : p < 4) : W.cell? ⟨g, p, none⟩ = some (.int .i64 (erN13 p : Int)) := by
  rcases (by omega : p = 0 ∨ p = 1 ∨ p = 2 ∨ p = 3) with rfl | rfl | rfl | rfl <;> exact Blk.cell h _
theorem va_tab13 {W : World} {g p : Nat} (h : Blk W g (.cells #[.string ⟨#[]⟩, .string ⟨#[120]⟩, .string ⟨#[121, 121]⟩] 9 (0, 0))) (hp : p < 3) : W.cell? ⟨g, p, none⟩ = some (.string (vaK13 p)) := by
  rcases (by omega : p = 0 ∨ p = 1 ∨ p = 2) with rfl | rfl | rfl <;> exact Blk.cell h _
theorem key_is13 {W : World} {g v : Nat} (h : Blk W g (.cells #[.string ⟨#[97]⟩, .string ⟨#[98, 111, 98]⟩] 9 (0, 0))) (hv : v < 3) : IsSs W (some ⟨g, 0, none⟩) v (keK13.take v) := by
  refine ⟨by rw [List.length_take]; unfold keK13; simp; omega, by unfold maxLen; omega, fun s hs => ?_, fun _ => ⟨g, 0, rfl, Blk.lt h, fun i hi => ?_⟩⟩
  · have := List.mem_of_mem_take hs
    unfold keK13 at this
    simp at this
    rcases this with rfl | rfl <;> (unfold maxLen; decide)
  · rw [List.length_take] at hi
    unfold keK13 at hi ⊢
    simp only [List.length_cons, List.length_nil] at hi
    rcases (by omega : (v = 1 ∧ i = 0) ∨ (v = 2 ∧ i = 0) ∨ (v = 2 ∧ i = 1)) with ⟨rfl, rfl⟩ | ⟨rfl, rfl⟩ | ⟨rfl, rfl⟩ <;> exact Blk.cell h _
theorem wpAnyH_mono13 {P : Program} {md : Region.Mode} {ops : Array Oper} {Q : Exit → Act → World → Prop} {S S' : World → Prop} (hss : ∀ W, S' W → S W) : ∀ (fuel : Nat) (listed : Array Bool) (a : Act) (w : World), wpAnyH P md ops Q S' fuel listed a w → wpAnyH P md ops Q S fuel listed a w
  | 0, _, _, _, h => h
  | fuel + 1, listed, a, w, h => ⟨h.1, fun i hi => wpOp_mono (fun a' w' h' => ⟨hss _ h'.1, wpAnyH_mono13 hss fuel _ a' w' h'.2⟩) (h.2 i hi)⟩
theorem wpAnyH_at13 {P : Program} {md : Region.Mode} {ops : Array Oper} {Q : Exit → Act → World → Prop} {S : World → Prop} {f f' : Nat} {l l' : Array Bool} {a : Act} {w : World} (hl : l = l') (hf : f = f') (h : wpAnyH P md ops Q S f' l' a w) : wpAnyH P md ops Q S f l a w := by subst hl; subst hf; exact h
theorem wpAnyH_cut13 {P : Program} {md : Region.Mode} {ops : Array Oper} {Q : Exit → Act → World → Prop} {S : World → Prop} {f : Nat} {l : Array Bool} {a : Act} {w : World} (S' : Nat → Nat → World → Prop) (H : Nat → World → Prop) (f' : Nat) (l' : Array Bool) (a' : Nat → Nat → Nat → Act)
    (ht : ∀ g0 g9 g16 V, S' g0 g9 V → H g16 V → wpAnyH P md ops Q (S' g0 g9) f' l' (a' g0 g9 g16) V)
    (h : (∀ g0 g9 g16 V, S' g0 g9 V → H g16 V → wpAnyH P md ops Q (S' g0 g9) f' l' (a' g0 g9 g16) V) → wpAnyH P md ops Q S f l a w) : wpAnyH P md ops Q S f l a w := h ht
theorem wpAnyH_name13 {P : Program} {md : Region.Mode} {ops : Array Oper} {Q : Exit → Act → World → Prop} {S : World → Prop} {fuel : Nat} {listed : Array Bool} {a : Act} {w : World} (h : ∀ V, S V → wpAnyH P md ops Q S fuel listed a V) (hw : S w) : wpAnyH P md ops Q S fuel listed a w := h w hw
set_option maxRecDepth 100000 in
set_option maxHeartbeats 8000000 in
theorem answer_any (a : Nat → Int) (ha : ∀ j, j < 3 → (Lit.int .i64 (a j)).wf = true) (w : World) :
    Calls Try.prog 10 #[threeV a] w (OwnR13 w (ansR a)) := by
  have hbw : Below w.heap.size w ((w.alloc (.cells #[.int .i64 (a 0), .int .i64 (a 1), .int .i64 (a 2)] 23)).alloc (.cells #[.int .i64 0, .int .i64 0, .string ⟨#[]⟩, .slice none 0 0] 31)) := ((Below.refl _ _).alloc (Nat.le_refl _) _).alloc (by simp) _
  have hraw : Blk ((w.alloc (.cells #[.int .i64 (a 0), .int .i64 (a 1), .int .i64 (a 2)] 23)).alloc (.cells #[.int .i64 0, .int .i64 0, .string ⟨#[]⟩, .slice none 0 0] 31)) w.heap.size (.cells #[.int .i64 (a 0), .int .i64 (a 1), .int .i64 (a 2)] 23 (0, 0)) := Blk.below (Blk.new w (.cells #[.int .i64 (a 0), .int .i64 (a 1), .int .i64 (a 2)] 23)) ((Below.refl _ _).alloc (Nat.le_refl _) _)
  have hres : Blk ((w.alloc (.cells #[.int .i64 (a 0), .int .i64 (a 1), .int .i64 (a 2)] 23)).alloc (.cells #[.int .i64 0, .int .i64 0, .string ⟨#[]⟩, .slice none 0 0] 31)) (w.heap.size + 1) (.cells #[.int .i64 0, .int .i64 0, .string ⟨#[]⟩, .slice none 0 0] 31 (0, 0)) := by have h := Blk.new (w.alloc (.cells #[.int .i64 (a 0), .int .i64 (a 1), .int .i64 (a 2)] 23)) (.cells #[.int .i64 0, .int .i64 0, .string ⟨#[]⟩, .slice none 0 0] 31); rw [World.size_alloc] at h; exact h
  obtain ⟨W1, hW1⟩ : ∃ W, (w.alloc (.cells #[.int .i64 (a 0), .int .i64 (a 1), .int .i64 (a 2)] 23)).alloc (.cells #[.int .i64 0, .int .i64 0, .string ⟨#[]⟩, .slice none 0 0] 31) = W := ⟨_, rfl⟩
  rw [hW1] at hbw hraw hres
  have Z0 := Lib.hid (Blk.cell hraw 0)
  have Z1 := Lib.hid (Blk.cell hraw 1)
  have Z2 := Lib.hid (Blk.cell hraw 2)
  simp only [List.getElem?_toArray, List.getElem?_cons_zero, List.getElem?_cons_succ] at Z0 Z1 Z2
  have hltB := Blk.lt hraw
  have HRES := Lib.hid hres; clear hres
  have HRAW := Lib.hid hraw; clear hraw
  have HBW := Lib.hid hbw; clear hbw
  have HW1 := Lib.hid hW1
  clear hW1
  obtain ⟨R, hR⟩ : ∃ R, ansR a = R := ⟨_, rfl⟩
  rw [hR]
  unfold ansR at hR
  have q0 := fun W => pickN13_nat (a 0) 4 (by omega) (by omega) (ha 0 (by omega)) W
  have q1 := fun W => pickN13_nat (a 1) 300 (by omega) (by omega) (ha 1 (by omega)) W
  have q2 := fun W => pickN13_nat (a 2) 3 (by omega) (by omega) (ha 2 (by omega)) W
  have q5 := fun W => pickN13_nat (a 0) 5 (by omega) (by omega) (ha 0 (by omega)) W
  have hp : pickN (a 0) 4 < 4 := by have := pickN_lt (a 0) 4 (by omega); omega
  have hv : pickN (a 2) 3 < 3 := by have := pickN_lt (a 2) 3 (by omega); omega
  generalize pickN (a 0) 4 = p at *
  generalize pickN (a 1) 300 = r at *
  generalize pickN (a 2) 3 = v at *
  generalize pickN (a 0) 5 = k at *
  have HR := Lib.hid hR; clear hR
  have hp0 : (0 : Int) ≤ (p : Int) := by omega
  have hp4 : (p : Int) < 4 := by omega
  have hv0 : (0 : Int) ≤ (v : Int) := by omega
  have hv3 : (v : Int) < 3 := by omega
  generalize hB : w.heap.size = B at *
  have HBE := Lib.hid hB; clear hB
  have hlt : B < W1.heap.size := hltB
  go_enter Try.func10, Try.ntmps10
  go_upto_region 1 with fail
  rw [HW1.out, HBE.out]
  clear HW1
  go_cut [3] (fun s wx => ∃ g : Nat, s = .pointer (some ⟨g, 0, none⟩) ∧ W1.heap.size ≤ g ∧ Blk wx g (.cells #[.int .i64 (erN13 p : Int), .int .i64 (r : Int), .string (vaK13 v), .slice none 0 0] 31 (0, 0)) ∧ Below W1.heap.size W1 wx)
  case first =>
    refine wp_region_noPanic ?_
    refine wp_region_held_drew (S := (fun W => Below W1.heap.size W1 W ∧ True ∧ True)) (by kernel_rfl) (⟨(Below.refl _ _).drew, trivial, trivial⟩) (fun hHeld => ?_)
    refine wpAnyH_name13 ?_ hHeld
    clear hHeld
    intro V0 hHeld
    refine wpAnyH_take (i := 1) (v := ?_) rfl (by kernel_rfl) (by kernel_rfl) (by kernel_rfl) (fun _ _ _ h => h) (Or.inl ⟨by rfl, ?_⟩) (by assumption) ?_
    rotate_left
    · (intro w hSw; (try dsimp only at hSw); go_simp; (try with_reducible rfl))
    simp only [Act.put, List.getElem_toArray, List.getElem_cons_zero, List.getElem_cons_succ, List.setIfInBounds_toArray, List.set_cons_zero, List.set_cons_succ]
    refine wpAnyH_take (i := 2) (v := ?_) rfl (by kernel_rfl) (by kernel_rfl) (by kernel_rfl) (fun _ _ _ h => h) (Or.inl ⟨by rfl, ?_⟩) (by assumption) ?_
    rotate_left
    · (intro w hSw; (try dsimp only at hSw); have xc := (hSw.1.cell (p := ⟨B, 0, none⟩) hlt).trans Z0.out; go_simp; (try with_reducible rfl))
    simp only [Act.put, List.getElem_toArray, List.getElem_cons_zero, List.getElem_cons_succ, List.setIfInBounds_toArray, List.set_cons_zero, List.set_cons_succ]
    refine wpAnyH_take (i := 6) (v := ?_) rfl (by kernel_rfl) (by kernel_rfl) (by kernel_rfl) (fun _ _ _ h => h) (Or.inl ⟨by rfl, ?_⟩) (by assumption) ?_
    rotate_left
    · (intro w hSw; (try dsimp only at hSw); go_simp; (try with_reducible rfl))
    simp only [Act.put, List.getElem_toArray, List.getElem_cons_zero, List.getElem_cons_succ, List.setIfInBounds_toArray, List.set_cons_zero, List.set_cons_succ]
    refine wpAnyH_take (i := 7) (v := ?_) rfl (by kernel_rfl) (by kernel_rfl) (by kernel_rfl) (fun _ _ _ h => h) (Or.inl ⟨by rfl, ?_⟩) (by assumption) ?_
    rotate_left
    · (intro w hSw; (try dsimp only at hSw); have xc := (hSw.1.cell (p := ⟨B, 1, none⟩) hlt).trans Z1.out; go_simp; (try with_reducible rfl))
    simp only [Act.put, List.getElem_toArray, List.getElem_cons_zero, List.getElem_cons_succ, List.setIfInBounds_toArray, List.set_cons_zero, List.set_cons_succ]
    refine wpAnyH_take (i := 10) (v := ?_) rfl (by kernel_rfl) (by kernel_rfl) (by kernel_rfl) (fun _ _ _ h => h) (Or.inl ⟨by rfl, ?_⟩) (by assumption) ?_
    rotate_left
    · (intro w hSw; (try dsimp only at hSw); go_simp; (try with_reducible rfl))
    simp only [Act.put, List.getElem_toArray, List.getElem_cons_zero, List.getElem_cons_succ, List.setIfInBounds_toArray, List.set_cons_zero, List.set_cons_succ]
    refine wpAnyH_take (i := 11) (v := ?_) rfl (by kernel_rfl) (by kernel_rfl) (by kernel_rfl) (fun _ _ _ h => h) (Or.inl ⟨by rfl, ?_⟩) (by assumption) ?_
    rotate_left
    · (intro w hSw; (try dsimp only at hSw); have xc := (hSw.1.cell (p := ⟨B, 2, none⟩) hlt).trans Z2.out; go_simp; (try with_reducible rfl))
    simp only [Act.put, List.getElem_toArray, List.getElem_cons_zero, List.getElem_cons_succ, List.setIfInBounds_toArray, List.set_cons_zero, List.set_cons_succ]
    refine wpAnyH_cut13 (fun g0 g9 => (fun W => Below W1.heap.size W1 W ∧ Blk W g0 (.cells #[.int .i64 0, .int .i64 0, .int .i64 70, .int .i64 71] 28 (0, 0)) ∧ Blk W g9 (.cells #[.string ⟨#[]⟩, .string ⟨#[120]⟩, .string ⟨#[121, 121]⟩] 9 (0, 0)))) (fun g16 V => (W1.heap.size ≤ g16 ∧ Blk V g16 (.cells #[.int .i64 0, .int .i64 0, .string ⟨#[]⟩, .slice none 0 0] 31 (0, 0)))) 1 #[true, true, true, true, true, true, true, true, true, true, true, true, true, true, true, true, true, false] (fun g0 g9 g16 => { tmps := #[threeV a, Value.pointer (some { block := B, off := 0 }), Value.pointer (some { block := B + 1, off := 0 }), Value.pointer (some { block := g16, off := 0 }), Value.slice (some { block := g0, off := 0 }) 4 4, Value.pointer (some { block := B, off := 0 }), Value.int IntKind.i64 (a 0), Value.int IntKind.i64 (p : Int), Value.pointer (some { block := g0, off := p }), Value.int IntKind.i64 (erN13 p : Int), Value.pointer (some { block := B, off := 1 }), Value.int IntKind.i64 (a 1), Value.int IntKind.i64 (r : Int), Value.slice (some { block := g9, off := 0 }) 3 3, Value.pointer (some { block := B, off := 2 }), Value.int IntKind.i64 (a 2), Value.int IntKind.i64 (v : Int), Value.pointer (some { block := g9, off := v }), Value.string (vaK13 v), Value.agg #[Value.int IntKind.i64 (erN13 p : Int), Value.int IntKind.i64 (r : Int), Value.string (vaK13 v), Value.slice none 0 0], undef, undef, undef, undef, undef, undef, undef, undef, undef, undef, undef], defers := [] }) ?_ ?_
    · clear hHeld V0
      intro g0 g9 g16 V0 hHeld hH
      (try dsimp only at hHeld); (try dsimp only at hH)
      obtain ⟨hge16, hH2⟩ := hH
      have z0 := Blk.cell hH2 0
      have z1 := Blk.cell hH2 1
      have z2 := Blk.cell hH2 2
      have z3 := Blk.cell hH2 3
      simp only [List.getElem?_toArray, List.getElem?_cons_zero, List.getElem?_cons_succ] at z0 z1 z2 z3
      have f0 := Blk.frozen hH2 0
      have f1 := Blk.frozen hH2 1
      have f2 := Blk.frozen hH2 2
      have f3 := Blk.frozen hH2 3
      have n0 : g0 ≠ g16 := fun e => by have h1 := hHeld.2.1; have h2 := hH2; rw [e] at h1; exact absurd (Eq.trans (Eq.symm h1) h2) (by simp)
      have n9 : g9 ≠ g16 := fun e => by have h1 := hHeld.2.2; have h2 := hH2; rw [e] at h1; exact absurd (Eq.trans (Eq.symm h1) h2) (by simp)
      have hfin := rp_put13 hH2 (.int .i64 (erN13 p : Int)) (.int .i64 (r : Int)) (.string (vaK13 v)) (.slice none 0 0)
      have hbel := below_four13 (g := g16) hHeld.1 hge16 (.int .i64 (erN13 p : Int)) (.int .i64 (r : Int)) (.string (vaK13 v)) (.slice none 0 0)
      refine wpAnyH_ready (rs := [17]) (by kernel_rfl) (by simp) ?_
      refine AllReadyH.cons rfl (fun K hK => ?_) AllReadyH.nil
      rw [if_pos (by rfl)]
      go_simp
      refine hK.out _ _ (⟨below_four13 hHeld.1 hge16 _ _ _ _, Blk.far (Blk.far (Blk.far (Blk.far hHeld.2.1 n0 _ _) n0 _ _) n0 _ _) n0 _ _, Blk.far (Blk.far (Blk.far (Blk.far hHeld.2.2 n9 _ _) n9 _ _) n9 _ _) n9 _ _⟩) (fun hHeld2 => ?_)
      clear hK K hHeld
      have hHeld := hHeld2; clear hHeld2
      refine wpAnyH_done (by kernel_rfl) ?_ _
      refine NoPanic.normal ?_
      go_wp2_with fail
      go_meet
      exact ⟨g16, rfl, hge16, hfin, hbel⟩
    intro T3_isr
    refine wpAnyH_cut13 (fun g0 g9 => (fun W => Below W1.heap.size W1 W ∧ Blk W g0 (.cells #[.int .i64 0, .int .i64 0, .int .i64 70, .int .i64 71] 28 (0, 0)) ∧ Blk W g9 (.cells #[.string ⟨#[]⟩, .string ⟨#[120]⟩, .string ⟨#[121, 121]⟩] 9 (0, 0)))) (fun g16 V => (W1.heap.size ≤ g16 ∧ Blk V g16 (.cells #[.int .i64 0, .int .i64 0, .string ⟨#[]⟩, .slice none 0 0] 31 (0, 0)))) 5 #[true, true, true, true, true, true, true, true, true, true, true, true, false, false, false, false, true, false] (fun g0 g9 g16 => { tmps := #[threeV a, Value.pointer (some { block := B, off := 0 }), Value.pointer (some { block := B + 1, off := 0 }), Value.pointer (some { block := g16, off := 0 }), Value.slice (some { block := g0, off := 0 }) 4 4, Value.pointer (some { block := B, off := 0 }), Value.int IntKind.i64 (a 0), Value.int IntKind.i64 (p : Int), Value.pointer (some { block := g0, off := p }), Value.int IntKind.i64 (erN13 p : Int), Value.pointer (some { block := B, off := 1 }), Value.int IntKind.i64 (a 1), Value.int IntKind.i64 (r : Int), Value.slice (some { block := g9, off := 0 }) 3 3, Value.pointer (some { block := B, off := 2 }), Value.int IntKind.i64 (a 2), undef, undef, undef, undef, undef, undef, undef, undef, undef, undef, undef, undef, undef, undef, undef], defers := [] }) ?_ ?_
    · clear hHeld V0
      intro g0 g9 g16 V0 hHeld hH
      (try dsimp only at hHeld); (try dsimp only at hH)
      refine wpAnyH_ready (rs := [12]) (by kernel_rfl) (by simp) ?_
      refine AllReadyH.cons rfl (fun K hK => ?_) AllReadyH.nil
      rw [if_pos (by rfl)]
      go_simp
      ((with_reducible refine (q2 _).mono ?_); rintro e w' ⟨rfl, rfl⟩)
      refine hK.out _ _ (hHeld) (fun hHeld2 => ?_)
      clear hK K hHeld
      have hHeld := hHeld2; clear hHeld2
      refine wpAnyH_take (i := 13) (v := ?_) rfl (by kernel_rfl) (by kernel_rfl) (by kernel_rfl) (fun _ _ _ h => h) (Or.inl ⟨by rfl, ?_⟩) (by assumption) ?_
      rotate_left
      · (intro w hSw; (try dsimp only at hSw); go_simp; (try with_reducible rfl))
      simp only [Act.put, List.getElem_toArray, List.getElem_cons_zero, List.getElem_cons_succ, List.setIfInBounds_toArray, List.set_cons_zero, List.set_cons_succ]
      refine wpAnyH_take (i := 14) (v := ?_) rfl (by kernel_rfl) (by kernel_rfl) (by kernel_rfl) (fun _ _ _ h => h) (Or.inl ⟨by rfl, ?_⟩) (by assumption) ?_
      rotate_left
      · (intro w hSw; (try dsimp only at hSw); have xc := va_tab13 hSw.2.2 hv; go_simp; (try with_reducible rfl))
      simp only [Act.put, List.getElem_toArray, List.getElem_cons_zero, List.getElem_cons_succ, List.setIfInBounds_toArray, List.set_cons_zero, List.set_cons_succ]
      refine wpAnyH_take (i := 15) (v := ?_) rfl (by kernel_rfl) (by kernel_rfl) (by kernel_rfl) (fun _ _ _ h => h) (Or.inl ⟨by rfl, ?_⟩) (by assumption) ?_
      rotate_left
      · (intro w hSw; (try dsimp only at hSw); go_simp; (try with_reducible rfl))
      simp only [Act.put, List.getElem_toArray, List.getElem_cons_zero, List.getElem_cons_succ, List.setIfInBounds_toArray, List.set_cons_zero, List.set_cons_succ]
      refine wpAnyH_at13 (l' := #[true, true, true, true, true, true, true, true, true, true, true, true, true, true, true, true, true, false]) (f' := 1) (by kernel_rfl) rfl ?_
      exact T3_isr g0 g9 g16 _ hHeld hH
    intro T2_isr
    refine wpAnyH_cut13 (fun g0 g9 => (fun W => Below W1.heap.size W1 W ∧ Blk W g0 (.cells #[.int .i64 0, .int .i64 0, .int .i64 70, .int .i64 71] 28 (0, 0)) ∧ Blk W g9 (.cells #[.string ⟨#[]⟩, .string ⟨#[120]⟩, .string ⟨#[121, 121]⟩] 9 (0, 0)))) (fun g16 V => True) 2 #[true, true, true, true, true, true, true, true, true, true, true, true, true, true, true, true, false, false] (fun g0 g9 g16 => { tmps := #[threeV a, Value.pointer (some { block := B, off := 0 }), Value.pointer (some { block := B + 1, off := 0 }), undef, Value.slice (some { block := g0, off := 0 }) 4 4, Value.pointer (some { block := B, off := 0 }), Value.int IntKind.i64 (a 0), Value.int IntKind.i64 (p : Int), Value.pointer (some { block := g0, off := p }), Value.int IntKind.i64 (erN13 p : Int), Value.pointer (some { block := B, off := 1 }), Value.int IntKind.i64 (a 1), Value.int IntKind.i64 (r : Int), Value.slice (some { block := g9, off := 0 }) 3 3, Value.pointer (some { block := B, off := 2 }), Value.int IntKind.i64 (a 2), Value.int IntKind.i64 (v : Int), Value.pointer (some { block := g9, off := v }), Value.string (vaK13 v), Value.agg #[Value.int IntKind.i64 (erN13 p : Int), Value.int IntKind.i64 (r : Int), Value.string (vaK13 v), Value.slice none 0 0], undef, undef, undef, undef, undef, undef, undef, undef, undef, undef, undef], defers := [] }) ?_ ?_
    · clear hHeld V0
      intro g0 g9 g16 V0 hHeld hH
      (try dsimp only at hHeld); (try dsimp only at hH)
      refine wpAnyH_ready (rs := [16]) (by kernel_rfl) (by simp) ?_
      refine AllReadyH.cons rfl (fun K hK => ?_) AllReadyH.nil
      rw [if_pos (by rfl)]
      go_simp
      have hgs := hHeld.1.size
      have hnw := Blk.new V0 (.cells #[.int .i64 0, .int .i64 0, .string ⟨#[]⟩, .slice none 0 0] 31)
      refine hK.out _ _ (⟨hHeld.1.alloc hHeld.1.size _, (Blk.below hHeld.2.1 ((Below.refl _ _).alloc (Nat.le_refl _) _)), (Blk.below hHeld.2.2 ((Below.refl _ _).alloc (Nat.le_refl _) _))⟩) (fun hHeld2 => ?_)
      clear hK K hHeld
      have hHeld := hHeld2; clear hHeld2
      obtain ⟨V1, hV⟩ : ∃ W, V0.alloc (.cells #[.int .i64 0, .int .i64 0, .string ⟨#[]⟩, .slice none 0 0] 31) = W := ⟨_, rfl⟩
      rw [hV] at hHeld hnw ⊢
      clear hV
      obtain ⟨g16, hg⟩ : ∃ g, V0.heap.size = g := ⟨_, rfl⟩
      rw [hg] at hnw hgs ⊢
      clear hg
      have hH := And.intro hgs hnw
      refine wpAnyH_at13 (l' := #[true, true, true, true, true, true, true, true, true, true, true, true, true, true, true, true, true, false]) (f' := 1) (by kernel_rfl) rfl ?_
      exact T3_isr g0 g9 g16 _ hHeld hH
    intro T3_is
    refine wpAnyH_cut13 (fun g0 g9 => (fun W => Below W1.heap.size W1 W ∧ Blk W g0 (.cells #[.int .i64 0, .int .i64 0, .int .i64 70, .int .i64 71] 28 (0, 0)) ∧ True)) (fun g16 V => (W1.heap.size ≤ g16 ∧ Blk V g16 (.cells #[.int .i64 0, .int .i64 0, .string ⟨#[]⟩, .slice none 0 0] 31 (0, 0)))) 5 #[true, true, true, true, true, true, true, true, true, false, true, true, true, false, false, false, true, false] (fun g0 g9 g16 => { tmps := #[threeV a, Value.pointer (some { block := B, off := 0 }), Value.pointer (some { block := B + 1, off := 0 }), Value.pointer (some { block := g16, off := 0 }), Value.slice (some { block := g0, off := 0 }) 4 4, Value.pointer (some { block := B, off := 0 }), Value.int IntKind.i64 (a 0), Value.int IntKind.i64 (p : Int), Value.pointer (some { block := g0, off := p }), Value.int IntKind.i64 (erN13 p : Int), Value.pointer (some { block := B, off := 1 }), Value.int IntKind.i64 (a 1), Value.int IntKind.i64 (r : Int), undef, Value.pointer (some { block := B, off := 2 }), Value.int IntKind.i64 (a 2), Value.int IntKind.i64 (v : Int), undef, undef, undef, undef, undef, undef, undef, undef, undef, undef, undef, undef, undef, undef], defers := [] }) ?_ ?_
    · clear hHeld V0
      intro g0 g9 g16 V0 hHeld hH
      (try dsimp only at hHeld); (try dsimp only at hH)
      refine wpAnyH_ready (rs := [9]) (by kernel_rfl) (by simp) ?_
      refine AllReadyH.cons rfl (fun K hK => ?_) AllReadyH.nil
      rw [if_pos (by rfl)]
      go_simp
      have hgs := hHeld.1.size
      have hnw := Blk.new V0 (.cells #[.string ⟨#[]⟩, .string ⟨#[120]⟩, .string ⟨#[121, 121]⟩] 9)
      have hrp := Blk.below hH.2 (show Below V0.heap.size V0 (V0.alloc (.cells #[.string ⟨#[]⟩, .string ⟨#[120]⟩, .string ⟨#[121, 121]⟩] 9)) from (Below.refl _ _).alloc (Nat.le_refl _) _)
      refine hK.out _ _ (⟨hHeld.1.alloc hHeld.1.size _, (Blk.below hHeld.2.1 ((Below.refl _ _).alloc (Nat.le_refl _) _)), trivial⟩) (fun hHeld2 => ?_)
      clear hK K hHeld
      have hHeld := hHeld2; clear hHeld2
      obtain ⟨V1, hV⟩ : ∃ W, V0.alloc (.cells #[.string ⟨#[]⟩, .string ⟨#[120]⟩, .string ⟨#[121, 121]⟩] 9) = W := ⟨_, rfl⟩
      rw [hV] at hHeld hnw hrp ⊢
      clear hV
      obtain ⟨g9, hg⟩ : ∃ g, V0.heap.size = g := ⟨_, rfl⟩
      rw [hg] at hnw hgs ⊢
      clear hg
      have hH := And.intro hH.1 hrp
      refine wpAnyH_mono13 (S' := (fun W => Below W1.heap.size W1 W ∧ Blk W g0 (.cells #[.int .i64 0, .int .i64 0, .int .i64 70, .int .i64 71] 28 (0, 0)) ∧ Blk W g9 (.cells #[.string ⟨#[]⟩, .string ⟨#[120]⟩, .string ⟨#[121, 121]⟩] 9 (0, 0)))) (fun W h => ⟨h.1, h.2.1, trivial⟩) _ _ _ _ ?_
      have hHeld3 : (fun W => Below W1.heap.size W1 W ∧ Blk W g0 (.cells #[.int .i64 0, .int .i64 0, .int .i64 70, .int .i64 71] 28 (0, 0)) ∧ Blk W g9 (.cells #[.string ⟨#[]⟩, .string ⟨#[120]⟩, .string ⟨#[121, 121]⟩] 9 (0, 0))) V1 := ⟨hHeld.1, hHeld.2.1, hnw⟩
      clear hHeld
      have hHeld := hHeld3; clear hHeld3
      try dsimp only at hHeld
      refine wpAnyH_take (i := 13) (v := ?_) rfl (by kernel_rfl) (by kernel_rfl) (by kernel_rfl) (fun _ _ _ h => h) (Or.inl ⟨by rfl, ?_⟩) (by assumption) ?_
      rotate_left
      · (intro w hSw; (try dsimp only at hSw); go_simp; (try with_reducible rfl))
      simp only [Act.put, List.getElem_toArray, List.getElem_cons_zero, List.getElem_cons_succ, List.setIfInBounds_toArray, List.set_cons_zero, List.set_cons_succ]
      refine wpAnyH_take (i := 14) (v := ?_) rfl (by kernel_rfl) (by kernel_rfl) (by kernel_rfl) (fun _ _ _ h => h) (Or.inl ⟨by rfl, ?_⟩) (by assumption) ?_
      rotate_left
      · (intro w hSw; (try dsimp only at hSw); have xc := va_tab13 hSw.2.2 hv; go_simp; (try with_reducible rfl))
      simp only [Act.put, List.getElem_toArray, List.getElem_cons_zero, List.getElem_cons_succ, List.setIfInBounds_toArray, List.set_cons_zero, List.set_cons_succ]
      refine wpAnyH_take (i := 15) (v := ?_) rfl (by kernel_rfl) (by kernel_rfl) (by kernel_rfl) (fun _ _ _ h => h) (Or.inl ⟨by rfl, ?_⟩) (by assumption) ?_
      rotate_left
      · (intro w hSw; (try dsimp only at hSw); go_simp; (try with_reducible rfl))
      simp only [Act.put, List.getElem_toArray, List.getElem_cons_zero, List.getElem_cons_succ, List.setIfInBounds_toArray, List.set_cons_zero, List.set_cons_succ]
      refine wpAnyH_at13 (l' := #[true, true, true, true, true, true, true, true, true, true, true, true, true, true, true, true, true, false]) (f' := 1) (by kernel_rfl) rfl ?_
      exact T3_isr g0 g9 g16 _ hHeld hH
    intro T3_ir
    refine wpAnyH_cut13 (fun g0 g9 => (fun W => Below W1.heap.size W1 W ∧ True ∧ Blk W g9 (.cells #[.string ⟨#[]⟩, .string ⟨#[120]⟩, .string ⟨#[121, 121]⟩] 9 (0, 0)))) (fun g16 V => (W1.heap.size ≤ g16 ∧ Blk V g16 (.cells #[.int .i64 0, .int .i64 0, .string ⟨#[]⟩, .slice none 0 0] 31 (0, 0)))) 5 #[false, true, true, true, false, false, true, true, true, true, true, true, true, true, true, false, true, false] (fun g0 g9 g16 => { tmps := #[threeV a, Value.pointer (some { block := B, off := 0 }), Value.pointer (some { block := B + 1, off := 0 }), Value.pointer (some { block := g16, off := 0 }), undef, Value.pointer (some { block := B, off := 0 }), Value.int IntKind.i64 (a 0), Value.int IntKind.i64 (p : Int), undef, undef, Value.pointer (some { block := B, off := 1 }), Value.int IntKind.i64 (a 1), Value.int IntKind.i64 (r : Int), Value.slice (some { block := g9, off := 0 }) 3 3, Value.pointer (some { block := B, off := 2 }), Value.int IntKind.i64 (a 2), Value.int IntKind.i64 (v : Int), Value.pointer (some { block := g9, off := v }), Value.string (vaK13 v), undef, undef, undef, undef, undef, undef, undef, undef, undef, undef, undef, undef], defers := [] }) ?_ ?_
    · clear hHeld V0
      intro g0 g9 g16 V0 hHeld hH
      (try dsimp only at hHeld); (try dsimp only at hH)
      refine wpAnyH_ready (rs := [0]) (by kernel_rfl) (by simp) ?_
      refine AllReadyH.cons rfl (fun K hK => ?_) AllReadyH.nil
      rw [if_pos (by rfl)]
      go_simp
      have hgs := hHeld.1.size
      have hnw := Blk.new V0 (.cells #[.int .i64 0, .int .i64 0, .int .i64 70, .int .i64 71] 28)
      have hrp := Blk.below hH.2 (show Below V0.heap.size V0 (V0.alloc (.cells #[.int .i64 0, .int .i64 0, .int .i64 70, .int .i64 71] 28)) from (Below.refl _ _).alloc (Nat.le_refl _) _)
      refine hK.out _ _ (⟨hHeld.1.alloc hHeld.1.size _, trivial, (Blk.below hHeld.2.2 ((Below.refl _ _).alloc (Nat.le_refl _) _))⟩) (fun hHeld2 => ?_)
      clear hK K hHeld
      have hHeld := hHeld2; clear hHeld2
      obtain ⟨V1, hV⟩ : ∃ W, V0.alloc (.cells #[.int .i64 0, .int .i64 0, .int .i64 70, .int .i64 71] 28) = W := ⟨_, rfl⟩
      rw [hV] at hHeld hnw hrp ⊢
      clear hV
      obtain ⟨g0, hg⟩ : ∃ g, V0.heap.size = g := ⟨_, rfl⟩
      rw [hg] at hnw hgs ⊢
      clear hg
      have hH := And.intro hH.1 hrp
      refine wpAnyH_mono13 (S' := (fun W => Below W1.heap.size W1 W ∧ Blk W g0 (.cells #[.int .i64 0, .int .i64 0, .int .i64 70, .int .i64 71] 28 (0, 0)) ∧ Blk W g9 (.cells #[.string ⟨#[]⟩, .string ⟨#[120]⟩, .string ⟨#[121, 121]⟩] 9 (0, 0)))) (fun W h => ⟨h.1, trivial, h.2.2⟩) _ _ _ _ ?_
      have hHeld3 : (fun W => Below W1.heap.size W1 W ∧ Blk W g0 (.cells #[.int .i64 0, .int .i64 0, .int .i64 70, .int .i64 71] 28 (0, 0)) ∧ Blk W g9 (.cells #[.string ⟨#[]⟩, .string ⟨#[120]⟩, .string ⟨#[121, 121]⟩] 9 (0, 0))) V1 := ⟨hHeld.1, hnw, hHeld.2.2⟩
      clear hHeld
      have hHeld := hHeld3; clear hHeld3
      try dsimp only at hHeld
      refine wpAnyH_take (i := 4) (v := ?_) rfl (by kernel_rfl) (by kernel_rfl) (by kernel_rfl) (fun _ _ _ h => h) (Or.inl ⟨by rfl, ?_⟩) (by assumption) ?_
      rotate_left
      · (intro w hSw; (try dsimp only at hSw); go_simp; (try with_reducible rfl))
      simp only [Act.put, List.getElem_toArray, List.getElem_cons_zero, List.getElem_cons_succ, List.setIfInBounds_toArray, List.set_cons_zero, List.set_cons_succ]
      refine wpAnyH_take (i := 5) (v := ?_) rfl (by kernel_rfl) (by kernel_rfl) (by kernel_rfl) (fun _ _ _ h => h) (Or.inl ⟨by rfl, ?_⟩) (by assumption) ?_
      rotate_left
      · (intro w hSw; (try dsimp only at hSw); have xc := er_tab13 hSw.2.1 hp; go_simp; (try with_reducible rfl))
      simp only [Act.put, List.getElem_toArray, List.getElem_cons_zero, List.getElem_cons_succ, List.setIfInBounds_toArray, List.set_cons_zero, List.set_cons_succ]
      refine wpAnyH_take (i := 15) (v := ?_) rfl (by kernel_rfl) (by kernel_rfl) (by kernel_rfl) (fun _ _ _ h => h) (Or.inl ⟨by rfl, ?_⟩) (by assumption) ?_
      rotate_left
      · (intro w hSw; (try dsimp only at hSw); go_simp; (try with_reducible rfl))
      simp only [Act.put, List.getElem_toArray, List.getElem_cons_zero, List.getElem_cons_succ, List.setIfInBounds_toArray, List.set_cons_zero, List.set_cons_succ]
      refine wpAnyH_at13 (l' := #[true, true, true, true, true, true, true, true, true, true, true, true, true, true, true, true, true, false]) (f' := 1) (by kernel_rfl) rfl ?_
      exact T3_isr g0 g9 g16 _ hHeld hH
    intro T3_sr
    refine wpAnyH_cut13 (fun g0 g9 => (fun W => Below W1.heap.size W1 W ∧ Blk W g0 (.cells #[.int .i64 0, .int .i64 0, .int .i64 70, .int .i64 71] 28 (0, 0)) ∧ Blk W g9 (.cells #[.string ⟨#[]⟩, .string ⟨#[120]⟩, .string ⟨#[121, 121]⟩] 9 (0, 0)))) (fun g16 V => (W1.heap.size ≤ g16 ∧ Blk V g16 (.cells #[.int .i64 0, .int .i64 0, .string ⟨#[]⟩, .slice none 0 0] 31 (0, 0)))) 6 #[true, true, true, true, true, true, true, true, false, true, true, true, false, false, false, false, true, false] (fun g0 g9 g16 => { tmps := #[threeV a, Value.pointer (some { block := B, off := 0 }), Value.pointer (some { block := B + 1, off := 0 }), Value.pointer (some { block := g16, off := 0 }), Value.slice (some { block := g0, off := 0 }) 4 4, Value.pointer (some { block := B, off := 0 }), Value.int IntKind.i64 (a 0), Value.int IntKind.i64 (p : Int), Value.pointer (some { block := g0, off := p }), Value.int IntKind.i64 (erN13 p : Int), Value.pointer (some { block := B, off := 1 }), Value.int IntKind.i64 (a 1), undef, Value.slice (some { block := g9, off := 0 }) 3 3, Value.pointer (some { block := B, off := 2 }), Value.int IntKind.i64 (a 2), undef, undef, undef, undef, undef, undef, undef, undef, undef, undef, undef, undef, undef, undef, undef], defers := [] }) ?_ ?_
    · clear hHeld V0
      intro g0 g9 g16 V0 hHeld hH
      (try dsimp only at hHeld); (try dsimp only at hH)
      refine wpAnyH_ready (rs := [8]) (by kernel_rfl) (by simp) ?_
      refine AllReadyH.cons rfl (fun K hK => ?_) AllReadyH.nil
      rw [if_pos (by rfl)]
      go_simp
      ((with_reducible refine (q1 _).mono ?_); rintro e w' ⟨rfl, rfl⟩)
      refine hK.out _ _ (hHeld) (fun hHeld2 => ?_)
      clear hK K hHeld
      have hHeld := hHeld2; clear hHeld2
      refine wpAnyH_at13 (l' := #[true, true, true, true, true, true, true, true, true, true, true, true, false, false, false, false, true, false]) (f' := 5) (by kernel_rfl) rfl ?_
      exact T2_isr g0 g9 g16 _ hHeld hH
    intro T1_isr
    refine wpAnyH_cut13 (fun g0 g9 => (fun W => Below W1.heap.size W1 W ∧ Blk W g0 (.cells #[.int .i64 0, .int .i64 0, .int .i64 70, .int .i64 71] 28 (0, 0)) ∧ Blk W g9 (.cells #[.string ⟨#[]⟩, .string ⟨#[120]⟩, .string ⟨#[121, 121]⟩] 9 (0, 0)))) (fun g16 V => True) 6 #[true, true, true, true, true, true, true, true, true, true, true, true, false, false, false, false, false, false] (fun g0 g9 g16 => { tmps := #[threeV a, Value.pointer (some { block := B, off := 0 }), Value.pointer (some { block := B + 1, off := 0 }), undef, Value.slice (some { block := g0, off := 0 }) 4 4, Value.pointer (some { block := B, off := 0 }), Value.int IntKind.i64 (a 0), Value.int IntKind.i64 (p : Int), Value.pointer (some { block := g0, off := p }), Value.int IntKind.i64 (erN13 p : Int), Value.pointer (some { block := B, off := 1 }), Value.int IntKind.i64 (a 1), Value.int IntKind.i64 (r : Int), Value.slice (some { block := g9, off := 0 }) 3 3, Value.pointer (some { block := B, off := 2 }), Value.int IntKind.i64 (a 2), undef, undef, undef, undef, undef, undef, undef, undef, undef, undef, undef, undef, undef, undef, undef], defers := [] }) ?_ ?_
    · clear hHeld V0
      intro g0 g9 g16 V0 hHeld hH
      (try dsimp only at hHeld); (try dsimp only at hH)
      refine wpAnyH_ready (rs := [12, 16]) (by kernel_rfl) (by simp) ?_
      refine AllReadyH.cons rfl (fun K hK => ?_) ?_
      · rw [if_pos (by rfl)]
        go_simp
        ((with_reducible refine (q2 _).mono ?_); rintro e w' ⟨rfl, rfl⟩)
        refine hK.out _ _ (hHeld) (fun hHeld2 => ?_)
        clear hK K hHeld
        have hHeld := hHeld2; clear hHeld2
        refine wpAnyH_take (i := 13) (v := ?_) rfl (by kernel_rfl) (by kernel_rfl) (by kernel_rfl) (fun _ _ _ h => h) (Or.inl ⟨by rfl, ?_⟩) (by assumption) ?_
        rotate_left
        · (intro w hSw; (try dsimp only at hSw); go_simp; (try with_reducible rfl))
        simp only [Act.put, List.getElem_toArray, List.getElem_cons_zero, List.getElem_cons_succ, List.setIfInBounds_toArray, List.set_cons_zero, List.set_cons_succ]
        refine wpAnyH_take (i := 14) (v := ?_) rfl (by kernel_rfl) (by kernel_rfl) (by kernel_rfl) (fun _ _ _ h => h) (Or.inl ⟨by rfl, ?_⟩) (by assumption) ?_
        rotate_left
        · (intro w hSw; (try dsimp only at hSw); have xc := va_tab13 hSw.2.2 hv; go_simp; (try with_reducible rfl))
        simp only [Act.put, List.getElem_toArray, List.getElem_cons_zero, List.getElem_cons_succ, List.setIfInBounds_toArray, List.set_cons_zero, List.set_cons_succ]
        refine wpAnyH_take (i := 15) (v := ?_) rfl (by kernel_rfl) (by kernel_rfl) (by kernel_rfl) (fun _ _ _ h => h) (Or.inl ⟨by rfl, ?_⟩) (by assumption) ?_
        rotate_left
        · (intro w hSw; (try dsimp only at hSw); go_simp; (try with_reducible rfl))
        simp only [Act.put, List.getElem_toArray, List.getElem_cons_zero, List.getElem_cons_succ, List.setIfInBounds_toArray, List.set_cons_zero, List.set_cons_succ]
        refine wpAnyH_at13 (l' := #[true, true, true, true, true, true, true, true, true, true, true, true, true, true, true, true, false, false]) (f' := 2) (by kernel_rfl) rfl ?_
        exact T3_is g0 g9 0 _ hHeld trivial
      refine AllReadyH.cons rfl (fun K hK => ?_) ?_
      · rw [if_pos (by rfl)]
        go_simp
        have hgs := hHeld.1.size
        have hnw := Blk.new V0 (.cells #[.int .i64 0, .int .i64 0, .string ⟨#[]⟩, .slice none 0 0] 31)
        refine hK.out _ _ (⟨hHeld.1.alloc hHeld.1.size _, (Blk.below hHeld.2.1 ((Below.refl _ _).alloc (Nat.le_refl _) _)), (Blk.below hHeld.2.2 ((Below.refl _ _).alloc (Nat.le_refl _) _))⟩) (fun hHeld2 => ?_)
        clear hK K hHeld
        have hHeld := hHeld2; clear hHeld2
        obtain ⟨V1, hV⟩ : ∃ W, V0.alloc (.cells #[.int .i64 0, .int .i64 0, .string ⟨#[]⟩, .slice none 0 0] 31) = W := ⟨_, rfl⟩
        rw [hV] at hHeld hnw ⊢
        clear hV
        obtain ⟨g16, hg⟩ : ∃ g, V0.heap.size = g := ⟨_, rfl⟩
        rw [hg] at hnw hgs ⊢
        clear hg
        have hH := And.intro hgs hnw
        refine wpAnyH_at13 (l' := #[true, true, true, true, true, true, true, true, true, true, true, true, false, false, false, false, true, false]) (f' := 5) (by kernel_rfl) rfl ?_
        exact T2_isr g0 g9 g16 _ hHeld hH
      exact AllReadyH.nil
    intro T2_is
    refine wpAnyH_cut13 (fun g0 g9 => (fun W => Below W1.heap.size W1 W ∧ Blk W g0 (.cells #[.int .i64 0, .int .i64 0, .int .i64 70, .int .i64 71] 28 (0, 0)) ∧ True)) (fun g16 V => (W1.heap.size ≤ g16 ∧ Blk V g16 (.cells #[.int .i64 0, .int .i64 0, .string ⟨#[]⟩, .slice none 0 0] 31 (0, 0)))) 6 #[true, true, true, true, true, true, true, true, true, false, true, true, false, false, false, false, true, false] (fun g0 g9 g16 => { tmps := #[threeV a, Value.pointer (some { block := B, off := 0 }), Value.pointer (some { block := B + 1, off := 0 }), Value.pointer (some { block := g16, off := 0 }), Value.slice (some { block := g0, off := 0 }) 4 4, Value.pointer (some { block := B, off := 0 }), Value.int IntKind.i64 (a 0), Value.int IntKind.i64 (p : Int), Value.pointer (some { block := g0, off := p }), Value.int IntKind.i64 (erN13 p : Int), Value.pointer (some { block := B, off := 1 }), Value.int IntKind.i64 (a 1), Value.int IntKind.i64 (r : Int), undef, Value.pointer (some { block := B, off := 2 }), Value.int IntKind.i64 (a 2), undef, undef, undef, undef, undef, undef, undef, undef, undef, undef, undef, undef, undef, undef, undef], defers := [] }) ?_ ?_
    · clear hHeld V0
      intro g0 g9 g16 V0 hHeld hH
      (try dsimp only at hHeld); (try dsimp only at hH)
      refine wpAnyH_ready (rs := [9, 12]) (by kernel_rfl) (by simp) ?_
      refine AllReadyH.cons rfl (fun K hK => ?_) ?_
      · rw [if_pos (by rfl)]
        go_simp
        have hgs := hHeld.1.size
        have hnw := Blk.new V0 (.cells #[.string ⟨#[]⟩, .string ⟨#[120]⟩, .string ⟨#[121, 121]⟩] 9)
        have hrp := Blk.below hH.2 (show Below V0.heap.size V0 (V0.alloc (.cells #[.string ⟨#[]⟩, .string ⟨#[120]⟩, .string ⟨#[121, 121]⟩] 9)) from (Below.refl _ _).alloc (Nat.le_refl _) _)
        refine hK.out _ _ (⟨hHeld.1.alloc hHeld.1.size _, (Blk.below hHeld.2.1 ((Below.refl _ _).alloc (Nat.le_refl _) _)), trivial⟩) (fun hHeld2 => ?_)
        clear hK K hHeld
        have hHeld := hHeld2; clear hHeld2
        obtain ⟨V1, hV⟩ : ∃ W, V0.alloc (.cells #[.string ⟨#[]⟩, .string ⟨#[120]⟩, .string ⟨#[121, 121]⟩] 9) = W := ⟨_, rfl⟩
        rw [hV] at hHeld hnw hrp ⊢
        clear hV
        obtain ⟨g9, hg⟩ : ∃ g, V0.heap.size = g := ⟨_, rfl⟩
        rw [hg] at hnw hgs ⊢
        clear hg
        have hH := And.intro hH.1 hrp
        refine wpAnyH_mono13 (S' := (fun W => Below W1.heap.size W1 W ∧ Blk W g0 (.cells #[.int .i64 0, .int .i64 0, .int .i64 70, .int .i64 71] 28 (0, 0)) ∧ Blk W g9 (.cells #[.string ⟨#[]⟩, .string ⟨#[120]⟩, .string ⟨#[121, 121]⟩] 9 (0, 0)))) (fun W h => ⟨h.1, h.2.1, trivial⟩) _ _ _ _ ?_
        have hHeld3 : (fun W => Below W1.heap.size W1 W ∧ Blk W g0 (.cells #[.int .i64 0, .int .i64 0, .int .i64 70, .int .i64 71] 28 (0, 0)) ∧ Blk W g9 (.cells #[.string ⟨#[]⟩, .string ⟨#[120]⟩, .string ⟨#[121, 121]⟩] 9 (0, 0))) V1 := ⟨hHeld.1, hHeld.2.1, hnw⟩
        clear hHeld
        have hHeld := hHeld3; clear hHeld3
        try dsimp only at hHeld
        refine wpAnyH_at13 (l' := #[true, true, true, true, true, true, true, true, true, true, true, true, false, false, false, false, true, false]) (f' := 5) (by kernel_rfl) rfl ?_
        exact T2_isr g0 g9 g16 _ hHeld hH
      refine AllReadyH.cons rfl (fun K hK => ?_) ?_
      · rw [if_pos (by rfl)]
        go_simp
        ((with_reducible refine (q2 _).mono ?_); rintro e w' ⟨rfl, rfl⟩)
        refine hK.out _ _ (hHeld) (fun hHeld2 => ?_)
        clear hK K hHeld
        have hHeld := hHeld2; clear hHeld2
        refine wpAnyH_at13 (l' := #[true, true, true, true, true, true, true, true, true, false, true, true, true, false, false, false, true, false]) (f' := 5) (by kernel_rfl) rfl ?_
        exact T3_ir g0 0 g16 _ hHeld hH
      exact AllReadyH.nil
    intro T2_ir
    refine wpAnyH_cut13 (fun g0 g9 => (fun W => Below W1.heap.size W1 W ∧ True ∧ Blk W g9 (.cells #[.string ⟨#[]⟩, .string ⟨#[120]⟩, .string ⟨#[121, 121]⟩] 9 (0, 0)))) (fun g16 V => (W1.heap.size ≤ g16 ∧ Blk V g16 (.cells #[.int .i64 0, .int .i64 0, .string ⟨#[]⟩, .slice none 0 0] 31 (0, 0)))) 8 #[false, true, true, true, false, false, true, true, true, true, true, true, false, false, false, false, true, false] (fun g0 g9 g16 => { tmps := #[threeV a, Value.pointer (some { block := B, off := 0 }), Value.pointer (some { block := B + 1, off := 0 }), Value.pointer (some { block := g16, off := 0 }), undef, Value.pointer (some { block := B, off := 0 }), Value.int IntKind.i64 (a 0), Value.int IntKind.i64 (p : Int), undef, undef, Value.pointer (some { block := B, off := 1 }), Value.int IntKind.i64 (a 1), Value.int IntKind.i64 (r : Int), Value.slice (some { block := g9, off := 0 }) 3 3, Value.pointer (some { block := B, off := 2 }), Value.int IntKind.i64 (a 2), undef, undef, undef, undef, undef, undef, undef, undef, undef, undef, undef, undef, undef, undef, undef], defers := [] }) ?_ ?_
    · clear hHeld V0
      intro g0 g9 g16 V0 hHeld hH
      (try dsimp only at hHeld); (try dsimp only at hH)
      refine wpAnyH_ready (rs := [0, 12]) (by kernel_rfl) (by simp) ?_
      refine AllReadyH.cons rfl (fun K hK => ?_) ?_
      · rw [if_pos (by rfl)]
        go_simp
        have hgs := hHeld.1.size
        have hnw := Blk.new V0 (.cells #[.int .i64 0, .int .i64 0, .int .i64 70, .int .i64 71] 28)
        have hrp := Blk.below hH.2 (show Below V0.heap.size V0 (V0.alloc (.cells #[.int .i64 0, .int .i64 0, .int .i64 70, .int .i64 71] 28)) from (Below.refl _ _).alloc (Nat.le_refl _) _)
        refine hK.out _ _ (⟨hHeld.1.alloc hHeld.1.size _, trivial, (Blk.below hHeld.2.2 ((Below.refl _ _).alloc (Nat.le_refl _) _))⟩) (fun hHeld2 => ?_)
        clear hK K hHeld
        have hHeld := hHeld2; clear hHeld2
        obtain ⟨V1, hV⟩ : ∃ W, V0.alloc (.cells #[.int .i64 0, .int .i64 0, .int .i64 70, .int .i64 71] 28) = W := ⟨_, rfl⟩
        rw [hV] at hHeld hnw hrp ⊢
        clear hV
        obtain ⟨g0, hg⟩ : ∃ g, V0.heap.size = g := ⟨_, rfl⟩
        rw [hg] at hnw hgs ⊢
        clear hg
        have hH := And.intro hH.1 hrp
        refine wpAnyH_mono13 (S' := (fun W => Below W1.heap.size W1 W ∧ Blk W g0 (.cells #[.int .i64 0, .int .i64 0, .int .i64 70, .int .i64 71] 28 (0, 0)) ∧ Blk W g9 (.cells #[.string ⟨#[]⟩, .string ⟨#[120]⟩, .string ⟨#[121, 121]⟩] 9 (0, 0)))) (fun W h => ⟨h.1, trivial, h.2.2⟩) _ _ _ _ ?_
        have hHeld3 : (fun W => Below W1.heap.size W1 W ∧ Blk W g0 (.cells #[.int .i64 0, .int .i64 0, .int .i64 70, .int .i64 71] 28 (0, 0)) ∧ Blk W g9 (.cells #[.string ⟨#[]⟩, .string ⟨#[120]⟩, .string ⟨#[121, 121]⟩] 9 (0, 0))) V1 := ⟨hHeld.1, hnw, hHeld.2.2⟩
        clear hHeld
        have hHeld := hHeld3; clear hHeld3
        try dsimp only at hHeld
        refine wpAnyH_take (i := 4) (v := ?_) rfl (by kernel_rfl) (by kernel_rfl) (by kernel_rfl) (fun _ _ _ h => h) (Or.inl ⟨by rfl, ?_⟩) (by assumption) ?_
        rotate_left
        · (intro w hSw; (try dsimp only at hSw); go_simp; (try with_reducible rfl))
        simp only [Act.put, List.getElem_toArray, List.getElem_cons_zero, List.getElem_cons_succ, List.setIfInBounds_toArray, List.set_cons_zero, List.set_cons_succ]
        refine wpAnyH_take (i := 5) (v := ?_) rfl (by kernel_rfl) (by kernel_rfl) (by kernel_rfl) (fun _ _ _ h => h) (Or.inl ⟨by rfl, ?_⟩) (by assumption) ?_
        rotate_left
        · (intro w hSw; (try dsimp only at hSw); have xc := er_tab13 hSw.2.1 hp; go_simp; (try with_reducible rfl))
        simp only [Act.put, List.getElem_toArray, List.getElem_cons_zero, List.getElem_cons_succ, List.setIfInBounds_toArray, List.set_cons_zero, List.set_cons_succ]
        refine wpAnyH_at13 (l' := #[true, true, true, true, true, true, true, true, true, true, true, true, false, false, false, false, true, false]) (f' := 5) (by kernel_rfl) rfl ?_
        exact T2_isr g0 g9 g16 _ hHeld hH
      refine AllReadyH.cons rfl (fun K hK => ?_) ?_
      · rw [if_pos (by rfl)]
        go_simp
        ((with_reducible refine (q2 _).mono ?_); rintro e w' ⟨rfl, rfl⟩)
        refine hK.out _ _ (hHeld) (fun hHeld2 => ?_)
        clear hK K hHeld
        have hHeld := hHeld2; clear hHeld2
        refine wpAnyH_take (i := 13) (v := ?_) rfl (by kernel_rfl) (by kernel_rfl) (by kernel_rfl) (fun _ _ _ h => h) (Or.inl ⟨by rfl, ?_⟩) (by assumption) ?_
        rotate_left
        · (intro w hSw; (try dsimp only at hSw); go_simp; (try with_reducible rfl))
        simp only [Act.put, List.getElem_toArray, List.getElem_cons_zero, List.getElem_cons_succ, List.setIfInBounds_toArray, List.set_cons_zero, List.set_cons_succ]
        refine wpAnyH_take (i := 14) (v := ?_) rfl (by kernel_rfl) (by kernel_rfl) (by kernel_rfl) (fun _ _ _ h => h) (Or.inl ⟨by rfl, ?_⟩) (by assumption) ?_
        rotate_left
        · (intro w hSw; (try dsimp only at hSw); have xc := va_tab13 hSw.2.2 hv; go_simp; (try with_reducible rfl))
        simp only [Act.put, List.getElem_toArray, List.getElem_cons_zero, List.getElem_cons_succ, List.setIfInBounds_toArray, List.set_cons_zero, List.set_cons_succ]
        refine wpAnyH_at13 (l' := #[false, true, true, true, false, false, true, true, true, true, true, true, true, true, true, false, true, false]) (f' := 5) (by kernel_rfl) rfl ?_
        exact T3_sr 0 g9 g16 _ hHeld hH
      exact AllReadyH.nil
    intro T2_sr
    refine wpAnyH_cut13 (fun g0 g9 => (fun W => Below W1.heap.size W1 W ∧ Blk W g0 (.cells #[.int .i64 0, .int .i64 0, .int .i64 70, .int .i64 71] 28 (0, 0)) ∧ True)) (fun g16 V => True) 6 #[true, true, true, true, true, true, true, true, true, false, true, true, true, false, false, false, false, false] (fun g0 g9 g16 => { tmps := #[threeV a, Value.pointer (some { block := B, off := 0 }), Value.pointer (some { block := B + 1, off := 0 }), undef, Value.slice (some { block := g0, off := 0 }) 4 4, Value.pointer (some { block := B, off := 0 }), Value.int IntKind.i64 (a 0), Value.int IntKind.i64 (p : Int), Value.pointer (some { block := g0, off := p }), Value.int IntKind.i64 (erN13 p : Int), Value.pointer (some { block := B, off := 1 }), Value.int IntKind.i64 (a 1), Value.int IntKind.i64 (r : Int), undef, Value.pointer (some { block := B, off := 2 }), Value.int IntKind.i64 (a 2), Value.int IntKind.i64 (v : Int), undef, undef, undef, undef, undef, undef, undef, undef, undef, undef, undef, undef, undef, undef], defers := [] }) ?_ ?_
    · clear hHeld V0
      intro g0 g9 g16 V0 hHeld hH
      (try dsimp only at hHeld); (try dsimp only at hH)
      refine wpAnyH_ready (rs := [9, 16]) (by kernel_rfl) (by simp) ?_
      refine AllReadyH.cons rfl (fun K hK => ?_) ?_
      · rw [if_pos (by rfl)]
        go_simp
        have hgs := hHeld.1.size
        have hnw := Blk.new V0 (.cells #[.string ⟨#[]⟩, .string ⟨#[120]⟩, .string ⟨#[121, 121]⟩] 9)
        refine hK.out _ _ (⟨hHeld.1.alloc hHeld.1.size _, (Blk.below hHeld.2.1 ((Below.refl _ _).alloc (Nat.le_refl _) _)), trivial⟩) (fun hHeld2 => ?_)
        clear hK K hHeld
        have hHeld := hHeld2; clear hHeld2
        obtain ⟨V1, hV⟩ : ∃ W, V0.alloc (.cells #[.string ⟨#[]⟩, .string ⟨#[120]⟩, .string ⟨#[121, 121]⟩] 9) = W := ⟨_, rfl⟩
        rw [hV] at hHeld hnw ⊢
        clear hV
        obtain ⟨g9, hg⟩ : ∃ g, V0.heap.size = g := ⟨_, rfl⟩
        rw [hg] at hnw hgs ⊢
        clear hg
        refine wpAnyH_mono13 (S' := (fun W => Below W1.heap.size W1 W ∧ Blk W g0 (.cells #[.int .i64 0, .int .i64 0, .int .i64 70, .int .i64 71] 28 (0, 0)) ∧ Blk W g9 (.cells #[.string ⟨#[]⟩, .string ⟨#[120]⟩, .string ⟨#[121, 121]⟩] 9 (0, 0)))) (fun W h => ⟨h.1, h.2.1, trivial⟩) _ _ _ _ ?_
        have hHeld3 : (fun W => Below W1.heap.size W1 W ∧ Blk W g0 (.cells #[.int .i64 0, .int .i64 0, .int .i64 70, .int .i64 71] 28 (0, 0)) ∧ Blk W g9 (.cells #[.string ⟨#[]⟩, .string ⟨#[120]⟩, .string ⟨#[121, 121]⟩] 9 (0, 0))) V1 := ⟨hHeld.1, hHeld.2.1, hnw⟩
        clear hHeld
        have hHeld := hHeld3; clear hHeld3
        try dsimp only at hHeld
        refine wpAnyH_take (i := 13) (v := ?_) rfl (by kernel_rfl) (by kernel_rfl) (by kernel_rfl) (fun _ _ _ h => h) (Or.inl ⟨by rfl, ?_⟩) (by assumption) ?_
        rotate_left
        · (intro w hSw; (try dsimp only at hSw); go_simp; (try with_reducible rfl))
        simp only [Act.put, List.getElem_toArray, List.getElem_cons_zero, List.getElem_cons_succ, List.setIfInBounds_toArray, List.set_cons_zero, List.set_cons_succ]
        refine wpAnyH_take (i := 14) (v := ?_) rfl (by kernel_rfl) (by kernel_rfl) (by kernel_rfl) (fun _ _ _ h => h) (Or.inl ⟨by rfl, ?_⟩) (by assumption) ?_
        rotate_left
        · (intro w hSw; (try dsimp only at hSw); have xc := va_tab13 hSw.2.2 hv; go_simp; (try with_reducible rfl))
        simp only [Act.put, List.getElem_toArray, List.getElem_cons_zero, List.getElem_cons_succ, List.setIfInBounds_toArray, List.set_cons_zero, List.set_cons_succ]
        refine wpAnyH_take (i := 15) (v := ?_) rfl (by kernel_rfl) (by kernel_rfl) (by kernel_rfl) (fun _ _ _ h => h) (Or.inl ⟨by rfl, ?_⟩) (by assumption) ?_
        rotate_left
        · (intro w hSw; (try dsimp only at hSw); go_simp; (try with_reducible rfl))
        simp only [Act.put, List.getElem_toArray, List.getElem_cons_zero, List.getElem_cons_succ, List.setIfInBounds_toArray, List.set_cons_zero, List.set_cons_succ]
        refine wpAnyH_at13 (l' := #[true, true, true, true, true, true, true, true, true, true, true, true, true, true, true, true, false, false]) (f' := 2) (by kernel_rfl) rfl ?_
        exact T3_is g0 g9 0 _ hHeld trivial
      refine AllReadyH.cons rfl (fun K hK => ?_) ?_
      · rw [if_pos (by rfl)]
        go_simp
        have hgs := hHeld.1.size
        have hnw := Blk.new V0 (.cells #[.int .i64 0, .int .i64 0, .string ⟨#[]⟩, .slice none 0 0] 31)
        refine hK.out _ _ (⟨hHeld.1.alloc hHeld.1.size _, (Blk.below hHeld.2.1 ((Below.refl _ _).alloc (Nat.le_refl _) _)), trivial⟩) (fun hHeld2 => ?_)
        clear hK K hHeld
        have hHeld := hHeld2; clear hHeld2
        obtain ⟨V1, hV⟩ : ∃ W, V0.alloc (.cells #[.int .i64 0, .int .i64 0, .string ⟨#[]⟩, .slice none 0 0] 31) = W := ⟨_, rfl⟩
        rw [hV] at hHeld hnw ⊢
        clear hV
        obtain ⟨g16, hg⟩ : ∃ g, V0.heap.size = g := ⟨_, rfl⟩
        rw [hg] at hnw hgs ⊢
        clear hg
        have hH := And.intro hgs hnw
        refine wpAnyH_at13 (l' := #[true, true, true, true, true, true, true, true, true, false, true, true, true, false, false, false, true, false]) (f' := 5) (by kernel_rfl) rfl ?_
        exact T3_ir g0 0 g16 _ hHeld hH
      exact AllReadyH.nil
    intro T3_i
    refine wpAnyH_cut13 (fun g0 g9 => (fun W => Below W1.heap.size W1 W ∧ True ∧ Blk W g9 (.cells #[.string ⟨#[]⟩, .string ⟨#[120]⟩, .string ⟨#[121, 121]⟩] 9 (0, 0)))) (fun g16 V => True) 6 #[false, true, true, true, false, false, true, true, true, true, true, true, true, true, true, false, false, false] (fun g0 g9 g16 => { tmps := #[threeV a, Value.pointer (some { block := B, off := 0 }), Value.pointer (some { block := B + 1, off := 0 }), undef, undef, Value.pointer (some { block := B, off := 0 }), Value.int IntKind.i64 (a 0), Value.int IntKind.i64 (p : Int), undef, undef, Value.pointer (some { block := B, off := 1 }), Value.int IntKind.i64 (a 1), Value.int IntKind.i64 (r : Int), Value.slice (some { block := g9, off := 0 }) 3 3, Value.pointer (some { block := B, off := 2 }), Value.int IntKind.i64 (a 2), Value.int IntKind.i64 (v : Int), Value.pointer (some { block := g9, off := v }), Value.string (vaK13 v), undef, undef, undef, undef, undef, undef, undef, undef, undef, undef, undef, undef], defers := [] }) ?_ ?_
    · clear hHeld V0
      intro g0 g9 g16 V0 hHeld hH
      (try dsimp only at hHeld); (try dsimp only at hH)
      refine wpAnyH_ready (rs := [0, 16]) (by kernel_rfl) (by simp) ?_
      refine AllReadyH.cons rfl (fun K hK => ?_) ?_
      · rw [if_pos (by rfl)]
        go_simp
        have hgs := hHeld.1.size
        have hnw := Blk.new V0 (.cells #[.int .i64 0, .int .i64 0, .int .i64 70, .int .i64 71] 28)
        refine hK.out _ _ (⟨hHeld.1.alloc hHeld.1.size _, trivial, (Blk.below hHeld.2.2 ((Below.refl _ _).alloc (Nat.le_refl _) _))⟩) (fun hHeld2 => ?_)
        clear hK K hHeld
        have hHeld := hHeld2; clear hHeld2
        obtain ⟨V1, hV⟩ : ∃ W, V0.alloc (.cells #[.int .i64 0, .int .i64 0, .int .i64 70, .int .i64 71] 28) = W := ⟨_, rfl⟩
        rw [hV] at hHeld hnw ⊢
        clear hV
        obtain ⟨g0, hg⟩ : ∃ g, V0.heap.size = g := ⟨_, rfl⟩
        rw [hg] at hnw hgs ⊢
        clear hg
        refine wpAnyH_mono13 (S' := (fun W => Below W1.heap.size W1 W ∧ Blk W g0 (.cells #[.int .i64 0, .int .i64 0, .int .i64 70, .int .i64 71] 28 (0, 0)) ∧ Blk W g9 (.cells #[.string ⟨#[]⟩, .string ⟨#[120]⟩, .string ⟨#[121, 121]⟩] 9 (0, 0)))) (fun W h => ⟨h.1, trivial, h.2.2⟩) _ _ _ _ ?_
        have hHeld3 : (fun W => Below W1.heap.size W1 W ∧ Blk W g0 (.cells #[.int .i64 0, .int .i64 0, .int .i64 70, .int .i64 71] 28 (0, 0)) ∧ Blk W g9 (.cells #[.string ⟨#[]⟩, .string ⟨#[120]⟩, .string ⟨#[121, 121]⟩] 9 (0, 0))) V1 := ⟨hHeld.1, hnw, hHeld.2.2⟩
        clear hHeld
        have hHeld := hHeld3; clear hHeld3
        try dsimp only at hHeld
        refine wpAnyH_take (i := 4) (v := ?_) rfl (by kernel_rfl) (by kernel_rfl) (by kernel_rfl) (fun _ _ _ h => h) (Or.inl ⟨by rfl, ?_⟩) (by assumption) ?_
        rotate_left
        · (intro w hSw; (try dsimp only at hSw); go_simp; (try with_reducible rfl))
        simp only [Act.put, List.getElem_toArray, List.getElem_cons_zero, List.getElem_cons_succ, List.setIfInBounds_toArray, List.set_cons_zero, List.set_cons_succ]
        refine wpAnyH_take (i := 5) (v := ?_) rfl (by kernel_rfl) (by kernel_rfl) (by kernel_rfl) (fun _ _ _ h => h) (Or.inl ⟨by rfl, ?_⟩) (by assumption) ?_
        rotate_left
        · (intro w hSw; (try dsimp only at hSw); have xc := er_tab13 hSw.2.1 hp; go_simp; (try with_reducible rfl))
        simp only [Act.put, List.getElem_toArray, List.getElem_cons_zero, List.getElem_cons_succ, List.setIfInBounds_toArray, List.set_cons_zero, List.set_cons_succ]
        refine wpAnyH_take (i := 15) (v := ?_) rfl (by kernel_rfl) (by kernel_rfl) (by kernel_rfl) (fun _ _ _ h => h) (Or.inl ⟨by rfl, ?_⟩) (by assumption) ?_
        rotate_left
        · (intro w hSw; (try dsimp only at hSw); go_simp; (try with_reducible rfl))
        simp only [Act.put, List.getElem_toArray, List.getElem_cons_zero, List.getElem_cons_succ, List.setIfInBounds_toArray, List.set_cons_zero, List.set_cons_succ]
        refine wpAnyH_at13 (l' := #[true, true, true, true, true, true, true, true, true, true, true, true, true, true, true, true, false, false]) (f' := 2) (by kernel_rfl) rfl ?_
        exact T3_is g0 g9 0 _ hHeld trivial
      refine AllReadyH.cons rfl (fun K hK => ?_) ?_
      · rw [if_pos (by rfl)]
        go_simp
        have hgs := hHeld.1.size
        have hnw := Blk.new V0 (.cells #[.int .i64 0, .int .i64 0, .string ⟨#[]⟩, .slice none 0 0] 31)
        refine hK.out _ _ (⟨hHeld.1.alloc hHeld.1.size _, trivial, (Blk.below hHeld.2.2 ((Below.refl _ _).alloc (Nat.le_refl _) _))⟩) (fun hHeld2 => ?_)
        clear hK K hHeld
        have hHeld := hHeld2; clear hHeld2
        obtain ⟨V1, hV⟩ : ∃ W, V0.alloc (.cells #[.int .i64 0, .int .i64 0, .string ⟨#[]⟩, .slice none 0 0] 31) = W := ⟨_, rfl⟩
        rw [hV] at hHeld hnw ⊢
        clear hV
        obtain ⟨g16, hg⟩ : ∃ g, V0.heap.size = g := ⟨_, rfl⟩
        rw [hg] at hnw hgs ⊢
        clear hg
        have hH := And.intro hgs hnw
        refine wpAnyH_at13 (l' := #[false, true, true, true, false, false, true, true, true, true, true, true, true, true, true, false, true, false]) (f' := 5) (by kernel_rfl) rfl ?_
        exact T3_sr 0 g9 g16 _ hHeld hH
      exact AllReadyH.nil
    intro T3_s
    refine wpAnyH_cut13 (fun g0 g9 => (fun W => Below W1.heap.size W1 W ∧ True ∧ True)) (fun g16 V => (W1.heap.size ≤ g16 ∧ Blk V g16 (.cells #[.int .i64 0, .int .i64 0, .string ⟨#[]⟩, .slice none 0 0] 31 (0, 0)))) 8 #[false, true, true, true, false, false, true, true, true, false, true, true, true, false, false, false, true, false] (fun g0 g9 g16 => { tmps := #[threeV a, Value.pointer (some { block := B, off := 0 }), Value.pointer (some { block := B + 1, off := 0 }), Value.pointer (some { block := g16, off := 0 }), undef, Value.pointer (some { block := B, off := 0 }), Value.int IntKind.i64 (a 0), Value.int IntKind.i64 (p : Int), undef, undef, Value.pointer (some { block := B, off := 1 }), Value.int IntKind.i64 (a 1), Value.int IntKind.i64 (r : Int), undef, Value.pointer (some { block := B, off := 2 }), Value.int IntKind.i64 (a 2), Value.int IntKind.i64 (v : Int), undef, undef, undef, undef, undef, undef, undef, undef, undef, undef, undef, undef, undef, undef], defers := [] }) ?_ ?_
    · clear hHeld V0
      intro g0 g9 g16 V0 hHeld hH
      (try dsimp only at hHeld); (try dsimp only at hH)
      refine wpAnyH_ready (rs := [0, 9]) (by kernel_rfl) (by simp) ?_
      refine AllReadyH.cons rfl (fun K hK => ?_) ?_
      · rw [if_pos (by rfl)]
        go_simp
        have hgs := hHeld.1.size
        have hnw := Blk.new V0 (.cells #[.int .i64 0, .int .i64 0, .int .i64 70, .int .i64 71] 28)
        have hrp := Blk.below hH.2 (show Below V0.heap.size V0 (V0.alloc (.cells #[.int .i64 0, .int .i64 0, .int .i64 70, .int .i64 71] 28)) from (Below.refl _ _).alloc (Nat.le_refl _) _)
        refine hK.out _ _ (⟨hHeld.1.alloc hHeld.1.size _, trivial, trivial⟩) (fun hHeld2 => ?_)
        clear hK K hHeld
        have hHeld := hHeld2; clear hHeld2
        obtain ⟨V1, hV⟩ : ∃ W, V0.alloc (.cells #[.int .i64 0, .int .i64 0, .int .i64 70, .int .i64 71] 28) = W := ⟨_, rfl⟩
        rw [hV] at hHeld hnw hrp ⊢
        clear hV
        obtain ⟨g0, hg⟩ : ∃ g, V0.heap.size = g := ⟨_, rfl⟩
        rw [hg] at hnw hgs ⊢
        clear hg
        have hH := And.intro hH.1 hrp
        refine wpAnyH_mono13 (S' := (fun W => Below W1.heap.size W1 W ∧ Blk W g0 (.cells #[.int .i64 0, .int .i64 0, .int .i64 70, .int .i64 71] 28 (0, 0)) ∧ True)) (fun W h => ⟨h.1, trivial, trivial⟩) _ _ _ _ ?_
        have hHeld3 : (fun W => Below W1.heap.size W1 W ∧ Blk W g0 (.cells #[.int .i64 0, .int .i64 0, .int .i64 70, .int .i64 71] 28 (0, 0)) ∧ True) V1 := ⟨hHeld.1, hnw, trivial⟩
        clear hHeld
        have hHeld := hHeld3; clear hHeld3
        try dsimp only at hHeld
        refine wpAnyH_take (i := 4) (v := ?_) rfl (by kernel_rfl) (by kernel_rfl) (by kernel_rfl) (fun _ _ _ h => h) (Or.inl ⟨by rfl, ?_⟩) (by assumption) ?_
        rotate_left
        · (intro w hSw; (try dsimp only at hSw); go_simp; (try with_reducible rfl))
        simp only [Act.put, List.getElem_toArray, List.getElem_cons_zero, List.getElem_cons_succ, List.setIfInBounds_toArray, List.set_cons_zero, List.set_cons_succ]
        refine wpAnyH_take (i := 5) (v := ?_) rfl (by kernel_rfl) (by kernel_rfl) (by kernel_rfl) (fun _ _ _ h => h) (Or.inl ⟨by rfl, ?_⟩) (by assumption) ?_
        rotate_left
        · (intro w hSw; (try dsimp only at hSw); have xc := er_tab13 hSw.2.1 hp; go_simp; (try with_reducible rfl))
        simp only [Act.put, List.getElem_toArray, List.getElem_cons_zero, List.getElem_cons_succ, List.setIfInBounds_toArray, List.set_cons_zero, List.set_cons_succ]
        refine wpAnyH_at13 (l' := #[true, true, true, true, true, true, true, true, true, false, true, true, true, false, false, false, true, false]) (f' := 5) (by kernel_rfl) rfl ?_
        exact T3_ir g0 0 g16 _ hHeld hH
      refine AllReadyH.cons rfl (fun K hK => ?_) ?_
      · rw [if_pos (by rfl)]
        go_simp
        have hgs := hHeld.1.size
        have hnw := Blk.new V0 (.cells #[.string ⟨#[]⟩, .string ⟨#[120]⟩, .string ⟨#[121, 121]⟩] 9)
        have hrp := Blk.below hH.2 (show Below V0.heap.size V0 (V0.alloc (.cells #[.string ⟨#[]⟩, .string ⟨#[120]⟩, .string ⟨#[121, 121]⟩] 9)) from (Below.refl _ _).alloc (Nat.le_refl _) _)
        refine hK.out _ _ (⟨hHeld.1.alloc hHeld.1.size _, trivial, trivial⟩) (fun hHeld2 => ?_)
        clear hK K hHeld
        have hHeld := hHeld2; clear hHeld2
        obtain ⟨V1, hV⟩ : ∃ W, V0.alloc (.cells #[.string ⟨#[]⟩, .string ⟨#[120]⟩, .string ⟨#[121, 121]⟩] 9) = W := ⟨_, rfl⟩
        rw [hV] at hHeld hnw hrp ⊢
        clear hV
        obtain ⟨g9, hg⟩ : ∃ g, V0.heap.size = g := ⟨_, rfl⟩
        rw [hg] at hnw hgs ⊢
        clear hg
        have hH := And.intro hH.1 hrp
        refine wpAnyH_mono13 (S' := (fun W => Below W1.heap.size W1 W ∧ True ∧ Blk W g9 (.cells #[.string ⟨#[]⟩, .string ⟨#[120]⟩, .string ⟨#[121, 121]⟩] 9 (0, 0)))) (fun W h => ⟨h.1, trivial, trivial⟩) _ _ _ _ ?_
        have hHeld3 : (fun W => Below W1.heap.size W1 W ∧ True ∧ Blk W g9 (.cells #[.string ⟨#[]⟩, .string ⟨#[120]⟩, .string ⟨#[121, 121]⟩] 9 (0, 0))) V1 := ⟨hHeld.1, trivial, hnw⟩
        clear hHeld
        have hHeld := hHeld3; clear hHeld3
        try dsimp only at hHeld
        refine wpAnyH_take (i := 13) (v := ?_) rfl (by kernel_rfl) (by kernel_rfl) (by kernel_rfl) (fun _ _ _ h => h) (Or.inl ⟨by rfl, ?_⟩) (by assumption) ?_
        rotate_left
        · (intro w hSw; (try dsimp only at hSw); go_simp; (try with_reducible rfl))
        simp only [Act.put, List.getElem_toArray, List.getElem_cons_zero, List.getElem_cons_succ, List.setIfInBounds_toArray, List.set_cons_zero, List.set_cons_succ]
        refine wpAnyH_take (i := 14) (v := ?_) rfl (by kernel_rfl) (by kernel_rfl) (by kernel_rfl) (fun _ _ _ h => h) (Or.inl ⟨by rfl, ?_⟩) (by assumption) ?_
        rotate_left
        · (intro w hSw; (try dsimp only at hSw); have xc := va_tab13 hSw.2.2 hv; go_simp; (try with_reducible rfl))
        simp only [Act.put, List.getElem_toArray, List.getElem_cons_zero, List.getElem_cons_succ, List.setIfInBounds_toArray, List.set_cons_zero, List.set_cons_succ]
        refine wpAnyH_at13 (l' := #[false, true, true, true, false, false, true, true, true, true, true, true, true, true, true, false, true, false]) (f' := 5) (by kernel_rfl) rfl ?_
        exact T3_sr 0 g9 g16 _ hHeld hH
      exact AllReadyH.nil
    intro T3_r
    refine wpAnyH_cut13 (fun g0 g9 => (fun W => Below W1.heap.size W1 W ∧ Blk W g0 (.cells #[.int .i64 0, .int .i64 0, .int .i64 70, .int .i64 71] 28 (0, 0)) ∧ Blk W g9 (.cells #[.string ⟨#[]⟩, .string ⟨#[120]⟩, .string ⟨#[121, 121]⟩] 9 (0, 0)))) (fun g16 V => (W1.heap.size ≤ g16 ∧ Blk V g16 (.cells #[.int .i64 0, .int .i64 0, .string ⟨#[]⟩, .slice none 0 0] 31 (0, 0)))) 9 #[true, true, true, false, false, false, true, true, false, true, true, true, false, false, false, false, true, false] (fun g0 g9 g16 => { tmps := #[threeV a, Value.pointer (some { block := B, off := 0 }), Value.pointer (some { block := B + 1, off := 0 }), Value.pointer (some { block := g16, off := 0 }), Value.slice (some { block := g0, off := 0 }) 4 4, Value.pointer (some { block := B, off := 0 }), Value.int IntKind.i64 (a 0), undef, undef, undef, Value.pointer (some { block := B, off := 1 }), Value.int IntKind.i64 (a 1), undef, Value.slice (some { block := g9, off := 0 }) 3 3, Value.pointer (some { block := B, off := 2 }), Value.int IntKind.i64 (a 2), undef, undef, undef, undef, undef, undef, undef, undef, undef, undef, undef, undef, undef, undef, undef], defers := [] }) ?_ ?_
    · clear hHeld V0
      intro g0 g9 g16 V0 hHeld hH
      (try dsimp only at hHeld); (try dsimp only at hH)
      refine wpAnyH_ready (rs := [3]) (by kernel_rfl) (by simp) ?_
      refine AllReadyH.cons rfl (fun K hK => ?_) AllReadyH.nil
      rw [if_pos (by rfl)]
      go_simp
      ((with_reducible refine (q0 _).mono ?_); rintro e w' ⟨rfl, rfl⟩)
      refine hK.out _ _ (hHeld) (fun hHeld2 => ?_)
      clear hK K hHeld
      have hHeld := hHeld2; clear hHeld2
      refine wpAnyH_take (i := 4) (v := ?_) rfl (by kernel_rfl) (by kernel_rfl) (by kernel_rfl) (fun _ _ _ h => h) (Or.inl ⟨by rfl, ?_⟩) (by assumption) ?_
      rotate_left
      · (intro w hSw; (try dsimp only at hSw); go_simp; (try with_reducible rfl))
      simp only [Act.put, List.getElem_toArray, List.getElem_cons_zero, List.getElem_cons_succ, List.setIfInBounds_toArray, List.set_cons_zero, List.set_cons_succ]
      refine wpAnyH_take (i := 5) (v := ?_) rfl (by kernel_rfl) (by kernel_rfl) (by kernel_rfl) (fun _ _ _ h => h) (Or.inl ⟨by rfl, ?_⟩) (by assumption) ?_
      rotate_left
      · (intro w hSw; (try dsimp only at hSw); have xc := er_tab13 hSw.2.1 hp; go_simp; (try with_reducible rfl))
      simp only [Act.put, List.getElem_toArray, List.getElem_cons_zero, List.getElem_cons_succ, List.setIfInBounds_toArray, List.set_cons_zero, List.set_cons_succ]
      refine wpAnyH_at13 (l' := #[true, true, true, true, true, true, true, true, false, true, true, true, false, false, false, false, true, false]) (f' := 6) (by kernel_rfl) rfl ?_
      exact T1_isr g0 g9 g16 _ hHeld hH
    intro T0_isr
    refine wpAnyH_cut13 (fun g0 g9 => (fun W => Below W1.heap.size W1 W ∧ Blk W g0 (.cells #[.int .i64 0, .int .i64 0, .int .i64 70, .int .i64 71] 28 (0, 0)) ∧ Blk W g9 (.cells #[.string ⟨#[]⟩, .string ⟨#[120]⟩, .string ⟨#[121, 121]⟩] 9 (0, 0)))) (fun g16 V => True) 7 #[true, true, true, true, true, true, true, true, false, true, true, true, false, false, false, false, false, false] (fun g0 g9 g16 => { tmps := #[threeV a, Value.pointer (some { block := B, off := 0 }), Value.pointer (some { block := B + 1, off := 0 }), undef, Value.slice (some { block := g0, off := 0 }) 4 4, Value.pointer (some { block := B, off := 0 }), Value.int IntKind.i64 (a 0), Value.int IntKind.i64 (p : Int), Value.pointer (some { block := g0, off := p }), Value.int IntKind.i64 (erN13 p : Int), Value.pointer (some { block := B, off := 1 }), Value.int IntKind.i64 (a 1), undef, Value.slice (some { block := g9, off := 0 }) 3 3, Value.pointer (some { block := B, off := 2 }), Value.int IntKind.i64 (a 2), undef, undef, undef, undef, undef, undef, undef, undef, undef, undef, undef, undef, undef, undef, undef], defers := [] }) ?_ ?_
    · clear hHeld V0
      intro g0 g9 g16 V0 hHeld hH
      (try dsimp only at hHeld); (try dsimp only at hH)
      refine wpAnyH_ready (rs := [8, 16]) (by kernel_rfl) (by simp) ?_
      refine AllReadyH.cons rfl (fun K hK => ?_) ?_
      · rw [if_pos (by rfl)]
        go_simp
        ((with_reducible refine (q1 _).mono ?_); rintro e w' ⟨rfl, rfl⟩)
        refine hK.out _ _ (hHeld) (fun hHeld2 => ?_)
        clear hK K hHeld
        have hHeld := hHeld2; clear hHeld2
        refine wpAnyH_at13 (l' := #[true, true, true, true, true, true, true, true, true, true, true, true, false, false, false, false, false, false]) (f' := 6) (by kernel_rfl) rfl ?_
        exact T2_is g0 g9 0 _ hHeld trivial
      refine AllReadyH.cons rfl (fun K hK => ?_) ?_
      · rw [if_pos (by rfl)]
        go_simp
        have hgs := hHeld.1.size
        have hnw := Blk.new V0 (.cells #[.int .i64 0, .int .i64 0, .string ⟨#[]⟩, .slice none 0 0] 31)
        refine hK.out _ _ (⟨hHeld.1.alloc hHeld.1.size _, (Blk.below hHeld.2.1 ((Below.refl _ _).alloc (Nat.le_refl _) _)), (Blk.below hHeld.2.2 ((Below.refl _ _).alloc (Nat.le_refl _) _))⟩) (fun hHeld2 => ?_)
        clear hK K hHeld
        have hHeld := hHeld2; clear hHeld2
        obtain ⟨V1, hV⟩ : ∃ W, V0.alloc (.cells #[.int .i64 0, .int .i64 0, .string ⟨#[]⟩, .slice none 0 0] 31) = W := ⟨_, rfl⟩
        rw [hV] at hHeld hnw ⊢
        clear hV
        obtain ⟨g16, hg⟩ : ∃ g, V0.heap.size = g := ⟨_, rfl⟩
        rw [hg] at hnw hgs ⊢
        clear hg
        have hH := And.intro hgs hnw
        refine wpAnyH_at13 (l' := #[true, true, true, true, true, true, true, true, false, true, true, true, false, false, false, false, true, false]) (f' := 6) (by kernel_rfl) rfl ?_
        exact T1_isr g0 g9 g16 _ hHeld hH
      exact AllReadyH.nil
    intro T1_is
    refine wpAnyH_cut13 (fun g0 g9 => (fun W => Below W1.heap.size W1 W ∧ Blk W g0 (.cells #[.int .i64 0, .int .i64 0, .int .i64 70, .int .i64 71] 28 (0, 0)) ∧ True)) (fun g16 V => (W1.heap.size ≤ g16 ∧ Blk V g16 (.cells #[.int .i64 0, .int .i64 0, .string ⟨#[]⟩, .slice none 0 0] 31 (0, 0)))) 7 #[true, true, true, true, true, true, true, true, false, false, true, true, false, false, false, false, true, false] (fun g0 g9 g16 => { tmps := #[threeV a, Value.pointer (some { block := B, off := 0 }), Value.pointer (some { block := B + 1, off := 0 }), Value.pointer (some { block := g16, off := 0 }), Value.slice (some { block := g0, off := 0 }) 4 4, Value.pointer (some { block := B, off := 0 }), Value.int IntKind.i64 (a 0), Value.int IntKind.i64 (p : Int), Value.pointer (some { block := g0, off := p }), Value.int IntKind.i64 (erN13 p : Int), Value.pointer (some { block := B, off := 1 }), Value.int IntKind.i64 (a 1), undef, undef, Value.pointer (some { block := B, off := 2 }), Value.int IntKind.i64 (a 2), undef, undef, undef, undef, undef, undef, undef, undef, undef, undef, undef, undef, undef, undef, undef], defers := [] }) ?_ ?_
    · clear hHeld V0
      intro g0 g9 g16 V0 hHeld hH
      (try dsimp only at hHeld); (try dsimp only at hH)
      refine wpAnyH_ready (rs := [8, 9]) (by kernel_rfl) (by simp) ?_
      refine AllReadyH.cons rfl (fun K hK => ?_) ?_
      · rw [if_pos (by rfl)]
        go_simp
        ((with_reducible refine (q1 _).mono ?_); rintro e w' ⟨rfl, rfl⟩)
        refine hK.out _ _ (hHeld) (fun hHeld2 => ?_)
        clear hK K hHeld
        have hHeld := hHeld2; clear hHeld2
        refine wpAnyH_at13 (l' := #[true, true, true, true, true, true, true, true, true, false, true, true, false, false, false, false, true, false]) (f' := 6) (by kernel_rfl) rfl ?_
        exact T2_ir g0 0 g16 _ hHeld hH
      refine AllReadyH.cons rfl (fun K hK => ?_) ?_
      · rw [if_pos (by rfl)]
        go_simp
        have hgs := hHeld.1.size
        have hnw := Blk.new V0 (.cells #[.string ⟨#[]⟩, .string ⟨#[120]⟩, .string ⟨#[121, 121]⟩] 9)
        have hrp := Blk.below hH.2 (show Below V0.heap.size V0 (V0.alloc (.cells #[.string ⟨#[]⟩, .string ⟨#[120]⟩, .string ⟨#[121, 121]⟩] 9)) from (Below.refl _ _).alloc (Nat.le_refl _) _)
        refine hK.out _ _ (⟨hHeld.1.alloc hHeld.1.size _, (Blk.below hHeld.2.1 ((Below.refl _ _).alloc (Nat.le_refl _) _)), trivial⟩) (fun hHeld2 => ?_)
        clear hK K hHeld
        have hHeld := hHeld2; clear hHeld2
        obtain ⟨V1, hV⟩ : ∃ W, V0.alloc (.cells #[.string ⟨#[]⟩, .string ⟨#[120]⟩, .string ⟨#[121, 121]⟩] 9) = W := ⟨_, rfl⟩
        rw [hV] at hHeld hnw hrp ⊢
        clear hV
        obtain ⟨g9, hg⟩ : ∃ g, V0.heap.size = g := ⟨_, rfl⟩
        rw [hg] at hnw hgs ⊢
        clear hg
        have hH := And.intro hH.1 hrp
        refine wpAnyH_mono13 (S' := (fun W => Below W1.heap.size W1 W ∧ Blk W g0 (.cells #[.int .i64 0, .int .i64 0, .int .i64 70, .int .i64 71] 28 (0, 0)) ∧ Blk W g9 (.cells #[.string ⟨#[]⟩, .string ⟨#[120]⟩, .string ⟨#[121, 121]⟩] 9 (0, 0)))) (fun W h => ⟨h.1, h.2.1, trivial⟩) _ _ _ _ ?_
        have hHeld3 : (fun W => Below W1.heap.size W1 W ∧ Blk W g0 (.cells #[.int .i64 0, .int .i64 0, .int .i64 70, .int .i64 71] 28 (0, 0)) ∧ Blk W g9 (.cells #[.string ⟨#[]⟩, .string ⟨#[120]⟩, .string ⟨#[121, 121]⟩] 9 (0, 0))) V1 := ⟨hHeld.1, hHeld.2.1, hnw⟩
        clear hHeld
        have hHeld := hHeld3; clear hHeld3
        try dsimp only at hHeld
        refine wpAnyH_at13 (l' := #[true, true, true, true, true, true, true, true, false, true, true, true, false, false, false, false, true, false]) (f' := 6) (by kernel_rfl) rfl ?_
        exact T1_isr g0 g9 g16 _ hHeld hH
      exact AllReadyH.nil
    intro T1_ir
    refine wpAnyH_cut13 (fun g0 g9 => (fun W => Below W1.heap.size W1 W ∧ True ∧ Blk W g9 (.cells #[.string ⟨#[]⟩, .string ⟨#[120]⟩, .string ⟨#[121, 121]⟩] 9 (0, 0)))) (fun g16 V => (W1.heap.size ≤ g16 ∧ Blk V g16 (.cells #[.int .i64 0, .int .i64 0, .string ⟨#[]⟩, .slice none 0 0] 31 (0, 0)))) 9 #[false, true, true, true, false, false, true, true, false, true, true, true, false, false, false, false, true, false] (fun g0 g9 g16 => { tmps := #[threeV a, Value.pointer (some { block := B, off := 0 }), Value.pointer (some { block := B + 1, off := 0 }), Value.pointer (some { block := g16, off := 0 }), undef, Value.pointer (some { block := B, off := 0 }), Value.int IntKind.i64 (a 0), Value.int IntKind.i64 (p : Int), undef, undef, Value.pointer (some { block := B, off := 1 }), Value.int IntKind.i64 (a 1), undef, Value.slice (some { block := g9, off := 0 }) 3 3, Value.pointer (some { block := B, off := 2 }), Value.int IntKind.i64 (a 2), undef, undef, undef, undef, undef, undef, undef, undef, undef, undef, undef, undef, undef, undef, undef], defers := [] }) ?_ ?_
    · clear hHeld V0
      intro g0 g9 g16 V0 hHeld hH
      (try dsimp only at hHeld); (try dsimp only at hH)
      refine wpAnyH_ready (rs := [0, 8]) (by kernel_rfl) (by simp) ?_
      refine AllReadyH.cons rfl (fun K hK => ?_) ?_
      · rw [if_pos (by rfl)]
        go_simp
        have hgs := hHeld.1.size
        have hnw := Blk.new V0 (.cells #[.int .i64 0, .int .i64 0, .int .i64 70, .int .i64 71] 28)
        have hrp := Blk.below hH.2 (show Below V0.heap.size V0 (V0.alloc (.cells #[.int .i64 0, .int .i64 0, .int .i64 70, .int .i64 71] 28)) from (Below.refl _ _).alloc (Nat.le_refl _) _)
        refine hK.out _ _ (⟨hHeld.1.alloc hHeld.1.size _, trivial, (Blk.below hHeld.2.2 ((Below.refl _ _).alloc (Nat.le_refl _) _))⟩) (fun hHeld2 => ?_)
        clear hK K hHeld
        have hHeld := hHeld2; clear hHeld2
        obtain ⟨V1, hV⟩ : ∃ W, V0.alloc (.cells #[.int .i64 0, .int .i64 0, .int .i64 70, .int .i64 71] 28) = W := ⟨_, rfl⟩
        rw [hV] at hHeld hnw hrp ⊢
        clear hV
        obtain ⟨g0, hg⟩ : ∃ g, V0.heap.size = g := ⟨_, rfl⟩
        rw [hg] at hnw hgs ⊢
        clear hg
        have hH := And.intro hH.1 hrp
        refine wpAnyH_mono13 (S' := (fun W => Below W1.heap.size W1 W ∧ Blk W g0 (.cells #[.int .i64 0, .int .i64 0, .int .i64 70, .int .i64 71] 28 (0, 0)) ∧ Blk W g9 (.cells #[.string ⟨#[]⟩, .string ⟨#[120]⟩, .string ⟨#[121, 121]⟩] 9 (0, 0)))) (fun W h => ⟨h.1, trivial, h.2.2⟩) _ _ _ _ ?_
        have hHeld3 : (fun W => Below W1.heap.size W1 W ∧ Blk W g0 (.cells #[.int .i64 0, .int .i64 0, .int .i64 70, .int .i64 71] 28 (0, 0)) ∧ Blk W g9 (.cells #[.string ⟨#[]⟩, .string ⟨#[120]⟩, .string ⟨#[121, 121]⟩] 9 (0, 0))) V1 := ⟨hHeld.1, hnw, hHeld.2.2⟩
        clear hHeld
        have hHeld := hHeld3; clear hHeld3
        try dsimp only at hHeld
        refine wpAnyH_take (i := 4) (v := ?_) rfl (by kernel_rfl) (by kernel_rfl) (by kernel_rfl) (fun _ _ _ h => h) (Or.inl ⟨by rfl, ?_⟩) (by assumption) ?_
        rotate_left
        · (intro w hSw; (try dsimp only at hSw); go_simp; (try with_reducible rfl))
        simp only [Act.put, List.getElem_toArray, List.getElem_cons_zero, List.getElem_cons_succ, List.setIfInBounds_toArray, List.set_cons_zero, List.set_cons_succ]
        refine wpAnyH_take (i := 5) (v := ?_) rfl (by kernel_rfl) (by kernel_rfl) (by kernel_rfl) (fun _ _ _ h => h) (Or.inl ⟨by rfl, ?_⟩) (by assumption) ?_
        rotate_left
        · (intro w hSw; (try dsimp only at hSw); have xc := er_tab13 hSw.2.1 hp; go_simp; (try with_reducible rfl))
        simp only [Act.put, List.getElem_toArray, List.getElem_cons_zero, List.getElem_cons_succ, List.setIfInBounds_toArray, List.set_cons_zero, List.set_cons_succ]
        refine wpAnyH_at13 (l' := #[true, true, true, true, true, true, true, true, false, true, true, true, false, false, false, false, true, false]) (f' := 6) (by kernel_rfl) rfl ?_
        exact T1_isr g0 g9 g16 _ hHeld hH
      refine AllReadyH.cons rfl (fun K hK => ?_) ?_
      · rw [if_pos (by rfl)]
        go_simp
        ((with_reducible refine (q1 _).mono ?_); rintro e w' ⟨rfl, rfl⟩)
        refine hK.out _ _ (hHeld) (fun hHeld2 => ?_)
        clear hK K hHeld
        have hHeld := hHeld2; clear hHeld2
        refine wpAnyH_at13 (l' := #[false, true, true, true, false, false, true, true, true, true, true, true, false, false, false, false, true, false]) (f' := 8) (by kernel_rfl) rfl ?_
        exact T2_sr 0 g9 g16 _ hHeld hH
      exact AllReadyH.nil
    intro T1_sr
    refine wpAnyH_cut13 (fun g0 g9 => (fun W => Below W1.heap.size W1 W ∧ Blk W g0 (.cells #[.int .i64 0, .int .i64 0, .int .i64 70, .int .i64 71] 28 (0, 0)) ∧ True)) (fun g16 V => True) 7 #[true, true, true, true, true, true, true, true, true, false, true, true, false, false, false, false, false, false] (fun g0 g9 g16 => { tmps := #[threeV a, Value.pointer (some { block := B, off := 0 }), Value.pointer (some { block := B + 1, off := 0 }), undef, Value.slice (some { block := g0, off := 0 }) 4 4, Value.pointer (some { block := B, off := 0 }), Value.int IntKind.i64 (a 0), Value.int IntKind.i64 (p : Int), Value.pointer (some { block := g0, off := p }), Value.int IntKind.i64 (erN13 p : Int), Value.pointer (some { block := B, off := 1 }), Value.int IntKind.i64 (a 1), Value.int IntKind.i64 (r : Int), undef, Value.pointer (some { block := B, off := 2 }), Value.int IntKind.i64 (a 2), undef, undef, undef, undef, undef, undef, undef, undef, undef, undef, undef, undef, undef, undef, undef], defers := [] }) ?_ ?_
    · clear hHeld V0
      intro g0 g9 g16 V0 hHeld hH
      (try dsimp only at hHeld); (try dsimp only at hH)
      refine wpAnyH_ready (rs := [9, 12, 16]) (by kernel_rfl) (by simp) ?_
      refine AllReadyH.cons rfl (fun K hK => ?_) ?_
      · rw [if_pos (by rfl)]
        go_simp
        have hgs := hHeld.1.size
        have hnw := Blk.new V0 (.cells #[.string ⟨#[]⟩, .string ⟨#[120]⟩, .string ⟨#[121, 121]⟩] 9)
        refine hK.out _ _ (⟨hHeld.1.alloc hHeld.1.size _, (Blk.below hHeld.2.1 ((Below.refl _ _).alloc (Nat.le_refl _) _)), trivial⟩) (fun hHeld2 => ?_)
        clear hK K hHeld
        have hHeld := hHeld2; clear hHeld2
        obtain ⟨V1, hV⟩ : ∃ W, V0.alloc (.cells #[.string ⟨#[]⟩, .string ⟨#[120]⟩, .string ⟨#[121, 121]⟩] 9) = W := ⟨_, rfl⟩
        rw [hV] at hHeld hnw ⊢
        clear hV
        obtain ⟨g9, hg⟩ : ∃ g, V0.heap.size = g := ⟨_, rfl⟩
        rw [hg] at hnw hgs ⊢
        clear hg
        refine wpAnyH_mono13 (S' := (fun W => Below W1.heap.size W1 W ∧ Blk W g0 (.cells #[.int .i64 0, .int .i64 0, .int .i64 70, .int .i64 71] 28 (0, 0)) ∧ Blk W g9 (.cells #[.string ⟨#[]⟩, .string ⟨#[120]⟩, .string ⟨#[121, 121]⟩] 9 (0, 0)))) (fun W h => ⟨h.1, h.2.1, trivial⟩) _ _ _ _ ?_
        have hHeld3 : (fun W => Below W1.heap.size W1 W ∧ Blk W g0 (.cells #[.int .i64 0, .int .i64 0, .int .i64 70, .int .i64 71] 28 (0, 0)) ∧ Blk W g9 (.cells #[.string ⟨#[]⟩, .string ⟨#[120]⟩, .string ⟨#[121, 121]⟩] 9 (0, 0))) V1 := ⟨hHeld.1, hHeld.2.1, hnw⟩
        clear hHeld
        have hHeld := hHeld3; clear hHeld3
        try dsimp only at hHeld
        refine wpAnyH_at13 (l' := #[true, true, true, true, true, true, true, true, true, true, true, true, false, false, false, false, false, false]) (f' := 6) (by kernel_rfl) rfl ?_
        exact T2_is g0 g9 0 _ hHeld trivial
      refine AllReadyH.cons rfl (fun K hK => ?_) ?_
      · rw [if_pos (by rfl)]
        go_simp
        ((with_reducible refine (q2 _).mono ?_); rintro e w' ⟨rfl, rfl⟩)
        refine hK.out _ _ (hHeld) (fun hHeld2 => ?_)
        clear hK K hHeld
        have hHeld := hHeld2; clear hHeld2
        refine wpAnyH_at13 (l' := #[true, true, true, true, true, true, true, true, true, false, true, true, true, false, false, false, false, false]) (f' := 6) (by kernel_rfl) rfl ?_
        exact T3_i g0 0 0 _ hHeld trivial
      refine AllReadyH.cons rfl (fun K hK => ?_) ?_
      · rw [if_pos (by rfl)]
        go_simp
        have hgs := hHeld.1.size
        have hnw := Blk.new V0 (.cells #[.int .i64 0, .int .i64 0, .string ⟨#[]⟩, .slice none 0 0] 31)
        refine hK.out _ _ (⟨hHeld.1.alloc hHeld.1.size _, (Blk.below hHeld.2.1 ((Below.refl _ _).alloc (Nat.le_refl _) _)), trivial⟩) (fun hHeld2 => ?_)
        clear hK K hHeld
        have hHeld := hHeld2; clear hHeld2
        obtain ⟨V1, hV⟩ : ∃ W, V0.alloc (.cells #[.int .i64 0, .int .i64 0, .string ⟨#[]⟩, .slice none 0 0] 31) = W := ⟨_, rfl⟩
        rw [hV] at hHeld hnw ⊢
        clear hV
        obtain ⟨g16, hg⟩ : ∃ g, V0.heap.size = g := ⟨_, rfl⟩
        rw [hg] at hnw hgs ⊢
        clear hg
        have hH := And.intro hgs hnw
        refine wpAnyH_at13 (l' := #[true, true, true, true, true, true, true, true, true, false, true, true, false, false, false, false, true, false]) (f' := 6) (by kernel_rfl) rfl ?_
        exact T2_ir g0 0 g16 _ hHeld hH
      exact AllReadyH.nil
    intro T2_i
    refine wpAnyH_cut13 (fun g0 g9 => (fun W => Below W1.heap.size W1 W ∧ True ∧ Blk W g9 (.cells #[.string ⟨#[]⟩, .string ⟨#[120]⟩, .string ⟨#[121, 121]⟩] 9 (0, 0)))) (fun g16 V => True) 9 #[false, true, true, true, false, false, true, true, true, true, true, true, false, false, false, false, false, false] (fun g0 g9 g16 => { tmps := #[threeV a, Value.pointer (some { block := B, off := 0 }), Value.pointer (some { block := B + 1, off := 0 }), undef, undef, Value.pointer (some { block := B, off := 0 }), Value.int IntKind.i64 (a 0), Value.int IntKind.i64 (p : Int), undef, undef, Value.pointer (some { block := B, off := 1 }), Value.int IntKind.i64 (a 1), Value.int IntKind.i64 (r : Int), Value.slice (some { block := g9, off := 0 }) 3 3, Value.pointer (some { block := B, off := 2 }), Value.int IntKind.i64 (a 2), undef, undef, undef, undef, undef, undef, undef, undef, undef, undef, undef, undef, undef, undef, undef], defers := [] }) ?_ ?_
    · clear hHeld V0
      intro g0 g9 g16 V0 hHeld hH
      (try dsimp only at hHeld); (try dsimp only at hH)
      refine wpAnyH_ready (rs := [0, 12, 16]) (by kernel_rfl) (by simp) ?_
      refine AllReadyH.cons rfl (fun K hK => ?_) ?_
      · rw [if_pos (by rfl)]
        go_simp
        have hgs := hHeld.1.size
        have hnw := Blk.new V0 (.cells #[.int .i64 0, .int .i64 0, .int .i64 70, .int .i64 71] 28)
        refine hK.out _ _ (⟨hHeld.1.alloc hHeld.1.size _, trivial, (Blk.below hHeld.2.2 ((Below.refl _ _).alloc (Nat.le_refl _) _))⟩) (fun hHeld2 => ?_)
        clear hK K hHeld
        have hHeld := hHeld2; clear hHeld2
        obtain ⟨V1, hV⟩ : ∃ W, V0.alloc (.cells #[.int .i64 0, .int .i64 0, .int .i64 70, .int .i64 71] 28) = W := ⟨_, rfl⟩
        rw [hV] at hHeld hnw ⊢
        clear hV
        obtain ⟨g0, hg⟩ : ∃ g, V0.heap.size = g := ⟨_, rfl⟩
        rw [hg] at hnw hgs ⊢
        clear hg
        refine wpAnyH_mono13 (S' := (fun W => Below W1.heap.size W1 W ∧ Blk W g0 (.cells #[.int .i64 0, .int .i64 0, .int .i64 70, .int .i64 71] 28 (0, 0)) ∧ Blk W g9 (.cells #[.string ⟨#[]⟩, .string ⟨#[120]⟩, .string ⟨#[121, 121]⟩] 9 (0, 0)))) (fun W h => ⟨h.1, trivial, h.2.2⟩) _ _ _ _ ?_
        have hHeld3 : (fun W => Below W1.heap.size W1 W ∧ Blk W g0 (.cells #[.int .i64 0, .int .i64 0, .int .i64 70, .int .i64 71] 28 (0, 0)) ∧ Blk W g9 (.cells #[.string ⟨#[]⟩, .string ⟨#[120]⟩, .string ⟨#[121, 121]⟩] 9 (0, 0))) V1 := ⟨hHeld.1, hnw, hHeld.2.2⟩
        clear hHeld
        have hHeld := hHeld3; clear hHeld3
        try dsimp only at hHeld
        refine wpAnyH_take (i := 4) (v := ?_) rfl (by kernel_rfl) (by kernel_rfl) (by kernel_rfl) (fun _ _ _ h => h) (Or.inl ⟨by rfl, ?_⟩) (by assumption) ?_
        rotate_left
        · (intro w hSw; (try dsimp only at hSw); go_simp; (try with_reducible rfl))
        simp only [Act.put, List.getElem_toArray, List.getElem_cons_zero, List.getElem_cons_succ, List.setIfInBounds_toArray, List.set_cons_zero, List.set_cons_succ]
        refine wpAnyH_take (i := 5) (v := ?_) rfl (by kernel_rfl) (by kernel_rfl) (by kernel_rfl) (fun _ _ _ h => h) (Or.inl ⟨by rfl, ?_⟩) (by assumption) ?_
        rotate_left
        · (intro w hSw; (try dsimp only at hSw); have xc := er_tab13 hSw.2.1 hp; go_simp; (try with_reducible rfl))
        simp only [Act.put, List.getElem_toArray, List.getElem_cons_zero, List.getElem_cons_succ, List.setIfInBounds_toArray, List.set_cons_zero, List.set_cons_succ]
        refine wpAnyH_at13 (l' := #[true, true, true, true, true, true, true, true, true, true, true, true, false, false, false, false, false, false]) (f' := 6) (by kernel_rfl) rfl ?_
        exact T2_is g0 g9 0 _ hHeld trivial
      refine AllReadyH.cons rfl (fun K hK => ?_) ?_
      · rw [if_pos (by rfl)]
        go_simp
        ((with_reducible refine (q2 _).mono ?_); rintro e w' ⟨rfl, rfl⟩)
        refine hK.out _ _ (hHeld) (fun hHeld2 => ?_)
        clear hK K hHeld
        have hHeld := hHeld2; clear hHeld2
        refine wpAnyH_take (i := 13) (v := ?_) rfl (by kernel_rfl) (by kernel_rfl) (by kernel_rfl) (fun _ _ _ h => h) (Or.inl ⟨by rfl, ?_⟩) (by assumption) ?_
        rotate_left
        · (intro w hSw; (try dsimp only at hSw); go_simp; (try with_reducible rfl))
        simp only [Act.put, List.getElem_toArray, List.getElem_cons_zero, List.getElem_cons_succ, List.setIfInBounds_toArray, List.set_cons_zero, List.set_cons_succ]
        refine wpAnyH_take (i := 14) (v := ?_) rfl (by kernel_rfl) (by kernel_rfl) (by kernel_rfl) (fun _ _ _ h => h) (Or.inl ⟨by rfl, ?_⟩) (by assumption) ?_
        rotate_left
        · (intro w hSw; (try dsimp only at hSw); have xc := va_tab13 hSw.2.2 hv; go_simp; (try with_reducible rfl))
        simp only [Act.put, List.getElem_toArray, List.getElem_cons_zero, List.getElem_cons_succ, List.setIfInBounds_toArray, List.set_cons_zero, List.set_cons_succ]
        refine wpAnyH_at13 (l' := #[false, true, true, true, false, false, true, true, true, true, true, true, true, true, true, false, false, false]) (f' := 6) (by kernel_rfl) rfl ?_
        exact T3_s 0 g9 0 _ hHeld trivial
      refine AllReadyH.cons rfl (fun K hK => ?_) ?_
      · rw [if_pos (by rfl)]
        go_simp
        have hgs := hHeld.1.size
        have hnw := Blk.new V0 (.cells #[.int .i64 0, .int .i64 0, .string ⟨#[]⟩, .slice none 0 0] 31)
        refine hK.out _ _ (⟨hHeld.1.alloc hHeld.1.size _, trivial, (Blk.below hHeld.2.2 ((Below.refl _ _).alloc (Nat.le_refl _) _))⟩) (fun hHeld2 => ?_)
        clear hK K hHeld
        have hHeld := hHeld2; clear hHeld2
        obtain ⟨V1, hV⟩ : ∃ W, V0.alloc (.cells #[.int .i64 0, .int .i64 0, .string ⟨#[]⟩, .slice none 0 0] 31) = W := ⟨_, rfl⟩
        rw [hV] at hHeld hnw ⊢
        clear hV
        obtain ⟨g16, hg⟩ : ∃ g, V0.heap.size = g := ⟨_, rfl⟩
        rw [hg] at hnw hgs ⊢
        clear hg
        have hH := And.intro hgs hnw
        refine wpAnyH_at13 (l' := #[false, true, true, true, false, false, true, true, true, true, true, true, false, false, false, false, true, false]) (f' := 8) (by kernel_rfl) rfl ?_
        exact T2_sr 0 g9 g16 _ hHeld hH
      exact AllReadyH.nil
    intro T2_s
    refine wpAnyH_cut13 (fun g0 g9 => (fun W => Below W1.heap.size W1 W ∧ True ∧ True)) (fun g16 V => (W1.heap.size ≤ g16 ∧ Blk V g16 (.cells #[.int .i64 0, .int .i64 0, .string ⟨#[]⟩, .slice none 0 0] 31 (0, 0)))) 9 #[false, true, true, true, false, false, true, true, true, false, true, true, false, false, false, false, true, false] (fun g0 g9 g16 => { tmps := #[threeV a, Value.pointer (some { block := B, off := 0 }), Value.pointer (some { block := B + 1, off := 0 }), Value.pointer (some { block := g16, off := 0 }), undef, Value.pointer (some { block := B, off := 0 }), Value.int IntKind.i64 (a 0), Value.int IntKind.i64 (p : Int), undef, undef, Value.pointer (some { block := B, off := 1 }), Value.int IntKind.i64 (a 1), Value.int IntKind.i64 (r : Int), undef, Value.pointer (some { block := B, off := 2 }), Value.int IntKind.i64 (a 2), undef, undef, undef, undef, undef, undef, undef, undef, undef, undef, undef, undef, undef, undef, undef], defers := [] }) ?_ ?_
    · clear hHeld V0
      intro g0 g9 g16 V0 hHeld hH
      (try dsimp only at hHeld); (try dsimp only at hH)
      refine wpAnyH_ready (rs := [0, 9, 12]) (by kernel_rfl) (by simp) ?_
      refine AllReadyH.cons rfl (fun K hK => ?_) ?_
      · rw [if_pos (by rfl)]
        go_simp
        have hgs := hHeld.1.size
        have hnw := Blk.new V0 (.cells #[.int .i64 0, .int .i64 0, .int .i64 70, .int .i64 71] 28)
        have hrp := Blk.below hH.2 (show Below V0.heap.size V0 (V0.alloc (.cells #[.int .i64 0, .int .i64 0, .int .i64 70, .int .i64 71] 28)) from (Below.refl _ _).alloc (Nat.le_refl _) _)
        refine hK.out _ _ (⟨hHeld.1.alloc hHeld.1.size _, trivial, trivial⟩) (fun hHeld2 => ?_)
        clear hK K hHeld
        have hHeld := hHeld2; clear hHeld2
        obtain ⟨V1, hV⟩ : ∃ W, V0.alloc (.cells #[.int .i64 0, .int .i64 0, .int .i64 70, .int .i64 71] 28) = W := ⟨_, rfl⟩
        rw [hV] at hHeld hnw hrp ⊢
        clear hV
        obtain ⟨g0, hg⟩ : ∃ g, V0.heap.size = g := ⟨_, rfl⟩
        rw [hg] at hnw hgs ⊢
        clear hg
        have hH := And.intro hH.1 hrp
        refine wpAnyH_mono13 (S' := (fun W => Below W1.heap.size W1 W ∧ Blk W g0 (.cells #[.int .i64 0, .int .i64 0, .int .i64 70, .int .i64 71] 28 (0, 0)) ∧ True)) (fun W h => ⟨h.1, trivial, trivial⟩) _ _ _ _ ?_
        have hHeld3 : (fun W => Below W1.heap.size W1 W ∧ Blk W g0 (.cells #[.int .i64 0, .int .i64 0, .int .i64 70, .int .i64 71] 28 (0, 0)) ∧ True) V1 := ⟨hHeld.1, hnw, trivial⟩
        clear hHeld
        have hHeld := hHeld3; clear hHeld3
        try dsimp only at hHeld
        refine wpAnyH_take (i := 4) (v := ?_) rfl (by kernel_rfl) (by kernel_rfl) (by kernel_rfl) (fun _ _ _ h => h) (Or.inl ⟨by rfl, ?_⟩) (by assumption) ?_
        rotate_left
        · (intro w hSw; (try dsimp only at hSw); go_simp; (try with_reducible rfl))
        simp only [Act.put, List.getElem_toArray, List.getElem_cons_zero, List.getElem_cons_succ, List.setIfInBounds_toArray, List.set_cons_zero, List.set_cons_succ]
        refine wpAnyH_take (i := 5) (v := ?_) rfl (by kernel_rfl) (by kernel_rfl) (by kernel_rfl) (fun _ _ _ h => h) (Or.inl ⟨by rfl, ?_⟩) (by assumption) ?_
        rotate_left
        · (intro w hSw; (try dsimp only at hSw); have xc := er_tab13 hSw.2.1 hp; go_simp; (try with_reducible rfl))
        simp only [Act.put, List.getElem_toArray, List.getElem_cons_zero, List.getElem_cons_succ, List.setIfInBounds_toArray, List.set_cons_zero, List.set_cons_succ]
        refine wpAnyH_at13 (l' := #[true, true, true, true, true, true, true, true, true, false, true, true, false, false, false, false, true, false]) (f' := 6) (by kernel_rfl) rfl ?_
        exact T2_ir g0 0 g16 _ hHeld hH
      refine AllReadyH.cons rfl (fun K hK => ?_) ?_
      · rw [if_pos (by rfl)]
        go_simp
        have hgs := hHeld.1.size
        have hnw := Blk.new V0 (.cells #[.string ⟨#[]⟩, .string ⟨#[120]⟩, .string ⟨#[121, 121]⟩] 9)
        have hrp := Blk.below hH.2 (show Below V0.heap.size V0 (V0.alloc (.cells #[.string ⟨#[]⟩, .string ⟨#[120]⟩, .string ⟨#[121, 121]⟩] 9)) from (Below.refl _ _).alloc (Nat.le_refl _) _)
        refine hK.out _ _ (⟨hHeld.1.alloc hHeld.1.size _, trivial, trivial⟩) (fun hHeld2 => ?_)
        clear hK K hHeld
        have hHeld := hHeld2; clear hHeld2
        obtain ⟨V1, hV⟩ : ∃ W, V0.alloc (.cells #[.string ⟨#[]⟩, .string ⟨#[120]⟩, .string ⟨#[121, 121]⟩] 9) = W := ⟨_, rfl⟩
        rw [hV] at hHeld hnw hrp ⊢
        clear hV
        obtain ⟨g9, hg⟩ : ∃ g, V0.heap.size = g := ⟨_, rfl⟩
        rw [hg] at hnw hgs ⊢
        clear hg
        have hH := And.intro hH.1 hrp
        refine wpAnyH_mono13 (S' := (fun W => Below W1.heap.size W1 W ∧ True ∧ Blk W g9 (.cells #[.string ⟨#[]⟩, .string ⟨#[120]⟩, .string ⟨#[121, 121]⟩] 9 (0, 0)))) (fun W h => ⟨h.1, trivial, trivial⟩) _ _ _ _ ?_
        have hHeld3 : (fun W => Below W1.heap.size W1 W ∧ True ∧ Blk W g9 (.cells #[.string ⟨#[]⟩, .string ⟨#[120]⟩, .string ⟨#[121, 121]⟩] 9 (0, 0))) V1 := ⟨hHeld.1, trivial, hnw⟩
        clear hHeld
        have hHeld := hHeld3; clear hHeld3
        try dsimp only at hHeld
        refine wpAnyH_at13 (l' := #[false, true, true, true, false, false, true, true, true, true, true, true, false, false, false, false, true, false]) (f' := 8) (by kernel_rfl) rfl ?_
        exact T2_sr 0 g9 g16 _ hHeld hH
      refine AllReadyH.cons rfl (fun K hK => ?_) ?_
      · rw [if_pos (by rfl)]
        go_simp
        ((with_reducible refine (q2 _).mono ?_); rintro e w' ⟨rfl, rfl⟩)
        refine hK.out _ _ (hHeld) (fun hHeld2 => ?_)
        clear hK K hHeld
        have hHeld := hHeld2; clear hHeld2
        refine wpAnyH_at13 (l' := #[false, true, true, true, false, false, true, true, true, false, true, true, true, false, false, false, true, false]) (f' := 8) (by kernel_rfl) rfl ?_
        exact T3_r 0 0 g16 _ hHeld hH
      exact AllReadyH.nil
    intro T2_r
    refine wpAnyH_cut13 (fun g0 g9 => (fun W => Below W1.heap.size W1 W ∧ True ∧ True)) (fun g16 V => True) 9 #[false, true, true, true, false, false, true, true, true, false, true, true, true, false, false, false, false, false] (fun g0 g9 g16 => { tmps := #[threeV a, Value.pointer (some { block := B, off := 0 }), Value.pointer (some { block := B + 1, off := 0 }), undef, undef, Value.pointer (some { block := B, off := 0 }), Value.int IntKind.i64 (a 0), Value.int IntKind.i64 (p : Int), undef, undef, Value.pointer (some { block := B, off := 1 }), Value.int IntKind.i64 (a 1), Value.int IntKind.i64 (r : Int), undef, Value.pointer (some { block := B, off := 2 }), Value.int IntKind.i64 (a 2), Value.int IntKind.i64 (v : Int), undef, undef, undef, undef, undef, undef, undef, undef, undef, undef, undef, undef, undef, undef], defers := [] }) ?_ ?_
    · clear hHeld V0
      intro g0 g9 g16 V0 hHeld hH
      (try dsimp only at hHeld); (try dsimp only at hH)
      refine wpAnyH_ready (rs := [0, 9, 16]) (by kernel_rfl) (by simp) ?_
      refine AllReadyH.cons rfl (fun K hK => ?_) ?_
      · rw [if_pos (by rfl)]
        go_simp
        have hgs := hHeld.1.size
        have hnw := Blk.new V0 (.cells #[.int .i64 0, .int .i64 0, .int .i64 70, .int .i64 71] 28)
        refine hK.out _ _ (⟨hHeld.1.alloc hHeld.1.size _, trivial, trivial⟩) (fun hHeld2 => ?_)
        clear hK K hHeld
        have hHeld := hHeld2; clear hHeld2
        obtain ⟨V1, hV⟩ : ∃ W, V0.alloc (.cells #[.int .i64 0, .int .i64 0, .int .i64 70, .int .i64 71] 28) = W := ⟨_, rfl⟩
        rw [hV] at hHeld hnw ⊢
        clear hV
        obtain ⟨g0, hg⟩ : ∃ g, V0.heap.size = g := ⟨_, rfl⟩
        rw [hg] at hnw hgs ⊢
        clear hg
        refine wpAnyH_mono13 (S' := (fun W => Below W1.heap.size W1 W ∧ Blk W g0 (.cells #[.int .i64 0, .int .i64 0, .int .i64 70, .int .i64 71] 28 (0, 0)) ∧ True)) (fun W h => ⟨h.1, trivial, trivial⟩) _ _ _ _ ?_
        have hHeld3 : (fun W => Below W1.heap.size W1 W ∧ Blk W g0 (.cells #[.int .i64 0, .int .i64 0, .int .i64 70, .int .i64 71] 28 (0, 0)) ∧ True) V1 := ⟨hHeld.1, hnw, trivial⟩
        clear hHeld
        have hHeld := hHeld3; clear hHeld3
        try dsimp only at hHeld
        refine wpAnyH_take (i := 4) (v := ?_) rfl (by kernel_rfl) (by kernel_rfl) (by kernel_rfl) (fun _ _ _ h => h) (Or.inl ⟨by rfl, ?_⟩) (by assumption) ?_
        rotate_left
        · (intro w hSw; (try dsimp only at hSw); go_simp; (try with_reducible rfl))
        simp only [Act.put, List.getElem_toArray, List.getElem_cons_zero, List.getElem_cons_succ, List.setIfInBounds_toArray, List.set_cons_zero, List.set_cons_succ]
        refine wpAnyH_take (i := 5) (v := ?_) rfl (by kernel_rfl) (by kernel_rfl) (by kernel_rfl) (fun _ _ _ h => h) (Or.inl ⟨by rfl, ?_⟩) (by assumption) ?_
        rotate_left
        · (intro w hSw; (try dsimp only at hSw); have xc := er_tab13 hSw.2.1 hp; go_simp; (try with_reducible rfl))
        simp only [Act.put, List.getElem_toArray, List.getElem_cons_zero, List.getElem_cons_succ, List.setIfInBounds_toArray, List.set_cons_zero, List.set_cons_succ]
        refine wpAnyH_at13 (l' := #[true, true, true, true, true, true, true, true, true, false, true, true, true, false, false, false, false, false]) (f' := 6) (by kernel_rfl) rfl ?_
        exact T3_i g0 0 0 _ hHeld trivial
      refine AllReadyH.cons rfl (fun K hK => ?_) ?_
      · rw [if_pos (by rfl)]
        go_simp
        have hgs := hHeld.1.size
        have hnw := Blk.new V0 (.cells #[.string ⟨#[]⟩, .string ⟨#[120]⟩, .string ⟨#[121, 121]⟩] 9)
        refine hK.out _ _ (⟨hHeld.1.alloc hHeld.1.size _, trivial, trivial⟩) (fun hHeld2 => ?_)
        clear hK K hHeld
        have hHeld := hHeld2; clear hHeld2
        obtain ⟨V1, hV⟩ : ∃ W, V0.alloc (.cells #[.string ⟨#[]⟩, .string ⟨#[120]⟩, .string ⟨#[121, 121]⟩] 9) = W := ⟨_, rfl⟩
        rw [hV] at hHeld hnw ⊢
        clear hV
        obtain ⟨g9, hg⟩ : ∃ g, V0.heap.size = g := ⟨_, rfl⟩
        rw [hg] at hnw hgs ⊢
        clear hg
        refine wpAnyH_mono13 (S' := (fun W => Below W1.heap.size W1 W ∧ True ∧ Blk W g9 (.cells #[.string ⟨#[]⟩, .string ⟨#[120]⟩, .string ⟨#[121, 121]⟩] 9 (0, 0)))) (fun W h => ⟨h.1, trivial, trivial⟩) _ _ _ _ ?_
        have hHeld3 : (fun W => Below W1.heap.size W1 W ∧ True ∧ Blk W g9 (.cells #[.string ⟨#[]⟩, .string ⟨#[120]⟩, .string ⟨#[121, 121]⟩] 9 (0, 0))) V1 := ⟨hHeld.1, trivial, hnw⟩
        clear hHeld
        have hHeld := hHeld3; clear hHeld3
        try dsimp only at hHeld
        refine wpAnyH_take (i := 13) (v := ?_) rfl (by kernel_rfl) (by kernel_rfl) (by kernel_rfl) (fun _ _ _ h => h) (Or.inl ⟨by rfl, ?_⟩) (by assumption) ?_
        rotate_left
        · (intro w hSw; (try dsimp only at hSw); go_simp; (try with_reducible rfl))
        simp only [Act.put, List.getElem_toArray, List.getElem_cons_zero, List.getElem_cons_succ, List.setIfInBounds_toArray, List.set_cons_zero, List.set_cons_succ]
        refine wpAnyH_take (i := 14) (v := ?_) rfl (by kernel_rfl) (by kernel_rfl) (by kernel_rfl) (fun _ _ _ h => h) (Or.inl ⟨by rfl, ?_⟩) (by assumption) ?_
        rotate_left
        · (intro w hSw; (try dsimp only at hSw); have xc := va_tab13 hSw.2.2 hv; go_simp; (try with_reducible rfl))
        simp only [Act.put, List.getElem_toArray, List.getElem_cons_zero, List.getElem_cons_succ, List.setIfInBounds_toArray, List.set_cons_zero, List.set_cons_succ]
        refine wpAnyH_at13 (l' := #[false, true, true, true, false, false, true, true, true, true, true, true, true, true, true, false, false, false]) (f' := 6) (by kernel_rfl) rfl ?_
        exact T3_s 0 g9 0 _ hHeld trivial
      refine AllReadyH.cons rfl (fun K hK => ?_) ?_
      · rw [if_pos (by rfl)]
        go_simp
        have hgs := hHeld.1.size
        have hnw := Blk.new V0 (.cells #[.int .i64 0, .int .i64 0, .string ⟨#[]⟩, .slice none 0 0] 31)
        refine hK.out _ _ (⟨hHeld.1.alloc hHeld.1.size _, trivial, trivial⟩) (fun hHeld2 => ?_)
        clear hK K hHeld
        have hHeld := hHeld2; clear hHeld2
        obtain ⟨V1, hV⟩ : ∃ W, V0.alloc (.cells #[.int .i64 0, .int .i64 0, .string ⟨#[]⟩, .slice none 0 0] 31) = W := ⟨_, rfl⟩
        rw [hV] at hHeld hnw ⊢
        clear hV
        obtain ⟨g16, hg⟩ : ∃ g, V0.heap.size = g := ⟨_, rfl⟩
        rw [hg] at hnw hgs ⊢
        clear hg
        have hH := And.intro hgs hnw
        refine wpAnyH_at13 (l' := #[false, true, true, true, false, false, true, true, true, false, true, true, true, false, false, false, true, false]) (f' := 8) (by kernel_rfl) rfl ?_
        exact T3_r 0 0 g16 _ hHeld hH
      exact AllReadyH.nil
    intro T3_
    refine wpAnyH_cut13 (fun g0 g9 => (fun W => Below W1.heap.size W1 W ∧ Blk W g0 (.cells #[.int .i64 0, .int .i64 0, .int .i64 70, .int .i64 71] 28 (0, 0)) ∧ Blk W g9 (.cells #[.string ⟨#[]⟩, .string ⟨#[120]⟩, .string ⟨#[121, 121]⟩] 9 (0, 0)))) (fun g16 V => True) 10 #[true, true, true, false, false, false, true, true, false, true, true, true, false, false, false, false, false, false] (fun g0 g9 g16 => { tmps := #[threeV a, Value.pointer (some { block := B, off := 0 }), Value.pointer (some { block := B + 1, off := 0 }), undef, Value.slice (some { block := g0, off := 0 }) 4 4, Value.pointer (some { block := B, off := 0 }), Value.int IntKind.i64 (a 0), undef, undef, undef, Value.pointer (some { block := B, off := 1 }), Value.int IntKind.i64 (a 1), undef, Value.slice (some { block := g9, off := 0 }) 3 3, Value.pointer (some { block := B, off := 2 }), Value.int IntKind.i64 (a 2), undef, undef, undef, undef, undef, undef, undef, undef, undef, undef, undef, undef, undef, undef, undef], defers := [] }) ?_ ?_
    · clear hHeld V0
      intro g0 g9 g16 V0 hHeld hH
      (try dsimp only at hHeld); (try dsimp only at hH)
      refine wpAnyH_ready (rs := [3, 16]) (by kernel_rfl) (by simp) ?_
      refine AllReadyH.cons rfl (fun K hK => ?_) ?_
      · rw [if_pos (by rfl)]
        go_simp
        ((with_reducible refine (q0 _).mono ?_); rintro e w' ⟨rfl, rfl⟩)
        refine hK.out _ _ (hHeld) (fun hHeld2 => ?_)
        clear hK K hHeld
        have hHeld := hHeld2; clear hHeld2
        refine wpAnyH_take (i := 4) (v := ?_) rfl (by kernel_rfl) (by kernel_rfl) (by kernel_rfl) (fun _ _ _ h => h) (Or.inl ⟨by rfl, ?_⟩) (by assumption) ?_
        rotate_left
        · (intro w hSw; (try dsimp only at hSw); go_simp; (try with_reducible rfl))
        simp only [Act.put, List.getElem_toArray, List.getElem_cons_zero, List.getElem_cons_succ, List.setIfInBounds_toArray, List.set_cons_zero, List.set_cons_succ]
        refine wpAnyH_take (i := 5) (v := ?_) rfl (by kernel_rfl) (by kernel_rfl) (by kernel_rfl) (fun _ _ _ h => h) (Or.inl ⟨by rfl, ?_⟩) (by assumption) ?_
        rotate_left
        · (intro w hSw; (try dsimp only at hSw); have xc := er_tab13 hSw.2.1 hp; go_simp; (try with_reducible rfl))
        simp only [Act.put, List.getElem_toArray, List.getElem_cons_zero, List.getElem_cons_succ, List.setIfInBounds_toArray, List.set_cons_zero, List.set_cons_succ]
        refine wpAnyH_at13 (l' := #[true, true, true, true, true, true, true, true, false, true, true, true, false, false, false, false, false, false]) (f' := 7) (by kernel_rfl) rfl ?_
        exact T1_is g0 g9 0 _ hHeld trivial
      refine AllReadyH.cons rfl (fun K hK => ?_) ?_
      · rw [if_pos (by rfl)]
        go_simp
        have hgs := hHeld.1.size
        have hnw := Blk.new V0 (.cells #[.int .i64 0, .int .i64 0, .string ⟨#[]⟩, .slice none 0 0] 31)
        refine hK.out _ _ (⟨hHeld.1.alloc hHeld.1.size _, (Blk.below hHeld.2.1 ((Below.refl _ _).alloc (Nat.le_refl _) _)), (Blk.below hHeld.2.2 ((Below.refl _ _).alloc (Nat.le_refl _) _))⟩) (fun hHeld2 => ?_)
        clear hK K hHeld
        have hHeld := hHeld2; clear hHeld2
        obtain ⟨V1, hV⟩ : ∃ W, V0.alloc (.cells #[.int .i64 0, .int .i64 0, .string ⟨#[]⟩, .slice none 0 0] 31) = W := ⟨_, rfl⟩
        rw [hV] at hHeld hnw ⊢
        clear hV
        obtain ⟨g16, hg⟩ : ∃ g, V0.heap.size = g := ⟨_, rfl⟩
        rw [hg] at hnw hgs ⊢
        clear hg
        have hH := And.intro hgs hnw
        refine wpAnyH_at13 (l' := #[true, true, true, false, false, false, true, true, false, true, true, true, false, false, false, false, true, false]) (f' := 9) (by kernel_rfl) rfl ?_
        exact T0_isr g0 g9 g16 _ hHeld hH
      exact AllReadyH.nil
    intro T0_is
    refine wpAnyH_cut13 (fun g0 g9 => (fun W => Below W1.heap.size W1 W ∧ Blk W g0 (.cells #[.int .i64 0, .int .i64 0, .int .i64 70, .int .i64 71] 28 (0, 0)) ∧ True)) (fun g16 V => (W1.heap.size ≤ g16 ∧ Blk V g16 (.cells #[.int .i64 0, .int .i64 0, .string ⟨#[]⟩, .slice none 0 0] 31 (0, 0)))) 10 #[true, true, true, false, false, false, true, true, false, false, true, true, false, false, false, false, true, false] (fun g0 g9 g16 => { tmps := #[threeV a, Value.pointer (some { block := B, off := 0 }), Value.pointer (some { block := B + 1, off := 0 }), Value.pointer (some { block := g16, off := 0 }), Value.slice (some { block := g0, off := 0 }) 4 4, Value.pointer (some { block := B, off := 0 }), Value.int IntKind.i64 (a 0), undef, undef, undef, Value.pointer (some { block := B, off := 1 }), Value.int IntKind.i64 (a 1), undef, undef, Value.pointer (some { block := B, off := 2 }), Value.int IntKind.i64 (a 2), undef, undef, undef, undef, undef, undef, undef, undef, undef, undef, undef, undef, undef, undef, undef], defers := [] }) ?_ ?_
    · clear hHeld V0
      intro g0 g9 g16 V0 hHeld hH
      (try dsimp only at hHeld); (try dsimp only at hH)
      refine wpAnyH_ready (rs := [3, 9]) (by kernel_rfl) (by simp) ?_
      refine AllReadyH.cons rfl (fun K hK => ?_) ?_
      · rw [if_pos (by rfl)]
        go_simp
        ((with_reducible refine (q0 _).mono ?_); rintro e w' ⟨rfl, rfl⟩)
        refine hK.out _ _ (hHeld) (fun hHeld2 => ?_)
        clear hK K hHeld
        have hHeld := hHeld2; clear hHeld2
        refine wpAnyH_take (i := 4) (v := ?_) rfl (by kernel_rfl) (by kernel_rfl) (by kernel_rfl) (fun _ _ _ h => h) (Or.inl ⟨by rfl, ?_⟩) (by assumption) ?_
        rotate_left
        · (intro w hSw; (try dsimp only at hSw); go_simp; (try with_reducible rfl))
        simp only [Act.put, List.getElem_toArray, List.getElem_cons_zero, List.getElem_cons_succ, List.setIfInBounds_toArray, List.set_cons_zero, List.set_cons_succ]
        refine wpAnyH_take (i := 5) (v := ?_) rfl (by kernel_rfl) (by kernel_rfl) (by kernel_rfl) (fun _ _ _ h => h) (Or.inl ⟨by rfl, ?_⟩) (by assumption) ?_
        rotate_left
        · (intro w hSw; (try dsimp only at hSw); have xc := er_tab13 hSw.2.1 hp; go_simp; (try with_reducible rfl))
        simp only [Act.put, List.getElem_toArray, List.getElem_cons_zero, List.getElem_cons_succ, List.setIfInBounds_toArray, List.set_cons_zero, List.set_cons_succ]
        refine wpAnyH_at13 (l' := #[true, true, true, true, true, true, true, true, false, false, true, true, false, false, false, false, true, false]) (f' := 7) (by kernel_rfl) rfl ?_
        exact T1_ir g0 0 g16 _ hHeld hH
      refine AllReadyH.cons rfl (fun K hK => ?_) ?_
      · rw [if_pos (by rfl)]
        go_simp
        have hgs := hHeld.1.size
        have hnw := Blk.new V0 (.cells #[.string ⟨#[]⟩, .string ⟨#[120]⟩, .string ⟨#[121, 121]⟩] 9)
        have hrp := Blk.below hH.2 (show Below V0.heap.size V0 (V0.alloc (.cells #[.string ⟨#[]⟩, .string ⟨#[120]⟩, .string ⟨#[121, 121]⟩] 9)) from (Below.refl _ _).alloc (Nat.le_refl _) _)
        refine hK.out _ _ (⟨hHeld.1.alloc hHeld.1.size _, (Blk.below hHeld.2.1 ((Below.refl _ _).alloc (Nat.le_refl _) _)), trivial⟩) (fun hHeld2 => ?_)
        clear hK K hHeld
        have hHeld := hHeld2; clear hHeld2
        obtain ⟨V1, hV⟩ : ∃ W, V0.alloc (.cells #[.string ⟨#[]⟩, .string ⟨#[120]⟩, .string ⟨#[121, 121]⟩] 9) = W := ⟨_, rfl⟩
        rw [hV] at hHeld hnw hrp ⊢
        clear hV
        obtain ⟨g9, hg⟩ : ∃ g, V0.heap.size = g := ⟨_, rfl⟩
        rw [hg] at hnw hgs ⊢
        clear hg
        have hH := And.intro hH.1 hrp
        refine wpAnyH_mono13 (S' := (fun W => Below W1.heap.size W1 W ∧ Blk W g0 (.cells #[.int .i64 0, .int .i64 0, .int .i64 70, .int .i64 71] 28 (0, 0)) ∧ Blk W g9 (.cells #[.string ⟨#[]⟩, .string ⟨#[120]⟩, .string ⟨#[121, 121]⟩] 9 (0, 0)))) (fun W h => ⟨h.1, h.2.1, trivial⟩) _ _ _ _ ?_
        have hHeld3 : (fun W => Below W1.heap.size W1 W ∧ Blk W g0 (.cells #[.int .i64 0, .int .i64 0, .int .i64 70, .int .i64 71] 28 (0, 0)) ∧ Blk W g9 (.cells #[.string ⟨#[]⟩, .string ⟨#[120]⟩, .string ⟨#[121, 121]⟩] 9 (0, 0))) V1 := ⟨hHeld.1, hHeld.2.1, hnw⟩
        clear hHeld
        have hHeld := hHeld3; clear hHeld3
        try dsimp only at hHeld
        refine wpAnyH_at13 (l' := #[true, true, true, false, false, false, true, true, false, true, true, true, false, false, false, false, true, false]) (f' := 9) (by kernel_rfl) rfl ?_
        exact T0_isr g0 g9 g16 _ hHeld hH
      exact AllReadyH.nil
    intro T0_ir
    refine wpAnyH_cut13 (fun g0 g9 => (fun W => Below W1.heap.size W1 W ∧ True ∧ Blk W g9 (.cells #[.string ⟨#[]⟩, .string ⟨#[120]⟩, .string ⟨#[121, 121]⟩] 9 (0, 0)))) (fun g16 V => (W1.heap.size ≤ g16 ∧ Blk V g16 (.cells #[.int .i64 0, .int .i64 0, .string ⟨#[]⟩, .slice none 0 0] 31 (0, 0)))) 10 #[false, true, true, false, false, false, true, true, false, true, true, true, false, false, false, false, true, false] (fun g0 g9 g16 => { tmps := #[threeV a, Value.pointer (some { block := B, off := 0 }), Value.pointer (some { block := B + 1, off := 0 }), Value.pointer (some { block := g16, off := 0 }), undef, Value.pointer (some { block := B, off := 0 }), Value.int IntKind.i64 (a 0), undef, undef, undef, Value.pointer (some { block := B, off := 1 }), Value.int IntKind.i64 (a 1), undef, Value.slice (some { block := g9, off := 0 }) 3 3, Value.pointer (some { block := B, off := 2 }), Value.int IntKind.i64 (a 2), undef, undef, undef, undef, undef, undef, undef, undef, undef, undef, undef, undef, undef, undef, undef], defers := [] }) ?_ ?_
    · clear hHeld V0
      intro g0 g9 g16 V0 hHeld hH
      (try dsimp only at hHeld); (try dsimp only at hH)
      refine wpAnyH_ready (rs := [0, 3]) (by kernel_rfl) (by simp) ?_
      refine AllReadyH.cons rfl (fun K hK => ?_) ?_
      · rw [if_pos (by rfl)]
        go_simp
        have hgs := hHeld.1.size
        have hnw := Blk.new V0 (.cells #[.int .i64 0, .int .i64 0, .int .i64 70, .int .i64 71] 28)
        have hrp := Blk.below hH.2 (show Below V0.heap.size V0 (V0.alloc (.cells #[.int .i64 0, .int .i64 0, .int .i64 70, .int .i64 71] 28)) from (Below.refl _ _).alloc (Nat.le_refl _) _)
        refine hK.out _ _ (⟨hHeld.1.alloc hHeld.1.size _, trivial, (Blk.below hHeld.2.2 ((Below.refl _ _).alloc (Nat.le_refl _) _))⟩) (fun hHeld2 => ?_)
        clear hK K hHeld
        have hHeld := hHeld2; clear hHeld2
        obtain ⟨V1, hV⟩ : ∃ W, V0.alloc (.cells #[.int .i64 0, .int .i64 0, .int .i64 70, .int .i64 71] 28) = W := ⟨_, rfl⟩
        rw [hV] at hHeld hnw hrp ⊢
        clear hV
        obtain ⟨g0, hg⟩ : ∃ g, V0.heap.size = g := ⟨_, rfl⟩
        rw [hg] at hnw hgs ⊢
        clear hg
        have hH := And.intro hH.1 hrp
        refine wpAnyH_mono13 (S' := (fun W => Below W1.heap.size W1 W ∧ Blk W g0 (.cells #[.int .i64 0, .int .i64 0, .int .i64 70, .int .i64 71] 28 (0, 0)) ∧ Blk W g9 (.cells #[.string ⟨#[]⟩, .string ⟨#[120]⟩, .string ⟨#[121, 121]⟩] 9 (0, 0)))) (fun W h => ⟨h.1, trivial, h.2.2⟩) _ _ _ _ ?_
        have hHeld3 : (fun W => Below W1.heap.size W1 W ∧ Blk W g0 (.cells #[.int .i64 0, .int .i64 0, .int .i64 70, .int .i64 71] 28 (0, 0)) ∧ Blk W g9 (.cells #[.string ⟨#[]⟩, .string ⟨#[120]⟩, .string ⟨#[121, 121]⟩] 9 (0, 0))) V1 := ⟨hHeld.1, hnw, hHeld.2.2⟩
        clear hHeld
        have hHeld := hHeld3; clear hHeld3
        try dsimp only at hHeld
        refine wpAnyH_at13 (l' := #[true, true, true, false, false, false, true, true, false, true, true, true, false, false, false, false, true, false]) (f' := 9) (by kernel_rfl) rfl ?_
        exact T0_isr g0 g9 g16 _ hHeld hH
      refine AllReadyH.cons rfl (fun K hK => ?_) ?_
      · rw [if_pos (by rfl)]
        go_simp
        ((with_reducible refine (q0 _).mono ?_); rintro e w' ⟨rfl, rfl⟩)
        refine hK.out _ _ (hHeld) (fun hHeld2 => ?_)
        clear hK K hHeld
        have hHeld := hHeld2; clear hHeld2
        refine wpAnyH_at13 (l' := #[false, true, true, true, false, false, true, true, false, true, true, true, false, false, false, false, true, false]) (f' := 9) (by kernel_rfl) rfl ?_
        exact T1_sr 0 g9 g16 _ hHeld hH
      exact AllReadyH.nil
    intro T0_sr
    refine wpAnyH_cut13 (fun g0 g9 => (fun W => Below W1.heap.size W1 W ∧ Blk W g0 (.cells #[.int .i64 0, .int .i64 0, .int .i64 70, .int .i64 71] 28 (0, 0)) ∧ True)) (fun g16 V => True) 8 #[true, true, true, true, true, true, true, true, false, false, true, true, false, false, false, false, false, false] (fun g0 g9 g16 => { tmps := #[threeV a, Value.pointer (some { block := B, off := 0 }), Value.pointer (some { block := B + 1, off := 0 }), undef, Value.slice (some { block := g0, off := 0 }) 4 4, Value.pointer (some { block := B, off := 0 }), Value.int IntKind.i64 (a 0), Value.int IntKind.i64 (p : Int), Value.pointer (some { block := g0, off := p }), Value.int IntKind.i64 (erN13 p : Int), Value.pointer (some { block := B, off := 1 }), Value.int IntKind.i64 (a 1), undef, undef, Value.pointer (some { block := B, off := 2 }), Value.int IntKind.i64 (a 2), undef, undef, undef, undef, undef, undef, undef, undef, undef, undef, undef, undef, undef, undef, undef], defers := [] }) ?_ ?_
    · clear hHeld V0
      intro g0 g9 g16 V0 hHeld hH
      (try dsimp only at hHeld); (try dsimp only at hH)
      refine wpAnyH_ready (rs := [8, 9, 16]) (by kernel_rfl) (by simp) ?_
      refine AllReadyH.cons rfl (fun K hK => ?_) ?_
      · rw [if_pos (by rfl)]
        go_simp
        ((with_reducible refine (q1 _).mono ?_); rintro e w' ⟨rfl, rfl⟩)
        refine hK.out _ _ (hHeld) (fun hHeld2 => ?_)
        clear hK K hHeld
        have hHeld := hHeld2; clear hHeld2
        refine wpAnyH_at13 (l' := #[true, true, true, true, true, true, true, true, true, false, true, true, false, false, false, false, false, false]) (f' := 7) (by kernel_rfl) rfl ?_
        exact T2_i g0 0 0 _ hHeld trivial
      refine AllReadyH.cons rfl (fun K hK => ?_) ?_
      · rw [if_pos (by rfl)]
        go_simp
        have hgs := hHeld.1.size
        have hnw := Blk.new V0 (.cells #[.string ⟨#[]⟩, .string ⟨#[120]⟩, .string ⟨#[121, 121]⟩] 9)
        refine hK.out _ _ (⟨hHeld.1.alloc hHeld.1.size _, (Blk.below hHeld.2.1 ((Below.refl _ _).alloc (Nat.le_refl _) _)), trivial⟩) (fun hHeld2 => ?_)
        clear hK K hHeld
        have hHeld := hHeld2; clear hHeld2
        obtain ⟨V1, hV⟩ : ∃ W, V0.alloc (.cells #[.string ⟨#[]⟩, .string ⟨#[120]⟩, .string ⟨#[121, 121]⟩] 9) = W := ⟨_, rfl⟩
        rw [hV] at hHeld hnw ⊢
        clear hV
        obtain ⟨g9, hg⟩ : ∃ g, V0.heap.size = g := ⟨_, rfl⟩
        rw [hg] at hnw hgs ⊢
        clear hg
        refine wpAnyH_mono13 (S' := (fun W => Below W1.heap.size W1 W ∧ Blk W g0 (.cells #[.int .i64 0, .int .i64 0, .int .i64 70, .int .i64 71] 28 (0, 0)) ∧ Blk W g9 (.cells #[.string ⟨#[]⟩, .string ⟨#[120]⟩, .string ⟨#[121, 121]⟩] 9 (0, 0)))) (fun W h => ⟨h.1, h.2.1, trivial⟩) _ _ _ _ ?_
        have hHeld3 : (fun W => Below W1.heap.size W1 W ∧ Blk W g0 (.cells #[.int .i64 0, .int .i64 0, .int .i64 70, .int .i64 71] 28 (0, 0)) ∧ Blk W g9 (.cells #[.string ⟨#[]⟩, .string ⟨#[120]⟩, .string ⟨#[121, 121]⟩] 9 (0, 0))) V1 := ⟨hHeld.1, hHeld.2.1, hnw⟩
        clear hHeld
        have hHeld := hHeld3; clear hHeld3
        try dsimp only at hHeld
        refine wpAnyH_at13 (l' := #[true, true, true, true, true, true, true, true, false, true, true, true, false, false, false, false, false, false]) (f' := 7) (by kernel_rfl) rfl ?_
        exact T1_is g0 g9 0 _ hHeld trivial
      refine AllReadyH.cons rfl (fun K hK => ?_) ?_
      · rw [if_pos (by rfl)]
        go_simp
        have hgs := hHeld.1.size
        have hnw := Blk.new V0 (.cells #[.int .i64 0, .int .i64 0, .string ⟨#[]⟩, .slice none 0 0] 31)
        refine hK.out _ _ (⟨hHeld.1.alloc hHeld.1.size _, (Blk.below hHeld.2.1 ((Below.refl _ _).alloc (Nat.le_refl _) _)), trivial⟩) (fun hHeld2 => ?_)
        clear hK K hHeld
        have hHeld := hHeld2; clear hHeld2
        obtain ⟨V1, hV⟩ : ∃ W, V0.alloc (.cells #[.int .i64 0, .int .i64 0, .string ⟨#[]⟩, .slice none 0 0] 31) = W := ⟨_, rfl⟩
        rw [hV] at hHeld hnw ⊢
        clear hV
        obtain ⟨g16, hg⟩ : ∃ g, V0.heap.size = g := ⟨_, rfl⟩
        rw [hg] at hnw hgs ⊢
        clear hg
        have hH := And.intro hgs hnw
        refine wpAnyH_at13 (l' := #[true, true, true, true, true, true, true, true, false, false, true, true, false, false, false, false, true, false]) (f' := 7) (by kernel_rfl) rfl ?_
        exact T1_ir g0 0 g16 _ hHeld hH
      exact AllReadyH.nil
    intro T1_i
    refine wpAnyH_cut13 (fun g0 g9 => (fun W => Below W1.heap.size W1 W ∧ True ∧ Blk W g9 (.cells #[.string ⟨#[]⟩, .string ⟨#[120]⟩, .string ⟨#[121, 121]⟩] 9 (0, 0)))) (fun g16 V => True) 10 #[false, true, true, true, false, false, true, true, false, true, true, true, false, false, false, false, false, false] (fun g0 g9 g16 => { tmps := #[threeV a, Value.pointer (some { block := B, off := 0 }), Value.pointer (some { block := B + 1, off := 0 }), undef, undef, Value.pointer (some { block := B, off := 0 }), Value.int IntKind.i64 (a 0), Value.int IntKind.i64 (p : Int), undef, undef, Value.pointer (some { block := B, off := 1 }), Value.int IntKind.i64 (a 1), undef, Value.slice (some { block := g9, off := 0 }) 3 3, Value.pointer (some { block := B, off := 2 }), Value.int IntKind.i64 (a 2), undef, undef, undef, undef, undef, undef, undef, undef, undef, undef, undef, undef, undef, undef, undef], defers := [] }) ?_ ?_
    · clear hHeld V0
      intro g0 g9 g16 V0 hHeld hH
      (try dsimp only at hHeld); (try dsimp only at hH)
      refine wpAnyH_ready (rs := [0, 8, 16]) (by kernel_rfl) (by simp) ?_
      refine AllReadyH.cons rfl (fun K hK => ?_) ?_
      · rw [if_pos (by rfl)]
        go_simp
        have hgs := hHeld.1.size
        have hnw := Blk.new V0 (.cells #[.int .i64 0, .int .i64 0, .int .i64 70, .int .i64 71] 28)
        refine hK.out _ _ (⟨hHeld.1.alloc hHeld.1.size _, trivial, (Blk.below hHeld.2.2 ((Below.refl _ _).alloc (Nat.le_refl _) _))⟩) (fun hHeld2 => ?_)
        clear hK K hHeld
        have hHeld := hHeld2; clear hHeld2
        obtain ⟨V1, hV⟩ : ∃ W, V0.alloc (.cells #[.int .i64 0, .int .i64 0, .int .i64 70, .int .i64 71] 28) = W := ⟨_, rfl⟩
        rw [hV] at hHeld hnw ⊢
        clear hV
        obtain ⟨g0, hg⟩ : ∃ g, V0.heap.size = g := ⟨_, rfl⟩
        rw [hg] at hnw hgs ⊢
        clear hg
        refine wpAnyH_mono13 (S' := (fun W => Below W1.heap.size W1 W ∧ Blk W g0 (.cells #[.int .i64 0, .int .i64 0, .int .i64 70, .int .i64 71] 28 (0, 0)) ∧ Blk W g9 (.cells #[.string ⟨#[]⟩, .string ⟨#[120]⟩, .string ⟨#[121, 121]⟩] 9 (0, 0)))) (fun W h => ⟨h.1, trivial, h.2.2⟩) _ _ _ _ ?_
        have hHeld3 : (fun W => Below W1.heap.size W1 W ∧ Blk W g0 (.cells #[.int .i64 0, .int .i64 0, .int .i64 70, .int .i64 71] 28 (0, 0)) ∧ Blk W g9 (.cells #[.string ⟨#[]⟩, .string ⟨#[120]⟩, .string ⟨#[121, 121]⟩] 9 (0, 0))) V1 := ⟨hHeld.1, hnw, hHeld.2.2⟩
        clear hHeld
        have hHeld := hHeld3; clear hHeld3
        try dsimp only at hHeld
        refine wpAnyH_take (i := 4) (v := ?_) rfl (by kernel_rfl) (by kernel_rfl) (by kernel_rfl) (fun _ _ _ h => h) (Or.inl ⟨by rfl, ?_⟩) (by assumption) ?_
        rotate_left
        · (intro w hSw; (try dsimp only at hSw); go_simp; (try with_reducible rfl))
        simp only [Act.put, List.getElem_toArray, List.getElem_cons_zero, List.getElem_cons_succ, List.setIfInBounds_toArray, List.set_cons_zero, List.set_cons_succ]
        refine wpAnyH_take (i := 5) (v := ?_) rfl (by kernel_rfl) (by kernel_rfl) (by kernel_rfl) (fun _ _ _ h => h) (Or.inl ⟨by rfl, ?_⟩) (by assumption) ?_
        rotate_left
        · (intro w hSw; (try dsimp only at hSw); have xc := er_tab13 hSw.2.1 hp; go_simp; (try with_reducible rfl))
        simp only [Act.put, List.getElem_toArray, List.getElem_cons_zero, List.getElem_cons_succ, List.setIfInBounds_toArray, List.set_cons_zero, List.set_cons_succ]
        refine wpAnyH_at13 (l' := #[true, true, true, true, true, true, true, true, false, true, true, true, false, false, false, false, false, false]) (f' := 7) (by kernel_rfl) rfl ?_
        exact T1_is g0 g9 0 _ hHeld trivial
      refine AllReadyH.cons rfl (fun K hK => ?_) ?_
      · rw [if_pos (by rfl)]
        go_simp
        ((with_reducible refine (q1 _).mono ?_); rintro e w' ⟨rfl, rfl⟩)
        refine hK.out _ _ (hHeld) (fun hHeld2 => ?_)
        clear hK K hHeld
        have hHeld := hHeld2; clear hHeld2
        refine wpAnyH_at13 (l' := #[false, true, true, true, false, false, true, true, true, true, true, true, false, false, false, false, false, false]) (f' := 9) (by kernel_rfl) rfl ?_
        exact T2_s 0 g9 0 _ hHeld trivial
      refine AllReadyH.cons rfl (fun K hK => ?_) ?_
      · rw [if_pos (by rfl)]
        go_simp
        have hgs := hHeld.1.size
        have hnw := Blk.new V0 (.cells #[.int .i64 0, .int .i64 0, .string ⟨#[]⟩, .slice none 0 0] 31)
        refine hK.out _ _ (⟨hHeld.1.alloc hHeld.1.size _, trivial, (Blk.below hHeld.2.2 ((Below.refl _ _).alloc (Nat.le_refl _) _))⟩) (fun hHeld2 => ?_)
        clear hK K hHeld
        have hHeld := hHeld2; clear hHeld2
        obtain ⟨V1, hV⟩ : ∃ W, V0.alloc (.cells #[.int .i64 0, .int .i64 0, .string ⟨#[]⟩, .slice none 0 0] 31) = W := ⟨_, rfl⟩
        rw [hV] at hHeld hnw ⊢
        clear hV
        obtain ⟨g16, hg⟩ : ∃ g, V0.heap.size = g := ⟨_, rfl⟩
        rw [hg] at hnw hgs ⊢
        clear hg
        have hH := And.intro hgs hnw
        refine wpAnyH_at13 (l' := #[false, true, true, true, false, false, true, true, false, true, true, true, false, false, false, false, true, false]) (f' := 9) (by kernel_rfl) rfl ?_
        exact T1_sr 0 g9 g16 _ hHeld hH
      exact AllReadyH.nil
    intro T1_s
    refine wpAnyH_cut13 (fun g0 g9 => (fun W => Below W1.heap.size W1 W ∧ True ∧ True)) (fun g16 V => (W1.heap.size ≤ g16 ∧ Blk V g16 (.cells #[.int .i64 0, .int .i64 0, .string ⟨#[]⟩, .slice none 0 0] 31 (0, 0)))) 10 #[false, true, true, true, false, false, true, true, false, false, true, true, false, false, false, false, true, false] (fun g0 g9 g16 => { tmps := #[threeV a, Value.pointer (some { block := B, off := 0 }), Value.pointer (some { block := B + 1, off := 0 }), Value.pointer (some { block := g16, off := 0 }), undef, Value.pointer (some { block := B, off := 0 }), Value.int IntKind.i64 (a 0), Value.int IntKind.i64 (p : Int), undef, undef, Value.pointer (some { block := B, off := 1 }), Value.int IntKind.i64 (a 1), undef, undef, Value.pointer (some { block := B, off := 2 }), Value.int IntKind.i64 (a 2), undef, undef, undef, undef, undef, undef, undef, undef, undef, undef, undef, undef, undef, undef, undef], defers := [] }) ?_ ?_
    · clear hHeld V0
      intro g0 g9 g16 V0 hHeld hH
      (try dsimp only at hHeld); (try dsimp only at hH)
      refine wpAnyH_ready (rs := [0, 8, 9]) (by kernel_rfl) (by simp) ?_
      refine AllReadyH.cons rfl (fun K hK => ?_) ?_
      · rw [if_pos (by rfl)]
        go_simp
        have hgs := hHeld.1.size
        have hnw := Blk.new V0 (.cells #[.int .i64 0, .int .i64 0, .int .i64 70, .int .i64 71] 28)
        have hrp := Blk.below hH.2 (show Below V0.heap.size V0 (V0.alloc (.cells #[.int .i64 0, .int .i64 0, .int .i64 70, .int .i64 71] 28)) from (Below.refl _ _).alloc (Nat.le_refl _) _)
        refine hK.out _ _ (⟨hHeld.1.alloc hHeld.1.size _, trivial, trivial⟩) (fun hHeld2 => ?_)
        clear hK K hHeld
        have hHeld := hHeld2; clear hHeld2
        obtain ⟨V1, hV⟩ : ∃ W, V0.alloc (.cells #[.int .i64 0, .int .i64 0, .int .i64 70, .int .i64 71] 28) = W := ⟨_, rfl⟩
        rw [hV] at hHeld hnw hrp ⊢
        clear hV
        obtain ⟨g0, hg⟩ : ∃ g, V0.heap.size = g := ⟨_, rfl⟩
        rw [hg] at hnw hgs ⊢
        clear hg
        have hH := And.intro hH.1 hrp
        refine wpAnyH_mono13 (S' := (fun W => Below W1.heap.size W1 W ∧ Blk W g0 (.cells #[.int .i64 0, .int .i64 0, .int .i64 70, .int .i64 71] 28 (0, 0)) ∧ True)) (fun W h => ⟨h.1, trivial, trivial⟩) _ _ _ _ ?_
        have hHeld3 : (fun W => Below W1.heap.size W1 W ∧ Blk W g0 (.cells #[.int .i64 0, .int .i64 0, .int .i64 70, .int .i64 71] 28 (0, 0)) ∧ True) V1 := ⟨hHeld.1, hnw, trivial⟩
        clear hHeld
        have hHeld := hHeld3; clear hHeld3
        try dsimp only at hHeld
        refine wpAnyH_take (i := 4) (v := ?_) rfl (by kernel_rfl) (by kernel_rfl) (by kernel_rfl) (fun _ _ _ h => h) (Or.inl ⟨by rfl, ?_⟩) (by assumption) ?_
        rotate_left
        · (intro w hSw; (try dsimp only at hSw); go_simp; (try with_reducible rfl))
        simp only [Act.put, List.getElem_toArray, List.getElem_cons_zero, List.getElem_cons_succ, List.setIfInBounds_toArray, List.set_cons_zero, List.set_cons_succ]
        refine wpAnyH_take (i := 5) (v := ?_) rfl (by kernel_rfl) (by kernel_rfl) (by kernel_rfl) (fun _ _ _ h => h) (Or.inl ⟨by rfl, ?_⟩) (by assumption) ?_
        rotate_left
        · (intro w hSw; (try dsimp only at hSw); have xc := er_tab13 hSw.2.1 hp; go_simp; (try with_reducible rfl))
        simp only [Act.put, List.getElem_toArray, List.getElem_cons_zero, List.getElem_cons_succ, List.setIfInBounds_toArray, List.set_cons_zero, List.set_cons_succ]
        refine wpAnyH_at13 (l' := #[true, true, true, true, true, true, true, true, false, false, true, true, false, false, false, false, true, false]) (f' := 7) (by kernel_rfl) rfl ?_
        exact T1_ir g0 0 g16 _ hHeld hH
      refine AllReadyH.cons rfl (fun K hK => ?_) ?_
      · rw [if_pos (by rfl)]
        go_simp
        ((with_reducible refine (q1 _).mono ?_); rintro e w' ⟨rfl, rfl⟩)
        refine hK.out _ _ (hHeld) (fun hHeld2 => ?_)
        clear hK K hHeld
        have hHeld := hHeld2; clear hHeld2
        refine wpAnyH_at13 (l' := #[false, true, true, true, false, false, true, true, true, false, true, true, false, false, false, false, true, false]) (f' := 9) (by kernel_rfl) rfl ?_
        exact T2_r 0 0 g16 _ hHeld hH
      refine AllReadyH.cons rfl (fun K hK => ?_) ?_
      · rw [if_pos (by rfl)]
        go_simp
        have hgs := hHeld.1.size
        have hnw := Blk.new V0 (.cells #[.string ⟨#[]⟩, .string ⟨#[120]⟩, .string ⟨#[121, 121]⟩] 9)
        have hrp := Blk.below hH.2 (show Below V0.heap.size V0 (V0.alloc (.cells #[.string ⟨#[]⟩, .string ⟨#[120]⟩, .string ⟨#[121, 121]⟩] 9)) from (Below.refl _ _).alloc (Nat.le_refl _) _)
        refine hK.out _ _ (⟨hHeld.1.alloc hHeld.1.size _, trivial, trivial⟩) (fun hHeld2 => ?_)
        clear hK K hHeld
        have hHeld := hHeld2; clear hHeld2
        obtain ⟨V1, hV⟩ : ∃ W, V0.alloc (.cells #[.string ⟨#[]⟩, .string ⟨#[120]⟩, .string ⟨#[121, 121]⟩] 9) = W := ⟨_, rfl⟩
        rw [hV] at hHeld hnw hrp ⊢
        clear hV
        obtain ⟨g9, hg⟩ : ∃ g, V0.heap.size = g := ⟨_, rfl⟩
        rw [hg] at hnw hgs ⊢
        clear hg
        have hH := And.intro hH.1 hrp
        refine wpAnyH_mono13 (S' := (fun W => Below W1.heap.size W1 W ∧ True ∧ Blk W g9 (.cells #[.string ⟨#[]⟩, .string ⟨#[120]⟩, .string ⟨#[121, 121]⟩] 9 (0, 0)))) (fun W h => ⟨h.1, trivial, trivial⟩) _ _ _ _ ?_
        have hHeld3 : (fun W => Below W1.heap.size W1 W ∧ True ∧ Blk W g9 (.cells #[.string ⟨#[]⟩, .string ⟨#[120]⟩, .string ⟨#[121, 121]⟩] 9 (0, 0))) V1 := ⟨hHeld.1, trivial, hnw⟩
        clear hHeld
        have hHeld := hHeld3; clear hHeld3
        try dsimp only at hHeld
        refine wpAnyH_at13 (l' := #[false, true, true, true, false, false, true, true, false, true, true, true, false, false, false, false, true, false]) (f' := 9) (by kernel_rfl) rfl ?_
        exact T1_sr 0 g9 g16 _ hHeld hH
      exact AllReadyH.nil
    intro T1_r
    refine wpAnyH_cut13 (fun g0 g9 => (fun W => Below W1.heap.size W1 W ∧ True ∧ True)) (fun g16 V => True) 10 #[false, true, true, true, false, false, true, true, true, false, true, true, false, false, false, false, false, false] (fun g0 g9 g16 => { tmps := #[threeV a, Value.pointer (some { block := B, off := 0 }), Value.pointer (some { block := B + 1, off := 0 }), undef, undef, Value.pointer (some { block := B, off := 0 }), Value.int IntKind.i64 (a 0), Value.int IntKind.i64 (p : Int), undef, undef, Value.pointer (some { block := B, off := 1 }), Value.int IntKind.i64 (a 1), Value.int IntKind.i64 (r : Int), undef, Value.pointer (some { block := B, off := 2 }), Value.int IntKind.i64 (a 2), undef, undef, undef, undef, undef, undef, undef, undef, undef, undef, undef, undef, undef, undef, undef], defers := [] }) ?_ ?_
    · clear hHeld V0
      intro g0 g9 g16 V0 hHeld hH
      (try dsimp only at hHeld); (try dsimp only at hH)
      refine wpAnyH_ready (rs := [0, 9, 12, 16]) (by kernel_rfl) (by simp) ?_
      refine AllReadyH.cons rfl (fun K hK => ?_) ?_
      · rw [if_pos (by rfl)]
        go_simp
        have hgs := hHeld.1.size
        have hnw := Blk.new V0 (.cells #[.int .i64 0, .int .i64 0, .int .i64 70, .int .i64 71] 28)
        refine hK.out _ _ (⟨hHeld.1.alloc hHeld.1.size _, trivial, trivial⟩) (fun hHeld2 => ?_)
        clear hK K hHeld
        have hHeld := hHeld2; clear hHeld2
        obtain ⟨V1, hV⟩ : ∃ W, V0.alloc (.cells #[.int .i64 0, .int .i64 0, .int .i64 70, .int .i64 71] 28) = W := ⟨_, rfl⟩
        rw [hV] at hHeld hnw ⊢
        clear hV
        obtain ⟨g0, hg⟩ : ∃ g, V0.heap.size = g := ⟨_, rfl⟩
        rw [hg] at hnw hgs ⊢
        clear hg
        refine wpAnyH_mono13 (S' := (fun W => Below W1.heap.size W1 W ∧ Blk W g0 (.cells #[.int .i64 0, .int .i64 0, .int .i64 70, .int .i64 71] 28 (0, 0)) ∧ True)) (fun W h => ⟨h.1, trivial, trivial⟩) _ _ _ _ ?_
        have hHeld3 : (fun W => Below W1.heap.size W1 W ∧ Blk W g0 (.cells #[.int .i64 0, .int .i64 0, .int .i64 70, .int .i64 71] 28 (0, 0)) ∧ True) V1 := ⟨hHeld.1, hnw, trivial⟩
        clear hHeld
        have hHeld := hHeld3; clear hHeld3
        try dsimp only at hHeld
        refine wpAnyH_take (i := 4) (v := ?_) rfl (by kernel_rfl) (by kernel_rfl) (by kernel_rfl) (fun _ _ _ h => h) (Or.inl ⟨by rfl, ?_⟩) (by assumption) ?_
        rotate_left
        · (intro w hSw; (try dsimp only at hSw); go_simp; (try with_reducible rfl))
        simp only [Act.put, List.getElem_toArray, List.getElem_cons_zero, List.getElem_cons_succ, List.setIfInBounds_toArray, List.set_cons_zero, List.set_cons_succ]
        refine wpAnyH_take (i := 5) (v := ?_) rfl (by kernel_rfl) (by kernel_rfl) (by kernel_rfl) (fun _ _ _ h => h) (Or.inl ⟨by rfl, ?_⟩) (by assumption) ?_
        rotate_left
        · (intro w hSw; (try dsimp only at hSw); have xc := er_tab13 hSw.2.1 hp; go_simp; (try with_reducible rfl))
        simp only [Act.put, List.getElem_toArray, List.getElem_cons_zero, List.getElem_cons_succ, List.setIfInBounds_toArray, List.set_cons_zero, List.set_cons_succ]
        refine wpAnyH_at13 (l' := #[true, true, true, true, true, true, true, true, true, false, true, true, false, false, false, false, false, false]) (f' := 7) (by kernel_rfl) rfl ?_
        exact T2_i g0 0 0 _ hHeld trivial
      refine AllReadyH.cons rfl (fun K hK => ?_) ?_
      · rw [if_pos (by rfl)]
        go_simp
        have hgs := hHeld.1.size
        have hnw := Blk.new V0 (.cells #[.string ⟨#[]⟩, .string ⟨#[120]⟩, .string ⟨#[121, 121]⟩] 9)
        refine hK.out _ _ (⟨hHeld.1.alloc hHeld.1.size _, trivial, trivial⟩) (fun hHeld2 => ?_)
        clear hK K hHeld
        have hHeld := hHeld2; clear hHeld2
        obtain ⟨V1, hV⟩ : ∃ W, V0.alloc (.cells #[.string ⟨#[]⟩, .string ⟨#[120]⟩, .string ⟨#[121, 121]⟩] 9) = W := ⟨_, rfl⟩
        rw [hV] at hHeld hnw ⊢
        clear hV
        obtain ⟨g9, hg⟩ : ∃ g, V0.heap.size = g := ⟨_, rfl⟩
        rw [hg] at hnw hgs ⊢
        clear hg
        refine wpAnyH_mono13 (S' := (fun W => Below W1.heap.size W1 W ∧ True ∧ Blk W g9 (.cells #[.string ⟨#[]⟩, .string ⟨#[120]⟩, .string ⟨#[121, 121]⟩] 9 (0, 0)))) (fun W h => ⟨h.1, trivial, trivial⟩) _ _ _ _ ?_
        have hHeld3 : (fun W => Below W1.heap.size W1 W ∧ True ∧ Blk W g9 (.cells #[.string ⟨#[]⟩, .string ⟨#[120]⟩, .string ⟨#[121, 121]⟩] 9 (0, 0))) V1 := ⟨hHeld.1, trivial, hnw⟩
        clear hHeld
        have hHeld := hHeld3; clear hHeld3
        try dsimp only at hHeld
        refine wpAnyH_at13 (l' := #[false, true, true, true, false, false, true, true, true, true, true, true, false, false, false, false, false, false]) (f' := 9) (by kernel_rfl) rfl ?_
        exact T2_s 0 g9 0 _ hHeld trivial
      refine AllReadyH.cons rfl (fun K hK => ?_) ?_
      · rw [if_pos (by rfl)]
        go_simp
        ((with_reducible refine (q2 _).mono ?_); rintro e w' ⟨rfl, rfl⟩)
        refine hK.out _ _ (hHeld) (fun hHeld2 => ?_)
        clear hK K hHeld
        have hHeld := hHeld2; clear hHeld2
        refine wpAnyH_at13 (l' := #[false, true, true, true, false, false, true, true, true, false, true, true, true, false, false, false, false, false]) (f' := 9) (by kernel_rfl) rfl ?_
        exact T3_ 0 0 0 _ hHeld trivial
      refine AllReadyH.cons rfl (fun K hK => ?_) ?_
      · rw [if_pos (by rfl)]
        go_simp
        have hgs := hHeld.1.size
        have hnw := Blk.new V0 (.cells #[.int .i64 0, .int .i64 0, .string ⟨#[]⟩, .slice none 0 0] 31)
        refine hK.out _ _ (⟨hHeld.1.alloc hHeld.1.size _, trivial, trivial⟩) (fun hHeld2 => ?_)
        clear hK K hHeld
        have hHeld := hHeld2; clear hHeld2
        obtain ⟨V1, hV⟩ : ∃ W, V0.alloc (.cells #[.int .i64 0, .int .i64 0, .string ⟨#[]⟩, .slice none 0 0] 31) = W := ⟨_, rfl⟩
        rw [hV] at hHeld hnw ⊢
        clear hV
        obtain ⟨g16, hg⟩ : ∃ g, V0.heap.size = g := ⟨_, rfl⟩
        rw [hg] at hnw hgs ⊢
        clear hg
        have hH := And.intro hgs hnw
        refine wpAnyH_at13 (l' := #[false, true, true, true, false, false, true, true, true, false, true, true, false, false, false, false, true, false]) (f' := 9) (by kernel_rfl) rfl ?_
        exact T2_r 0 0 g16 _ hHeld hH
      exact AllReadyH.nil
    intro T2_
    refine wpAnyH_cut13 (fun g0 g9 => (fun W => Below W1.heap.size W1 W ∧ Blk W g0 (.cells #[.int .i64 0, .int .i64 0, .int .i64 70, .int .i64 71] 28 (0, 0)) ∧ True)) (fun g16 V => True) 11 #[true, true, true, false, false, false, true, true, false, false, true, true, false, false, false, false, false, false] (fun g0 g9 g16 => { tmps := #[threeV a, Value.pointer (some { block := B, off := 0 }), Value.pointer (some { block := B + 1, off := 0 }), undef, Value.slice (some { block := g0, off := 0 }) 4 4, Value.pointer (some { block := B, off := 0 }), Value.int IntKind.i64 (a 0), undef, undef, undef, Value.pointer (some { block := B, off := 1 }), Value.int IntKind.i64 (a 1), undef, undef, Value.pointer (some { block := B, off := 2 }), Value.int IntKind.i64 (a 2), undef, undef, undef, undef, undef, undef, undef, undef, undef, undef, undef, undef, undef, undef, undef], defers := [] }) ?_ ?_
    · clear hHeld V0
      intro g0 g9 g16 V0 hHeld hH
      (try dsimp only at hHeld); (try dsimp only at hH)
      refine wpAnyH_ready (rs := [3, 9, 16]) (by kernel_rfl) (by simp) ?_
      refine AllReadyH.cons rfl (fun K hK => ?_) ?_
      · rw [if_pos (by rfl)]
        go_simp
        ((with_reducible refine (q0 _).mono ?_); rintro e w' ⟨rfl, rfl⟩)
        refine hK.out _ _ (hHeld) (fun hHeld2 => ?_)
        clear hK K hHeld
        have hHeld := hHeld2; clear hHeld2
        refine wpAnyH_take (i := 4) (v := ?_) rfl (by kernel_rfl) (by kernel_rfl) (by kernel_rfl) (fun _ _ _ h => h) (Or.inl ⟨by rfl, ?_⟩) (by assumption) ?_
        rotate_left
        · (intro w hSw; (try dsimp only at hSw); go_simp; (try with_reducible rfl))
        simp only [Act.put, List.getElem_toArray, List.getElem_cons_zero, List.getElem_cons_succ, List.setIfInBounds_toArray, List.set_cons_zero, List.set_cons_succ]
        refine wpAnyH_take (i := 5) (v := ?_) rfl (by kernel_rfl) (by kernel_rfl) (by kernel_rfl) (fun _ _ _ h => h) (Or.inl ⟨by rfl, ?_⟩) (by assumption) ?_
        rotate_left
        · (intro w hSw; (try dsimp only at hSw); have xc := er_tab13 hSw.2.1 hp; go_simp; (try with_reducible rfl))
        simp only [Act.put, List.getElem_toArray, List.getElem_cons_zero, List.getElem_cons_succ, List.setIfInBounds_toArray, List.set_cons_zero, List.set_cons_succ]
        refine wpAnyH_at13 (l' := #[true, true, true, true, true, true, true, true, false, false, true, true, false, false, false, false, false, false]) (f' := 8) (by kernel_rfl) rfl ?_
        exact T1_i g0 0 0 _ hHeld trivial
      refine AllReadyH.cons rfl (fun K hK => ?_) ?_
      · rw [if_pos (by rfl)]
        go_simp
        have hgs := hHeld.1.size
        have hnw := Blk.new V0 (.cells #[.string ⟨#[]⟩, .string ⟨#[120]⟩, .string ⟨#[121, 121]⟩] 9)
        refine hK.out _ _ (⟨hHeld.1.alloc hHeld.1.size _, (Blk.below hHeld.2.1 ((Below.refl _ _).alloc (Nat.le_refl _) _)), trivial⟩) (fun hHeld2 => ?_)
        clear hK K hHeld
        have hHeld := hHeld2; clear hHeld2
        obtain ⟨V1, hV⟩ : ∃ W, V0.alloc (.cells #[.string ⟨#[]⟩, .string ⟨#[120]⟩, .string ⟨#[121, 121]⟩] 9) = W := ⟨_, rfl⟩
        rw [hV] at hHeld hnw ⊢
        clear hV
        obtain ⟨g9, hg⟩ : ∃ g, V0.heap.size = g := ⟨_, rfl⟩
        rw [hg] at hnw hgs ⊢
        clear hg
        refine wpAnyH_mono13 (S' := (fun W => Below W1.heap.size W1 W ∧ Blk W g0 (.cells #[.int .i64 0, .int .i64 0, .int .i64 70, .int .i64 71] 28 (0, 0)) ∧ Blk W g9 (.cells #[.string ⟨#[]⟩, .string ⟨#[120]⟩, .string ⟨#[121, 121]⟩] 9 (0, 0)))) (fun W h => ⟨h.1, h.2.1, trivial⟩) _ _ _ _ ?_
        have hHeld3 : (fun W => Below W1.heap.size W1 W ∧ Blk W g0 (.cells #[.int .i64 0, .int .i64 0, .int .i64 70, .int .i64 71] 28 (0, 0)) ∧ Blk W g9 (.cells #[.string ⟨#[]⟩, .string ⟨#[120]⟩, .string ⟨#[121, 121]⟩] 9 (0, 0))) V1 := ⟨hHeld.1, hHeld.2.1, hnw⟩
        clear hHeld
        have hHeld := hHeld3; clear hHeld3
        try dsimp only at hHeld
        refine wpAnyH_at13 (l' := #[true, true, true, false, false, false, true, true, false, true, true, true, false, false, false, false, false, false]) (f' := 10) (by kernel_rfl) rfl ?_
        exact T0_is g0 g9 0 _ hHeld trivial
      refine AllReadyH.cons rfl (fun K hK => ?_) ?_
      · rw [if_pos (by rfl)]
        go_simp
        have hgs := hHeld.1.size
        have hnw := Blk.new V0 (.cells #[.int .i64 0, .int .i64 0, .string ⟨#[]⟩, .slice none 0 0] 31)
        refine hK.out _ _ (⟨hHeld.1.alloc hHeld.1.size _, (Blk.below hHeld.2.1 ((Below.refl _ _).alloc (Nat.le_refl _) _)), trivial⟩) (fun hHeld2 => ?_)
        clear hK K hHeld
        have hHeld := hHeld2; clear hHeld2
        obtain ⟨V1, hV⟩ : ∃ W, V0.alloc (.cells #[.int .i64 0, .int .i64 0, .string ⟨#[]⟩, .slice none 0 0] 31) = W := ⟨_, rfl⟩
        rw [hV] at hHeld hnw ⊢
        clear hV
        obtain ⟨g16, hg⟩ : ∃ g, V0.heap.size = g := ⟨_, rfl⟩
        rw [hg] at hnw hgs ⊢
        clear hg
        have hH := And.intro hgs hnw
        refine wpAnyH_at13 (l' := #[true, true, true, false, false, false, true, true, false, false, true, true, false, false, false, false, true, false]) (f' := 10) (by kernel_rfl) rfl ?_
        exact T0_ir g0 0 g16 _ hHeld hH
      exact AllReadyH.nil
    intro T0_i
    refine wpAnyH_cut13 (fun g0 g9 => (fun W => Below W1.heap.size W1 W ∧ True ∧ Blk W g9 (.cells #[.string ⟨#[]⟩, .string ⟨#[120]⟩, .string ⟨#[121, 121]⟩] 9 (0, 0)))) (fun g16 V => True) 11 #[false, true, true, false, false, false, true, true, false, true, true, true, false, false, false, false, false, false] (fun g0 g9 g16 => { tmps := #[threeV a, Value.pointer (some { block := B, off := 0 }), Value.pointer (some { block := B + 1, off := 0 }), undef, undef, Value.pointer (some { block := B, off := 0 }), Value.int IntKind.i64 (a 0), undef, undef, undef, Value.pointer (some { block := B, off := 1 }), Value.int IntKind.i64 (a 1), undef, Value.slice (some { block := g9, off := 0 }) 3 3, Value.pointer (some { block := B, off := 2 }), Value.int IntKind.i64 (a 2), undef, undef, undef, undef, undef, undef, undef, undef, undef, undef, undef, undef, undef, undef, undef], defers := [] }) ?_ ?_
    · clear hHeld V0
      intro g0 g9 g16 V0 hHeld hH
      (try dsimp only at hHeld); (try dsimp only at hH)
      refine wpAnyH_ready (rs := [0, 3, 16]) (by kernel_rfl) (by simp) ?_
      refine AllReadyH.cons rfl (fun K hK => ?_) ?_
      · rw [if_pos (by rfl)]
        go_simp
        have hgs := hHeld.1.size
        have hnw := Blk.new V0 (.cells #[.int .i64 0, .int .i64 0, .int .i64 70, .int .i64 71] 28)
        refine hK.out _ _ (⟨hHeld.1.alloc hHeld.1.size _, trivial, (Blk.below hHeld.2.2 ((Below.refl _ _).alloc (Nat.le_refl _) _))⟩) (fun hHeld2 => ?_)
        clear hK K hHeld
        have hHeld := hHeld2; clear hHeld2
        obtain ⟨V1, hV⟩ : ∃ W, V0.alloc (.cells #[.int .i64 0, .int .i64 0, .int .i64 70, .int .i64 71] 28) = W := ⟨_, rfl⟩
        rw [hV] at hHeld hnw ⊢
        clear hV
        obtain ⟨g0, hg⟩ : ∃ g, V0.heap.size = g := ⟨_, rfl⟩
        rw [hg] at hnw hgs ⊢
        clear hg
        refine wpAnyH_mono13 (S' := (fun W => Below W1.heap.size W1 W ∧ Blk W g0 (.cells #[.int .i64 0, .int .i64 0, .int .i64 70, .int .i64 71] 28 (0, 0)) ∧ Blk W g9 (.cells #[.string ⟨#[]⟩, .string ⟨#[120]⟩, .string ⟨#[121, 121]⟩] 9 (0, 0)))) (fun W h => ⟨h.1, trivial, h.2.2⟩) _ _ _ _ ?_
        have hHeld3 : (fun W => Below W1.heap.size W1 W ∧ Blk W g0 (.cells #[.int .i64 0, .int .i64 0, .int .i64 70, .int .i64 71] 28 (0, 0)) ∧ Blk W g9 (.cells #[.string ⟨#[]⟩, .string ⟨#[120]⟩, .string ⟨#[121, 121]⟩] 9 (0, 0))) V1 := ⟨hHeld.1, hnw, hHeld.2.2⟩
        clear hHeld
        have hHeld := hHeld3; clear hHeld3
        try dsimp only at hHeld
        refine wpAnyH_at13 (l' := #[true, true, true, false, false, false, true, true, false, true, true, true, false, false, false, false, false, false]) (f' := 10) (by kernel_rfl) rfl ?_
        exact T0_is g0 g9 0 _ hHeld trivial
      refine AllReadyH.cons rfl (fun K hK => ?_) ?_
      · rw [if_pos (by rfl)]
        go_simp
        ((with_reducible refine (q0 _).mono ?_); rintro e w' ⟨rfl, rfl⟩)
        refine hK.out _ _ (hHeld) (fun hHeld2 => ?_)
        clear hK K hHeld
        have hHeld := hHeld2; clear hHeld2
        refine wpAnyH_at13 (l' := #[false, true, true, true, false, false, true, true, false, true, true, true, false, false, false, false, false, false]) (f' := 10) (by kernel_rfl) rfl ?_
        exact T1_s 0 g9 0 _ hHeld trivial
      refine AllReadyH.cons rfl (fun K hK => ?_) ?_
      · rw [if_pos (by rfl)]
        go_simp
        have hgs := hHeld.1.size
        have hnw := Blk.new V0 (.cells #[.int .i64 0, .int .i64 0, .string ⟨#[]⟩, .slice none 0 0] 31)
        refine hK.out _ _ (⟨hHeld.1.alloc hHeld.1.size _, trivial, (Blk.below hHeld.2.2 ((Below.refl _ _).alloc (Nat.le_refl _) _))⟩) (fun hHeld2 => ?_)
        clear hK K hHeld
        have hHeld := hHeld2; clear hHeld2
        obtain ⟨V1, hV⟩ : ∃ W, V0.alloc (.cells #[.int .i64 0, .int .i64 0, .string ⟨#[]⟩, .slice none 0 0] 31) = W := ⟨_, rfl⟩
        rw [hV] at hHeld hnw ⊢
        clear hV
        obtain ⟨g16, hg⟩ : ∃ g, V0.heap.size = g := ⟨_, rfl⟩
        rw [hg] at hnw hgs ⊢
        clear hg
        have hH := And.intro hgs hnw
        refine wpAnyH_at13 (l' := #[false, true, true, false, false, false, true, true, false, true, true, true, false, false, false, false, true, false]) (f' := 10) (by kernel_rfl) rfl ?_
        exact T0_sr 0 g9 g16 _ hHeld hH
      exact AllReadyH.nil
    intro T0_s
    refine wpAnyH_cut13 (fun g0 g9 => (fun W => Below W1.heap.size W1 W ∧ True ∧ True)) (fun g16 V => (W1.heap.size ≤ g16 ∧ Blk V g16 (.cells #[.int .i64 0, .int .i64 0, .string ⟨#[]⟩, .slice none 0 0] 31 (0, 0)))) 11 #[false, true, true, false, false, false, true, true, false, false, true, true, false, false, false, false, true, false] (fun g0 g9 g16 => { tmps := #[threeV a, Value.pointer (some { block := B, off := 0 }), Value.pointer (some { block := B + 1, off := 0 }), Value.pointer (some { block := g16, off := 0 }), undef, Value.pointer (some { block := B, off := 0 }), Value.int IntKind.i64 (a 0), undef, undef, undef, Value.pointer (some { block := B, off := 1 }), Value.int IntKind.i64 (a 1), undef, undef, Value.pointer (some { block := B, off := 2 }), Value.int IntKind.i64 (a 2), undef, undef, undef, undef, undef, undef, undef, undef, undef, undef, undef, undef, undef, undef, undef], defers := [] }) ?_ ?_
    · clear hHeld V0
      intro g0 g9 g16 V0 hHeld hH
      (try dsimp only at hHeld); (try dsimp only at hH)
      refine wpAnyH_ready (rs := [0, 3, 9]) (by kernel_rfl) (by simp) ?_
      refine AllReadyH.cons rfl (fun K hK => ?_) ?_
      · rw [if_pos (by rfl)]
        go_simp
        have hgs := hHeld.1.size
        have hnw := Blk.new V0 (.cells #[.int .i64 0, .int .i64 0, .int .i64 70, .int .i64 71] 28)
        have hrp := Blk.below hH.2 (show Below V0.heap.size V0 (V0.alloc (.cells #[.int .i64 0, .int .i64 0, .int .i64 70, .int .i64 71] 28)) from (Below.refl _ _).alloc (Nat.le_refl _) _)
        refine hK.out _ _ (⟨hHeld.1.alloc hHeld.1.size _, trivial, trivial⟩) (fun hHeld2 => ?_)
        clear hK K hHeld
        have hHeld := hHeld2; clear hHeld2
        obtain ⟨V1, hV⟩ : ∃ W, V0.alloc (.cells #[.int .i64 0, .int .i64 0, .int .i64 70, .int .i64 71] 28) = W := ⟨_, rfl⟩
        rw [hV] at hHeld hnw hrp ⊢
        clear hV
        obtain ⟨g0, hg⟩ : ∃ g, V0.heap.size = g := ⟨_, rfl⟩
        rw [hg] at hnw hgs ⊢
        clear hg
        have hH := And.intro hH.1 hrp
        refine wpAnyH_mono13 (S' := (fun W => Below W1.heap.size W1 W ∧ Blk W g0 (.cells #[.int .i64 0, .int .i64 0, .int .i64 70, .int .i64 71] 28 (0, 0)) ∧ True)) (fun W h => ⟨h.1, trivial, trivial⟩) _ _ _ _ ?_
        have hHeld3 : (fun W => Below W1.heap.size W1 W ∧ Blk W g0 (.cells #[.int .i64 0, .int .i64 0, .int .i64 70, .int .i64 71] 28 (0, 0)) ∧ True) V1 := ⟨hHeld.1, hnw, trivial⟩
        clear hHeld
        have hHeld := hHeld3; clear hHeld3
        try dsimp only at hHeld
        refine wpAnyH_at13 (l' := #[true, true, true, false, false, false, true, true, false, false, true, true, false, false, false, false, true, false]) (f' := 10) (by kernel_rfl) rfl ?_
        exact T0_ir g0 0 g16 _ hHeld hH
      refine AllReadyH.cons rfl (fun K hK => ?_) ?_
      · rw [if_pos (by rfl)]
        go_simp
        ((with_reducible refine (q0 _).mono ?_); rintro e w' ⟨rfl, rfl⟩)
        refine hK.out _ _ (hHeld) (fun hHeld2 => ?_)
        clear hK K hHeld
        have hHeld := hHeld2; clear hHeld2
        refine wpAnyH_at13 (l' := #[false, true, true, true, false, false, true, true, false, false, true, true, false, false, false, false, true, false]) (f' := 10) (by kernel_rfl) rfl ?_
        exact T1_r 0 0 g16 _ hHeld hH
      refine AllReadyH.cons rfl (fun K hK => ?_) ?_
      · rw [if_pos (by rfl)]
        go_simp
        have hgs := hHeld.1.size
        have hnw := Blk.new V0 (.cells #[.string ⟨#[]⟩, .string ⟨#[120]⟩, .string ⟨#[121, 121]⟩] 9)
        have hrp := Blk.below hH.2 (show Below V0.heap.size V0 (V0.alloc (.cells #[.string ⟨#[]⟩, .string ⟨#[120]⟩, .string ⟨#[121, 121]⟩] 9)) from (Below.refl _ _).alloc (Nat.le_refl _) _)
        refine hK.out _ _ (⟨hHeld.1.alloc hHeld.1.size _, trivial, trivial⟩) (fun hHeld2 => ?_)
        clear hK K hHeld
        have hHeld := hHeld2; clear hHeld2
        obtain ⟨V1, hV⟩ : ∃ W, V0.alloc (.cells #[.string ⟨#[]⟩, .string ⟨#[120]⟩, .string ⟨#[121, 121]⟩] 9) = W := ⟨_, rfl⟩
        rw [hV] at hHeld hnw hrp ⊢
        clear hV
        obtain ⟨g9, hg⟩ : ∃ g, V0.heap.size = g := ⟨_, rfl⟩
        rw [hg] at hnw hgs ⊢
        clear hg
        have hH := And.intro hH.1 hrp
        refine wpAnyH_mono13 (S' := (fun W => Below W1.heap.size W1 W ∧ True ∧ Blk W g9 (.cells #[.string ⟨#[]⟩, .string ⟨#[120]⟩, .string ⟨#[121, 121]⟩] 9 (0, 0)))) (fun W h => ⟨h.1, trivial, trivial⟩) _ _ _ _ ?_
        have hHeld3 : (fun W => Below W1.heap.size W1 W ∧ True ∧ Blk W g9 (.cells #[.string ⟨#[]⟩, .string ⟨#[120]⟩, .string ⟨#[121, 121]⟩] 9 (0, 0))) V1 := ⟨hHeld.1, trivial, hnw⟩
        clear hHeld
        have hHeld := hHeld3; clear hHeld3
        try dsimp only at hHeld
        refine wpAnyH_at13 (l' := #[false, true, true, false, false, false, true, true, false, true, true, true, false, false, false, false, true, false]) (f' := 10) (by kernel_rfl) rfl ?_
        exact T0_sr 0 g9 g16 _ hHeld hH
      exact AllReadyH.nil
    intro T0_r
    refine wpAnyH_cut13 (fun g0 g9 => (fun W => Below W1.heap.size W1 W ∧ True ∧ True)) (fun g16 V => True) 11 #[false, true, true, true, false, false, true, true, false, false, true, true, false, false, false, false, false, false] (fun g0 g9 g16 => { tmps := #[threeV a, Value.pointer (some { block := B, off := 0 }), Value.pointer (some { block := B + 1, off := 0 }), undef, undef, Value.pointer (some { block := B, off := 0 }), Value.int IntKind.i64 (a 0), Value.int IntKind.i64 (p : Int), undef, undef, Value.pointer (some { block := B, off := 1 }), Value.int IntKind.i64 (a 1), undef, undef, Value.pointer (some { block := B, off := 2 }), Value.int IntKind.i64 (a 2), undef, undef, undef, undef, undef, undef, undef, undef, undef, undef, undef, undef, undef, undef, undef], defers := [] }) ?_ ?_
    · clear hHeld V0
      intro g0 g9 g16 V0 hHeld hH
      (try dsimp only at hHeld); (try dsimp only at hH)
      refine wpAnyH_ready (rs := [0, 8, 9, 16]) (by kernel_rfl) (by simp) ?_
      refine AllReadyH.cons rfl (fun K hK => ?_) ?_
      · rw [if_pos (by rfl)]
        go_simp
        have hgs := hHeld.1.size
        have hnw := Blk.new V0 (.cells #[.int .i64 0, .int .i64 0, .int .i64 70, .int .i64 71] 28)
        refine hK.out _ _ (⟨hHeld.1.alloc hHeld.1.size _, trivial, trivial⟩) (fun hHeld2 => ?_)
        clear hK K hHeld
        have hHeld := hHeld2; clear hHeld2
        obtain ⟨V1, hV⟩ : ∃ W, V0.alloc (.cells #[.int .i64 0, .int .i64 0, .int .i64 70, .int .i64 71] 28) = W := ⟨_, rfl⟩
        rw [hV] at hHeld hnw ⊢
        clear hV
        obtain ⟨g0, hg⟩ : ∃ g, V0.heap.size = g := ⟨_, rfl⟩
        rw [hg] at hnw hgs ⊢
        clear hg
        refine wpAnyH_mono13 (S' := (fun W => Below W1.heap.size W1 W ∧ Blk W g0 (.cells #[.int .i64 0, .int .i64 0, .int .i64 70, .int .i64 71] 28 (0, 0)) ∧ True)) (fun W h => ⟨h.1, trivial, trivial⟩) _ _ _ _ ?_
        have hHeld3 : (fun W => Below W1.heap.size W1 W ∧ Blk W g0 (.cells #[.int .i64 0, .int .i64 0, .int .i64 70, .int .i64 71] 28 (0, 0)) ∧ True) V1 := ⟨hHeld.1, hnw, trivial⟩
        clear hHeld
        have hHeld := hHeld3; clear hHeld3
        try dsimp only at hHeld
        refine wpAnyH_take (i := 4) (v := ?_) rfl (by kernel_rfl) (by kernel_rfl) (by kernel_rfl) (fun _ _ _ h => h) (Or.inl ⟨by rfl, ?_⟩) (by assumption) ?_
        rotate_left
        · (intro w hSw; (try dsimp only at hSw); go_simp; (try with_reducible rfl))
        simp only [Act.put, List.getElem_toArray, List.getElem_cons_zero, List.getElem_cons_succ, List.setIfInBounds_toArray, List.set_cons_zero, List.set_cons_succ]
        refine wpAnyH_take (i := 5) (v := ?_) rfl (by kernel_rfl) (by kernel_rfl) (by kernel_rfl) (fun _ _ _ h => h) (Or.inl ⟨by rfl, ?_⟩) (by assumption) ?_
        rotate_left
        · (intro w hSw; (try dsimp only at hSw); have xc := er_tab13 hSw.2.1 hp; go_simp; (try with_reducible rfl))
        simp only [Act.put, List.getElem_toArray, List.getElem_cons_zero, List.getElem_cons_succ, List.setIfInBounds_toArray, List.set_cons_zero, List.set_cons_succ]
        refine wpAnyH_at13 (l' := #[true, true, true, true, true, true, true, true, false, false, true, true, false, false, false, false, false, false]) (f' := 8) (by kernel_rfl) rfl ?_
        exact T1_i g0 0 0 _ hHeld trivial
      refine AllReadyH.cons rfl (fun K hK => ?_) ?_
      · rw [if_pos (by rfl)]
        go_simp
        ((with_reducible refine (q1 _).mono ?_); rintro e w' ⟨rfl, rfl⟩)
        refine hK.out _ _ (hHeld) (fun hHeld2 => ?_)
        clear hK K hHeld
        have hHeld := hHeld2; clear hHeld2
        refine wpAnyH_at13 (l' := #[false, true, true, true, false, false, true, true, true, false, true, true, false, false, false, false, false, false]) (f' := 10) (by kernel_rfl) rfl ?_
        exact T2_ 0 0 0 _ hHeld trivial
      refine AllReadyH.cons rfl (fun K hK => ?_) ?_
      · rw [if_pos (by rfl)]
        go_simp
        have hgs := hHeld.1.size
        have hnw := Blk.new V0 (.cells #[.string ⟨#[]⟩, .string ⟨#[120]⟩, .string ⟨#[121, 121]⟩] 9)
        refine hK.out _ _ (⟨hHeld.1.alloc hHeld.1.size _, trivial, trivial⟩) (fun hHeld2 => ?_)
        clear hK K hHeld
        have hHeld := hHeld2; clear hHeld2
        obtain ⟨V1, hV⟩ : ∃ W, V0.alloc (.cells #[.string ⟨#[]⟩, .string ⟨#[120]⟩, .string ⟨#[121, 121]⟩] 9) = W := ⟨_, rfl⟩
        rw [hV] at hHeld hnw ⊢
        clear hV
        obtain ⟨g9, hg⟩ : ∃ g, V0.heap.size = g := ⟨_, rfl⟩
        rw [hg] at hnw hgs ⊢
        clear hg
        refine wpAnyH_mono13 (S' := (fun W => Below W1.heap.size W1 W ∧ True ∧ Blk W g9 (.cells #[.string ⟨#[]⟩, .string ⟨#[120]⟩, .string ⟨#[121, 121]⟩] 9 (0, 0)))) (fun W h => ⟨h.1, trivial, trivial⟩) _ _ _ _ ?_
        have hHeld3 : (fun W => Below W1.heap.size W1 W ∧ True ∧ Blk W g9 (.cells #[.string ⟨#[]⟩, .string ⟨#[120]⟩, .string ⟨#[121, 121]⟩] 9 (0, 0))) V1 := ⟨hHeld.1, trivial, hnw⟩
        clear hHeld
        have hHeld := hHeld3; clear hHeld3
        try dsimp only at hHeld
        refine wpAnyH_at13 (l' := #[false, true, true, true, false, false, true, true, false, true, true, true, false, false, false, false, false, false]) (f' := 10) (by kernel_rfl) rfl ?_
        exact T1_s 0 g9 0 _ hHeld trivial
      refine AllReadyH.cons rfl (fun K hK => ?_) ?_
      · rw [if_pos (by rfl)]
        go_simp
        have hgs := hHeld.1.size
        have hnw := Blk.new V0 (.cells #[.int .i64 0, .int .i64 0, .string ⟨#[]⟩, .slice none 0 0] 31)
        refine hK.out _ _ (⟨hHeld.1.alloc hHeld.1.size _, trivial, trivial⟩) (fun hHeld2 => ?_)
        clear hK K hHeld
        have hHeld := hHeld2; clear hHeld2
        obtain ⟨V1, hV⟩ : ∃ W, V0.alloc (.cells #[.int .i64 0, .int .i64 0, .string ⟨#[]⟩, .slice none 0 0] 31) = W := ⟨_, rfl⟩
        rw [hV] at hHeld hnw ⊢
        clear hV
        obtain ⟨g16, hg⟩ : ∃ g, V0.heap.size = g := ⟨_, rfl⟩
        rw [hg] at hnw hgs ⊢
        clear hg
        have hH := And.intro hgs hnw
        refine wpAnyH_at13 (l' := #[false, true, true, true, false, false, true, true, false, false, true, true, false, false, false, false, true, false]) (f' := 10) (by kernel_rfl) rfl ?_
        exact T1_r 0 0 g16 _ hHeld hH
      exact AllReadyH.nil
    intro T1_
    refine wpAnyH_ready (rs := [0, 3, 9, 16]) (by kernel_rfl) (by simp) ?_
    refine AllReadyH.cons rfl (fun K hK => ?_) ?_
    · rw [if_pos (by rfl)]
      go_simp
      have hgs := hHeld.1.size
      have hnw := Blk.new V0 (.cells #[.int .i64 0, .int .i64 0, .int .i64 70, .int .i64 71] 28)
      refine hK.out _ _ (⟨hHeld.1.alloc hHeld.1.size _, trivial, trivial⟩) (fun hHeld2 => ?_)
      clear hK K hHeld
      have hHeld := hHeld2; clear hHeld2
      obtain ⟨V1, hV⟩ : ∃ W, V0.alloc (.cells #[.int .i64 0, .int .i64 0, .int .i64 70, .int .i64 71] 28) = W := ⟨_, rfl⟩
      rw [hV] at hHeld hnw ⊢
      clear hV
      obtain ⟨g0, hg⟩ : ∃ g, V0.heap.size = g := ⟨_, rfl⟩
      rw [hg] at hnw hgs ⊢
      clear hg
      refine wpAnyH_mono13 (S' := (fun W => Below W1.heap.size W1 W ∧ Blk W g0 (.cells #[.int .i64 0, .int .i64 0, .int .i64 70, .int .i64 71] 28 (0, 0)) ∧ True)) (fun W h => ⟨h.1, trivial, trivial⟩) _ _ _ _ ?_
      have hHeld3 : (fun W => Below W1.heap.size W1 W ∧ Blk W g0 (.cells #[.int .i64 0, .int .i64 0, .int .i64 70, .int .i64 71] 28 (0, 0)) ∧ True) V1 := ⟨hHeld.1, hnw, trivial⟩
      clear hHeld
      have hHeld := hHeld3; clear hHeld3
      try dsimp only at hHeld
      refine wpAnyH_at13 (l' := #[true, true, true, false, false, false, true, true, false, false, true, true, false, false, false, false, false, false]) (f' := 11) (by kernel_rfl) rfl ?_
      exact T0_i g0 0 0 _ hHeld trivial
    refine AllReadyH.cons rfl (fun K hK => ?_) ?_
    · rw [if_pos (by rfl)]
      go_simp
      ((with_reducible refine (q0 _).mono ?_); rintro e w' ⟨rfl, rfl⟩)
      refine hK.out _ _ (hHeld) (fun hHeld2 => ?_)
      clear hK K hHeld
      have hHeld := hHeld2; clear hHeld2
      refine wpAnyH_at13 (l' := #[false, true, true, true, false, false, true, true, false, false, true, true, false, false, false, false, false, false]) (f' := 11) (by kernel_rfl) rfl ?_
      exact T1_ 0 0 0 _ hHeld trivial
    refine AllReadyH.cons rfl (fun K hK => ?_) ?_
    · rw [if_pos (by rfl)]
      go_simp
      have hgs := hHeld.1.size
      have hnw := Blk.new V0 (.cells #[.string ⟨#[]⟩, .string ⟨#[120]⟩, .string ⟨#[121, 121]⟩] 9)
      refine hK.out _ _ (⟨hHeld.1.alloc hHeld.1.size _, trivial, trivial⟩) (fun hHeld2 => ?_)
      clear hK K hHeld
      have hHeld := hHeld2; clear hHeld2
      obtain ⟨V1, hV⟩ : ∃ W, V0.alloc (.cells #[.string ⟨#[]⟩, .string ⟨#[120]⟩, .string ⟨#[121, 121]⟩] 9) = W := ⟨_, rfl⟩
      rw [hV] at hHeld hnw ⊢
      clear hV
      obtain ⟨g9, hg⟩ : ∃ g, V0.heap.size = g := ⟨_, rfl⟩
      rw [hg] at hnw hgs ⊢
      clear hg
      refine wpAnyH_mono13 (S' := (fun W => Below W1.heap.size W1 W ∧ True ∧ Blk W g9 (.cells #[.string ⟨#[]⟩, .string ⟨#[120]⟩, .string ⟨#[121, 121]⟩] 9 (0, 0)))) (fun W h => ⟨h.1, trivial, trivial⟩) _ _ _ _ ?_
      have hHeld3 : (fun W => Below W1.heap.size W1 W ∧ True ∧ Blk W g9 (.cells #[.string ⟨#[]⟩, .string ⟨#[120]⟩, .string ⟨#[121, 121]⟩] 9 (0, 0))) V1 := ⟨hHeld.1, trivial, hnw⟩
      clear hHeld
      have hHeld := hHeld3; clear hHeld3
      try dsimp only at hHeld
      refine wpAnyH_at13 (l' := #[false, true, true, false, false, false, true, true, false, true, true, true, false, false, false, false, false, false]) (f' := 11) (by kernel_rfl) rfl ?_
      exact T0_s 0 g9 0 _ hHeld trivial
    refine AllReadyH.cons rfl (fun K hK => ?_) ?_
    · rw [if_pos (by rfl)]
      go_simp
      have hgs := hHeld.1.size
      have hnw := Blk.new V0 (.cells #[.int .i64 0, .int .i64 0, .string ⟨#[]⟩, .slice none 0 0] 31)
      refine hK.out _ _ (⟨hHeld.1.alloc hHeld.1.size _, trivial, trivial⟩) (fun hHeld2 => ?_)
      clear hK K hHeld
      have hHeld := hHeld2; clear hHeld2
      obtain ⟨V1, hV⟩ : ∃ W, V0.alloc (.cells #[.int .i64 0, .int .i64 0, .string ⟨#[]⟩, .slice none 0 0] 31) = W := ⟨_, rfl⟩
      rw [hV] at hHeld hnw ⊢
      clear hV
      obtain ⟨g16, hg⟩ : ∃ g, V0.heap.size = g := ⟨_, rfl⟩
      rw [hg] at hnw hgs ⊢
      clear hg
      have hH := And.intro hgs hnw
      refine wpAnyH_at13 (l' := #[false, true, true, false, false, false, true, true, false, false, true, true, false, false, false, false, true, false]) (f' := 11) (by kernel_rfl) rfl ?_
      exact T0_r 0 0 g16 _ hHeld hH
    exact AllReadyH.nil
  case rest =>
    obtain ⟨g, rfl, hge, hgo, hbx⟩ := hcut
    have HRS := Lib.hid (Blk.below HRES.out hbx)
    have HRW := Lib.hid (Blk.below HRAW.out hbx)
    have hbw2 : Below w.heap.size w wc := by have h := HBW.out; rw [← HBE.out] at h; exact bch h hbx
    have HB2 := Lib.hid hbw2; clear hbw2
    have HGO := Lib.hid hgo; clear hgo
    have hlr : B + 1 < W1.heap.size := Blk.lt HRES.out
    have hgB : B + 1 < g := by omega
    clear Z0 Z1 Z2 HRES HRAW HBW hltB hbx hge hlt
    have r0 := Blk.cell HRW.out 0
    simp only [List.getElem?_toArray, List.getElem?_cons_zero, List.getElem?_cons_succ] at r0
    go_wp2_with fail
    ((with_reducible refine (q5 _).mono ?_); rintro e W_ ⟨rfl, rfl⟩)
    clear r0
    by_cases hk : k = 4
    · have e4 : ((k : Int) == 4) = true := by simp; omega
      rw [if_pos hk] at HR
      clear hk
      have hbn : Below wc.heap.size wc (wc.alloc (.cells #[.string ⟨#[97]⟩, .string ⟨#[98, 111, 98]⟩] 9)) := (Below.refl _ _).alloc (Nat.le_refl _) _
      have hkn := Blk.new wc (.cells #[.string ⟨#[97]⟩, .string ⟨#[98, 111, 98]⟩] 9)
      have hgn := Blk.below HGO.out hbn
      have hzn := Blk.below HRS.out hbn
      have hwn := Blk.below HRW.out hbn
      have hbb := bch HB2.out hbn
      have hgx : g < wc.heap.size := Blk.lt HGO.out
      obtain ⟨X, hX⟩ : ∃ W, wc.alloc (.cells #[.string ⟨#[97]⟩, .string ⟨#[98, 111, 98]⟩] 9) = W := ⟨_, rfl⟩
      rw [hX] at hbn hkn hgn hzn hwn hbb
      have r2 := Blk.cell hwn 2
      simp only [List.getElem?_toArray, List.getElem?_cons_zero, List.getElem?_cons_succ] at r2
      have g3 := Blk.cell hgn 3
      simp only [List.getElem?_toArray, List.getElem?_cons_zero, List.getElem?_cons_succ] at g3
      have fz := Blk.frozen hgn 3
      have hv2 : v ≤ 2 := by omega
      have hv2i : (v : Int) ≤ 2 := by omega
      go_wp2_with fail
      ((with_reducible refine (q2 _).mono ?_); rintro e W_ ⟨rfl, rfl⟩)
      obtain ⟨G, hG⟩ : ∃ g, wc.heap.size = g := ⟨_, rfl⟩
      rw [hG] at hkn hgx ⊢
      have hgs := Blk.set hgn 3 (.slice (some ⟨G, 0, none⟩) v 2) #[(.int .i64 (erN13 p : Int)), (.int .i64 (r : Int)), (.string (vaK13 v)), .slice (some ⟨G, 0, none⟩) v 2] rfl
      have hks := Blk.far hkn (show G ≠ g by omega) 3 (.slice (some ⟨G, 0, none⟩) v 2)
      have hzs := Blk.far hzn (show B + 1 ≠ g by omega) 3 (.slice (some ⟨G, 0, none⟩) v 2)
      have hbs := hbb.setCell (p := ⟨g, 3, none⟩) (show w.heap.size ≤ g by have := HBE.out; omega) (.slice (some ⟨G, 0, none⟩) v 2)
      have HGX := Lib.hid hgx
      go_upto_region 4 with fail
      clear r2 g3 fz hG hX
      obtain ⟨V, hV⟩ : ∃ W, X.setCell ⟨g, 3, none⟩ (.slice (some ⟨G, 0, none⟩) v 2) = W := ⟨_, rfl⟩
      rw [hV] at hgs hks hzs hbs ⊢
      clear hV
      have c0 := Blk.cell hgs 0
      have c1 := Blk.cell hgs 1
      have c2 := Blk.cell hgs 2
      have c3 := Blk.cell hgs 3
      simp only [List.getElem?_toArray, List.getElem?_cons_zero, List.getElem?_cons_succ] at c0 c1 c2 c3
      have z0 := Blk.cell hzs 0
      have z1 := Blk.cell hzs 1
      have z2 := Blk.cell hzs 2
      have z3 := Blk.cell hzs 3
      simp only [List.getElem?_toArray, List.getElem?_cons_zero, List.getElem?_cons_succ] at z0 z1 z2 z3
      have f0 := Blk.frozen hzs 0
      have f1 := Blk.frozen hzs 1
      have f2 := Blk.frozen hzs 2
      have f3 := Blk.frozen hzs 3
      have hfin := rp_put13 hzs (.int .i64 (erN13 p : Int)) (.int .i64 (r : Int)) (.string (vaK13 v)) (.slice (some ⟨G, 0, none⟩) v 2)
      have e0 := Blk.cell hfin 0
      have e1 := Blk.cell hfin 1
      have e2 := Blk.cell hfin 2
      have e3 := Blk.cell hfin 3
      simp only [List.getElem?_toArray, List.getElem?_cons_zero, List.getElem?_cons_succ] at e0 e1 e2 e3
      have HBF := Lib.hid (below_four13 (g := B + 1) hbs (by have := HBE.out; omega) (.int .i64 (erN13 p : Int)) (.int .i64 (r : Int)) (.string (vaK13 v)) (.slice (some ⟨G, 0, none⟩) v 2))
      have HKS := Lib.hid (key_is13 (Blk.far (Blk.far (Blk.far (Blk.far hks (show G ≠ B + 1 by omega) 0 (.int .i64 (erN13 p : Int))) (show G ≠ B + 1 by omega) 1 (.int .i64 (r : Int))) (show G ≠ B + 1 by omega) 2 (.string (vaK13 v))) (show G ≠ B + 1 by omega) 3 (.slice (some ⟨G, 0, none⟩) v 2)) (show v < 3 by omega))
      clear hfin
      go_wp2_with fail
      refine bodyPost_ret (v := .agg #[(.int .i64 (erN13 p : Int)), (.int .i64 (r : Int)), (.string (vaK13 v)), (.slice (some ⟨G, 0, none⟩) v 2)]) (by simp [results, Try.results10, go_sem, e0, e1, e2, e3]) rfl ⟨some ⟨G, 0, none⟩, v, 2, by rw [← HR.out]; rfl, by omega, by rw [← HR.out]; exact HKS.out, by have h := HBF.out; exact h⟩
    · have e4 : ((k : Int) == 4) = false := by simp; omega
      rw [if_neg hk] at HR
      clear hk
      go_upto_region 4 with fail
      have c0 := Blk.cell HGO.out 0
      have c1 := Blk.cell HGO.out 1
      have c2 := Blk.cell HGO.out 2
      have c3 := Blk.cell HGO.out 3
      simp only [List.getElem?_toArray, List.getElem?_cons_zero, List.getElem?_cons_succ] at c0 c1 c2 c3
      have z0 := Blk.cell HRS.out 0
      have z1 := Blk.cell HRS.out 1
      have z2 := Blk.cell HRS.out 2
      have z3 := Blk.cell HRS.out 3
      simp only [List.getElem?_toArray, List.getElem?_cons_zero, List.getElem?_cons_succ] at z0 z1 z2 z3
      have f0 := Blk.frozen HRS.out 0
      have f1 := Blk.frozen HRS.out 1
      have f2 := Blk.frozen HRS.out 2
      have f3 := Blk.frozen HRS.out 3
      have hfin := rp_put13 HRS.out (.int .i64 (erN13 p : Int)) (.int .i64 (r : Int)) (.string (vaK13 v)) (.slice none 0 0)
      have e0 := Blk.cell hfin 0
      have e1 := Blk.cell hfin 1
      have e2 := Blk.cell hfin 2
      have e3 := Blk.cell hfin 3
      simp only [List.getElem?_toArray, List.getElem?_cons_zero, List.getElem?_cons_succ] at e0 e1 e2 e3
      have HBF := Lib.hid (below_four13 (g := B + 1) HB2.out (by have := HBE.out; omega) (.int .i64 (erN13 p : Int)) (.int .i64 (r : Int)) (.string (vaK13 v)) (.slice none 0 0))
      clear hfin
      go_wp2_with fail
      refine bodyPost_ret (v := .agg #[(.int .i64 (erN13 p : Int)), (.int .i64 (r : Int)), (.string (vaK13 v)), (.slice none 0 0)]) (by simp [results, Try.results10, go_sem, e0, e1, e2, e3]) rfl ⟨none, 0, 0, by rw [← HR.out]; rfl, Nat.le_refl _, by rw [← HR.out]; exact isSs_nil _ _, by have h := HBF.out; exact h⟩
end Go.Proofs.Ytgckoihangccbaa
