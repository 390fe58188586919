import Derived.Test.YtndkmepdnekigaaCtJoin
import Derived.Test.YtndkmepdnekigaaCtNew
import Derived.Test.YtndkmepdnekigaaCtPlan
import Derived.Test.YtndkmepdnekigaaCtFinal
import Derived.Test.YtndkmepdnekigaaCtCommit
import Derived.Test.YtndkmepdnekigaaCtCtlM
import Derived.Test.YtndkmepdnekigaaOpen
import Derived.Test.YtndkmepdnekigaaGPick
/-
  The contract of the law's own Control: the controller that raw steps make (stage 18).
-/
namespace Go.Proofs.Ytndkmepdnekigaa
open Go.RowKit
set_option linter.unusedVariables false
set_option linter.unusedSimpArgs false

abbrev put3 (V : World) (g : Nat) (x y z : Value) : World := ((V.setCell ⟨g, 0, none⟩ x).setCell ⟨g, 1, none⟩ y).setCell ⟨g, 2, none⟩ z
theorem ct_put {V : World} {g : Nat} {c : CtR} {A B : Option Addr} {n cap m cm : Nat} (h : Blk V g (ctB c A n cap B m cm)) (c2 : CtR) (A2 : Option Addr) (n2 k2 : Nat) (B2 : Option Addr) (m2 d2 : Nat) :
    Blk (put3 V g (.int .i64 c2.level) (.slice A2 n2 k2) (.slice B2 m2 d2)) g (ctB c2 A2 n2 k2 B2 m2 d2) :=
  Blk.set (Blk.set (Blk.set h 0 (.int .i64 c2.level) #[.int .i64 c2.level, .slice A n cap, .slice B m cm] rfl) 1 (.slice A2 n2 k2) #[.int .i64 c2.level, .slice A2 n2 k2, .slice B m cm] rfl) 2 (.slice B2 m2 d2) #[.int .i64 c2.level, .slice A2 n2 k2, .slice B2 m2 d2] rfl
theorem row_put3 {α : Type} {S : Shp α} {T : TypeId} {V : World} {base g : Nat} {v : Value} {l : List α} (h : RowG S T V base v l) (hg : v.ownBlock ≠ some g) (x y z : Value) : RowG S T (put3 V g x y z) base v l := ((h.far hg x).far hg y).far hg z
theorem blk_put3 {V : World} {g g2 : Nat} {o : Obj} (h : Blk V g2 o) (hg : g2 ≠ g) (x y z : Value) : Blk (put3 V g x y z) g2 o := Blk.far (Blk.far (Blk.far h hg 0 x) hg 1 y) hg 2 z
theorem below_put3 {V W : World} {g B : Nat} (h : Below B W V) (hg : B ≤ g) (x y z : Value) : Below B W (put3 V g x y z) := ((h.setCell (p := ⟨g, 0, none⟩) hg x).setCell (p := ⟨g, 1, none⟩) hg y).setCell (p := ⟨g, 2, none⟩) hg z
set_option maxRecDepth 100000 in
set_option maxHeartbeats 8000000 in
theorem control_any (x y : Int) (A : Option Addr) (n cap : Nat) (f : Nat → Nat → Int) (w : World) (hx : (Lit.int .i64 x).wf = true) (hy : (Lit.int .i64 y).wf = true) (h : IsRaw w A n 3 f) :
    Calls Try.prog 15 #[.int .i64 x, .int .i64 y, .slice A n cap] w (OwnPost w (ctlC x y f n)) := by
  have hn9 := h.1
  have HC := Lib.hid h.2; clear h
  have HFIN : Hid (ctlC x y f n = ctlD (newC (1 + (pickN x 8 : Nat)) 5 (1 + (pickN y 2 : Nat))) f (min n 30)) := rfl
  have HOK := Lib.hid (ctlD_ok (new_ok x y) f)
  have HZ0 := Blk.new w (.cells #[.int .i64 0, .slice none 0 0, .slice none 0 0] 26)
  have HB0 := (Below.refl w.heap.size w).alloc (Nat.le_refl _) (.cells #[.int .i64 0, .slice none 0 0, .slice none 0 0] 26)
  have q1 := pick_nat x 8 (by decide) (by decide) hx (w.alloc (.cells #[.int .i64 0, .slice none 0 0, .slice none 0 0] 26))
  have q2 := pick_nat y 2 (by decide) (by decide) hy (w.alloc (.cells #[.int .i64 0, .slice none 0 0, .slice none 0 0] 26))
  have p1 := pick_le x 8 (by decide)
  have p2 := pick_le y 2 (by decide)
  generalize ctlC x y f n = CF at *
  generalize pickN x 8 = a at *
  generalize pickN y 2 = d at *
  have q3 := refnew9_any (1 + (a : Int)) 5 (1 + (d : Int)) (w.alloc (.cells #[.int .i64 0, .slice none 0 0, .slice none 0 0] 26)) (wf_i (by omega) (by omega)) (wf_i (by decide) (by decide)) (wf_i (by omega) (by omega))
  generalize newC (1 + (a : Int)) 5 (1 + (d : Int)) = c0 at *
  have HZ := Lib.hid HZ0; clear HZ0
  have HB := Lib.hid HB0; clear HB0
  go_enter Try.func15, Try.ntmps15
  go_wp2_with fail
  ((with_reducible refine q1.mono ?_); rintro e V1 ⟨rfl, rfl⟩)
  go_wp2_with fail
  ((with_reducible refine q2.mono ?_); rintro e V2 ⟨rfl, rfl⟩)
  go_wp2_with fail
  ((with_reducible refine q3.mono ?_); rintro e V ⟨A0, n0, k0, B0, m0, d0, rfl, hr0, hp0, hne0, b0⟩)
  clear q1 q2 q3 p1 p2
  go_upto_region 2 with fail
  have hba := ba9 V (ctB c0 A0 n0 k0 B0 m0 d0)
  have HA1 := Lib.hid (Blk.new V (ctB c0 A0 n0 k0 B0 m0 d0))
  have HR1 := Lib.hid ((hr0.mono (base2 := w.heap.size + 1) (Blk.lt HZ.out)).below hba)
  have HP1 := Lib.hid ((hp0.mono (base2 := w.heap.size + 1) (Blk.lt HZ.out)).below hba)
  have HO1 : Hid ((Value.slice A0 n0 k0).ownBlock ≠ some V.heap.size ∧ (Value.slice B0 m0 d0).ownBlock ≠ some V.heap.size) := ⟨fun e => Nat.lt_irrefl _ (hr0.lt _ e).2, fun e => Nat.lt_irrefl _ (hp0.lt _ e).2⟩
  have HN1 := Lib.hid hne0
  have HZ1 := Lib.hid (Blk.below (Blk.below HZ.out b0) hba)
  have HB1 := Lib.hid (bch (bch HB.out b0) hba)
  have HGZ : Hid (w.heap.size ≠ V.heap.size) := by show _ ≠ _; have h1 := HB.out.size; have h2 := b0.size; have h3 := Blk.lt HZ.out; omega
  have HGL : Hid (w.heap.size ≤ V.heap.size) := Nat.le_trans HB.out.size b0.size
  obtain ⟨V9, hV9⟩ : ∃ X, V.alloc (ctB c0 A0 n0 k0 B0 m0 d0) = X := ⟨_, rfl⟩
  rw [hV9] at HA1 HR1 HP1 HZ1 HB1
  rw [hV9]
  clear hV9 hba hr0 hp0 hne0 b0 HZ HB
  generalize V.heap.size = g at *
  go_wp2_with fail
  go_loopw [8] (fun i wr => ∃ k : Nat, k ≤ n ∧ k ≤ 30 ∧ i = .int .i64 k ∧ ∃ A1 n1 c1 B1 m1 d1, Hid (Blk wr g (ctB (ctlD c0 f k) A1 n1 c1 B1 m1 d1)) ∧ Hid (RowG s2 45 wr (w.heap.size + 1) (.slice A1 n1 c1) (ctlD c0 f k).mem) ∧ Hid (RowG s3 48 wr (w.heap.size + 1) (.slice B1 m1 d1) (ctlD c0 f k).pl) ∧ Hid ((Value.slice A1 n1 c1).ownBlock ≠ some g ∧ (Value.slice B1 m1 d1).ownBlock ≠ some g) ∧ Hid (0 < n1 → 0 < m1 → A1 ≠ B1) ∧ Hid (Blk wr w.heap.size (.cells #[.int .i64 0, .slice none 0 0, .slice none 0 0] 26)) ∧ Hid (Below w.heap.size w wr)) (fun i _ => n - (intOf i).toNat)
  case atStart => exact ⟨0, Nat.zero_le _, by omega, rfl, A0, n0, k0, B0, m0, d0, HA1.out, HR1.out, HP1.out, HO1.out, HN1.out, HZ1.out, HB1.out⟩
  case round =>
    clear HA1 HR1 HP1 HO1 HN1 HZ1 HB1
    obtain ⟨k, hk, hk30, rfl, A1, n1, c1, B1, m1, d1, HA, HR, HP, HO, HN, HZ, HB⟩ := hrel
    have HOC := Lib.hid (HOK.out k)
    have HSP : Hid (ctlD c0 f (k + 1) = stpC (ctlD c0 f k) (f k)) := rfl
    have HKE : Hid (¬ (k < n ∧ k < 30) → ctlD c0 f (min n 30) = ctlD c0 f k) := fun h => by rw [show min n 30 = k by omega]
    generalize hcc : ctlD c0 f k = c at *
    clear hcc
    have HSM := Lib.hid HOC.out.1.small
    obtain ⟨_, _, hv1, hk1, hi1⟩ := HR.out.parts
    obtain ⟨rfl, hl1, rfl⟩ := slice_eqG hv1
    obtain ⟨_, _, hv2, hk2, hi2⟩ := HP.out.parts
    obtain ⟨rfl, hl2, rfl⟩ := slice_eqG hv2
    subst hl1
    subst hl2
    have HCT : Hid (IsCt wr c A1 c.mem.length B1 c.pl.length) := ⟨hi1, hi2⟩
    clear hv1 hv2 hk1 hk2 hi1 hi2
    by_cases hcnd : k < n ∧ k < 30
    · obtain ⟨hlt, h30⟩ := hcnd
      clear HKE
      obtain ⟨b, off, hA, hbb, hc⟩ := HC.out (by omega)
      subst hA
      have z0 := hc k 0 hlt (by omega)
      rw [Nat.add_zero] at z0
      have z1 := hc k 1 hlt (by omega)
      have z2 := hc k 2 hlt (by omega)
      have HBB0 := Lib.hid hbb
      have HBB : Hid (b < wr.heap.size) := Nat.lt_of_lt_of_le hbb HB.out.size
      have x0 := (HB.out.cell (p := ⟨b, off + k * 3, none⟩) hbb).trans z0.1
      have x1 := (HB.out.cell (p := ⟨b, off + k * 3 + 1, none⟩) hbb).trans z1.1
      have x2 := (HB.out.cell (p := ⟨b, off + k * 3 + 2, none⟩) hbb).trans z2.1
      have q5 := pick_nat (f k 1) 8 (by decide) (by decide) z1.2 wr
      have q6 := pick_nat (f k 2) 10 (by decide) (by decide) z2.2 wr
      have q7 := pick_nat (f k 0) 10 (by decide) (by decide) z0.2 wr
      have qb : Hid (∀ W, Calls Try.prog 14 #[.int .i64 (f k 1), .int .i64 2] W fun e w' => e = .returned (.int .i64 (pickN (f k 1) 2)) ∧ W = w') := fun W => pick_nat (f k 1) 2 (by decide) (by decide) z1.2 W
      have p0 := pick_le (f k 0) 10 (by decide)
      have p1 := pick_le (f k 1) 8 (by decide)
      have p2 := pick_le (f k 2) 10 (by decide)
      have p3 := pick_le (f k 1) 2 (by decide)
      have hki : (k : Int) < (n : Int) := by omega
      have hk4 : (k : Int) < 30 := by omega
      have hk0 : (0 : Int) ≤ (k : Int) := by omega
      unfold stpC at HSP
      simp only at HSP
      generalize pickN (f k 0) 10 = t at *
      generalize pickN (f k 1) 8 = s at *
      generalize pickN (f k 2) 10 = h at *
      generalize pickN (f k 1) 2 = b2 at *
      have hwb : IntKind.i64.wrap (1 + (b2 : Int)) = 1 + (b2 : Int) := IntWalk.i64_in _ (by omega)
      have t0 := Blk.cell HA.out 0
      have t1 := Blk.cell HA.out 1
      have t2 := Blk.cell HA.out 2
      simp only [List.getElem?_toArray, List.getElem?_cons_zero, List.getElem?_cons_succ] at t0 t1 t2
      clear hc z0 z1 z2 hbb
      go_wp2_with fail
      ((with_reducible refine q5.mono ?_); rintro e W1 ⟨rfl, rfl⟩)
      go_wp2_with fail
      ((with_reducible refine q6.mono ?_); rintro e W1 ⟨rfl, rfl⟩)
      go_wp2_with fail
      ((with_reducible refine q7.mono ?_); rintro e W1 ⟨rfl, rfl⟩)
      clear q5 q6 q7
      have ht : t = 0 ∨ t = 1 ∨ t = 2 ∨ t = 3 ∨ t = 4 ∨ t = 5 ∨ t = 6 ∨ t = 7 ∨ t = 8 ∨ t = 9 := by omega
      clear p0
      rcases ht with rfl | rfl | rfl | rfl | rfl | rfl | rfl | rfl | rfl | rfl
      · have HST : Hid (ctlD c0 f (k + 1) = (joinC c (1 + (h : Int)) (1 + (b2 : Int))).1) := by show _ = _; rw [HSP.out]; rw [if_pos (by decide)]
        clear HSP
        go_upto_region 12 with fail
        refine wp_region_noPanic ?_
        refine wp_region_till (S := (fun W_ => Blk W_ g (ctB c A1 c.mem.length c1 B1 c.pl.length d1) ∧ Below wr.heap.size wr W_)) [13] (by kernel_rfl) (⟨HA.out.drew, (Below.refl _ _).drew⟩) (fun hHeld => ?_)
        refine wpTill_take (i := 0) (v := ?_) rfl (by kernel_rfl) (by kernel_rfl) (by kernel_rfl) (by kernel_rfl) (fun _ _ _ h => h) (Or.inl ⟨by rfl, ?_⟩) (by assumption) ?_
        rotate_left
        · (intro w hSw; (try dsimp only at hSw); (have v0 := Blk.cell hSw.1 0); (have v1 := Blk.cell hSw.1 1); (have v2 := Blk.cell hSw.1 2); simp only [List.getElem?_toArray, List.getElem?_cons_zero, List.getElem?_cons_succ] at v0 v1 v2; go_simp; (try with_reducible rfl))
        simp only [Act.put, List.getElem_toArray, List.getElem_cons_zero, List.setIfInBounds_toArray, List.set_cons_zero, List.set_cons_succ]
        refine wpTill_take (i := 1) (v := ?_) rfl (by kernel_rfl) (by kernel_rfl) (by kernel_rfl) (by kernel_rfl) (fun _ _ _ h => h) (Or.inl ⟨by rfl, ?_⟩) (by assumption) ?_
        rotate_left
        · (intro w hSw; (try dsimp only at hSw); go_simp; (try with_reducible rfl))
        simp only [Act.put, List.getElem_toArray, List.getElem_cons_zero, List.getElem_cons_succ, List.setIfInBounds_toArray, List.set_cons_zero, List.set_cons_succ]
        refine wpTill_take (i := 2) (v := ?_) rfl (by kernel_rfl) (by kernel_rfl) (by kernel_rfl) (by kernel_rfl) (fun _ _ _ h => h) (Or.inl ⟨by rfl, ?_⟩) (by assumption) ?_
        rotate_left
        · (intro w hSw; (try dsimp only at hSw); go_simp; (try with_reducible rfl))
        simp only [Act.put, List.getElem_toArray, List.getElem_cons_zero, List.getElem_cons_succ, List.setIfInBounds_toArray, List.set_cons_zero, List.set_cons_succ]
        refine wpTill_take (i := 3) (v := ?_) rfl (by kernel_rfl) (by kernel_rfl) (by kernel_rfl) (by kernel_rfl) (fun _ _ _ h => h) (Or.inl ⟨by rfl, ?_⟩) (by assumption) ?_
        rotate_left
        · (intro w hSw; (try dsimp only at hSw); go_simp; (try with_reducible rfl))
        simp only [Act.put, List.getElem_toArray, List.getElem_cons_zero, List.getElem_cons_succ, List.setIfInBounds_toArray, List.set_cons_zero, List.set_cons_succ]
        refine wpTill_take (i := 4) (v := ?_) rfl (by kernel_rfl) (by kernel_rfl) (by kernel_rfl) (by kernel_rfl) (fun _ _ _ h => h) (Or.inl ⟨by rfl, ?_⟩) (by assumption) ?_
        rotate_left
        · (intro w hSw; (try dsimp only at hSw); go_simp; (try with_reducible rfl))
        simp only [Act.put, List.getElem_toArray, List.getElem_cons_zero, List.getElem_cons_succ, List.setIfInBounds_toArray, List.set_cons_zero, List.set_cons_succ]
        refine wpTill_take (i := 5) (v := ?_) rfl (by kernel_rfl) (by kernel_rfl) (by kernel_rfl) (by kernel_rfl) (fun _ _ _ h => h) (Or.inl ⟨by rfl, ?_⟩) (by assumption) ?_
        rotate_left
        · (intro w hSw; (try dsimp only at hSw); go_simp; (try with_reducible rfl))
        simp only [Act.put, List.getElem_toArray, List.getElem_cons_zero, List.getElem_cons_succ, List.setIfInBounds_toArray, List.set_cons_zero, List.set_cons_succ]
        refine wpTill_take (i := 6) (v := ?_) rfl (by kernel_rfl) (by kernel_rfl) (by kernel_rfl) (by kernel_rfl) (fun _ _ _ h => h) (Or.inl ⟨by rfl, ?_⟩) (by assumption) ?_
        rotate_left
        · (intro w hSw; (try dsimp only at hSw); (have v0 := (hSw.2.cell (p := ⟨b, off + k * 3 + 1, none⟩) HBB.out).trans x1); go_simp; (try with_reducible rfl))
        simp only [Act.put, List.getElem_toArray, List.getElem_cons_zero, List.getElem_cons_succ, List.setIfInBounds_toArray, List.set_cons_zero, List.set_cons_succ]
        refine wpTill_ready (rs := [7]) (by kernel_rfl) (by simp) ?_
        refine AllReadyT.cons rfl (fun K hK => ?_) AllReadyT.nil
        rw [if_pos (by rfl)]
        go_simp
        ((with_reducible refine (qb.out _).mono ?_); rintro e Wp ⟨rfl, rfl⟩)
        refine hK.out _ _ (hHeld) (fun hHeld2 => ?_)
        clear hK K hHeld
        have hHeld := hHeld2; clear hHeld2
        refine wpTill_take (i := 8) (v := ?_) rfl (by kernel_rfl) (by kernel_rfl) (by kernel_rfl) (by kernel_rfl) (fun _ _ _ h => h) (Or.inl ⟨by rfl, ?_⟩) (by assumption) ?_
        rotate_left
        · (intro w hSw; (try dsimp only at hSw); go_simp; (try with_reducible rfl))
        simp only [Act.put, List.getElem_toArray, List.getElem_cons_zero, List.getElem_cons_succ, List.setIfInBounds_toArray, List.set_cons_zero, List.set_cons_succ]
        refine wpTill_ready (rs := [9]) (by kernel_rfl) (by simp) ?_
        refine AllReadyT.cons rfl (fun K hK => ?_) AllReadyT.nil
        rw [if_pos (by rfl)]
        go_simp
        ((with_reducible refine (refjoin9_any c A1 B1 c.mem.length c1 c.pl.length d1 (1 + (h : Int)) (1 + (b2 : Int)) _ (HCT.out.below hHeld.2) (by have := HSM.out.1; omega) (by have := HSM.out.2; omega)).mono ?_); rintro e V2 ⟨A2, n2, c2, B2, m2, d2, rfl, hr2, hp2, hne2, bl2⟩)
        have hb29 := bch hHeld.2 bl2
        have hs29 : wr.heap.size ≤ wr.drew.heap.size := Nat.le_refl _
        refine hK.out _ _ (⟨Blk.below hHeld.1 bl2, hb29⟩) (fun hHeld2 => ?_)
        clear hK K hHeld
        have hHeld := hHeld2; clear hHeld2
        refine wpTill_take (i := 10) (v := ?_) rfl (by kernel_rfl) (by kernel_rfl) (by kernel_rfl) (by kernel_rfl) (fun _ _ _ h => h) (Or.inl ⟨by rfl, ?_⟩) (by assumption) ?_
        rotate_left
        · (intro w hSw; (try dsimp only at hSw); go_simp; (try with_reducible rfl))
        simp only [Act.put, List.getElem_toArray, List.getElem_cons_zero, List.getElem_cons_succ, List.setIfInBounds_toArray, List.set_cons_zero, List.set_cons_succ]
        refine wpTill_take (i := 11) (v := ?_) rfl (by kernel_rfl) (by kernel_rfl) (by kernel_rfl) (by kernel_rfl) (fun _ _ _ h => h) (Or.inl ⟨by rfl, ?_⟩) (by assumption) ?_
        rotate_left
        · (intro w hSw; (try dsimp only at hSw); go_simp; (try with_reducible rfl))
        simp only [Act.put, List.getElem_toArray, List.getElem_cons_zero, List.getElem_cons_succ, List.setIfInBounds_toArray, List.set_cons_zero, List.set_cons_succ]
        refine wpTill_pure (i := 12) (v := ?_) rfl (by kernel_rfl) (by kernel_rfl) (by kernel_rfl) (by kernel_rfl) (fun _ _ _ h => h) (Or.inl ⟨by rfl, ?_⟩) (by assumption) ?_
        rotate_left
        · (intro w hSw; (try dsimp only at hSw); go_simp; (try with_reducible rfl))
        simp only [Act.put, List.getElem_toArray, List.getElem_cons_zero, List.getElem_cons_succ, List.setIfInBounds_toArray, List.set_cons_zero, List.set_cons_succ]
        clear x0 x1 x2 t0 t1 t2
        have HGC : Hid (g < wr.heap.size) := Blk.lt HA.out
        have hr3 := hr2.mono (base2 := w.heap.size + 1) (Blk.lt HZ.out)
        have hp3 := hp2.mono (base2 := w.heap.size + 1) (Blk.lt HZ.out)
        have HOW : Hid ((Value.slice A2 n2 c2).ownBlock ≠ some g ∧ (Value.slice B2 m2 d2).ownBlock ≠ some g) := ⟨fun e => by have h1 := (hr2.lt g e).1; have h2 := HGC.out; omega, fun e => by have h1 := (hp2.lt g e).1; have h2 := HGC.out; omega⟩
        have hA2 := hHeld.1
        have hZ2 := Blk.below HZ.out hHeld.2
        have HA3 := Lib.hid (ct_put hA2 ((joinC c (1 + (h : Int)) (1 + (b2 : Int)))).1 A2 n2 c2 B2 m2 d2)
        have HR3 := Lib.hid (row_put3 hr3 HOW.out.1 (.int .i64 ((joinC c (1 + (h : Int)) (1 + (b2 : Int)))).1.level) (.slice A2 n2 c2) (.slice B2 m2 d2))
        have HP3 := Lib.hid (row_put3 hp3 HOW.out.2 (.int .i64 ((joinC c (1 + (h : Int)) (1 + (b2 : Int)))).1.level) (.slice A2 n2 c2) (.slice B2 m2 d2))
        have HZ3 := Lib.hid (blk_put3 hZ2 HGZ.out (.int .i64 ((joinC c (1 + (h : Int)) (1 + (b2 : Int)))).1.level) (.slice A2 n2 c2) (.slice B2 m2 d2))
        have HB3 := Lib.hid (below_put3 (bch HB.out hHeld.2) HGL.out (.int .i64 ((joinC c (1 + (h : Int)) (1 + (b2 : Int)))).1.level) (.slice A2 n2 c2) (.slice B2 m2 d2))
        have HN3 := Lib.hid hne2
        have y0 := Blk.cell hA2 0
        have y1 := Blk.cell hA2 1
        have y2 := Blk.cell hA2 2
        simp only [List.getElem?_toArray, List.getElem?_cons_zero, List.getElem?_cons_succ] at y0 y1 y2
        have f0 := Blk.frozen hA2 0
        have f1 := Blk.frozen hA2 1
        have f2 := Blk.frozen hA2 2
        clear hr2 hp2 hne2 bl2 hr3 hp3 hA2 hZ2
        refine wpTill_ready (rs := [13]) (by kernel_rfl) (by simp) ?_
        refine AllReadyT.last rfl (by kernel_rfl) (fun K hK => ?_) AllReadyT.nil
        rw [if_pos (by rfl)]
        go_simp
        refine hK.out _ _ (trivial) (fun hHeld2 => ?_)
        clear hK K hHeld
        have hHeld := hHeld2; clear hHeld2
        refine wpTill_done (by kernel_rfl) ?_ _
        refine NoPanic.normal ?_
        go_wp2_with fail
        go_roundw
        case rel => exact ⟨k + 1, by omega, by omega, by go_num, A2, n2, c2, B2, m2, d2, by show Blk _ _ _; rw [HST.out]; exact HA3.out, by show RowG _ _ _ _ _ _; rw [HST.out]; exact HR3.out, by show RowG _ _ _ _ _ _; rw [HST.out]; exact HP3.out, HOW.out, HN3.out, HZ3.out, HB3.out⟩
        case measure => simp [intOf]; omega
      · have HST : Hid (ctlD c0 f (k + 1) = (joinC c (1 + (h : Int)) (1 + (b2 : Int))).1) := by show _ = _; rw [HSP.out]; rw [if_pos (by decide)]
        clear HSP
        go_upto_region 12 with fail
        refine wp_region_noPanic ?_
        refine wp_region_till (S := (fun W_ => Blk W_ g (ctB c A1 c.mem.length c1 B1 c.pl.length d1) ∧ Below wr.heap.size wr W_)) [13] (by kernel_rfl) (⟨HA.out.drew, (Below.refl _ _).drew⟩) (fun hHeld => ?_)
        refine wpTill_take (i := 0) (v := ?_) rfl (by kernel_rfl) (by kernel_rfl) (by kernel_rfl) (by kernel_rfl) (fun _ _ _ h => h) (Or.inl ⟨by rfl, ?_⟩) (by assumption) ?_
        rotate_left
        · (intro w hSw; (try dsimp only at hSw); (have v0 := Blk.cell hSw.1 0); (have v1 := Blk.cell hSw.1 1); (have v2 := Blk.cell hSw.1 2); simp only [List.getElem?_toArray, List.getElem?_cons_zero, List.getElem?_cons_succ] at v0 v1 v2; go_simp; (try with_reducible rfl))
        simp only [Act.put, List.getElem_toArray, List.getElem_cons_zero, List.setIfInBounds_toArray, List.set_cons_zero, List.set_cons_succ]
        refine wpTill_take (i := 1) (v := ?_) rfl (by kernel_rfl) (by kernel_rfl) (by kernel_rfl) (by kernel_rfl) (fun _ _ _ h => h) (Or.inl ⟨by rfl, ?_⟩) (by assumption) ?_
        rotate_left
        · (intro w hSw; (try dsimp only at hSw); go_simp; (try with_reducible rfl))
        simp only [Act.put, List.getElem_toArray, List.getElem_cons_zero, List.getElem_cons_succ, List.setIfInBounds_toArray, List.set_cons_zero, List.set_cons_succ]
        refine wpTill_take (i := 2) (v := ?_) rfl (by kernel_rfl) (by kernel_rfl) (by kernel_rfl) (by kernel_rfl) (fun _ _ _ h => h) (Or.inl ⟨by rfl, ?_⟩) (by assumption) ?_
        rotate_left
        · (intro w hSw; (try dsimp only at hSw); go_simp; (try with_reducible rfl))
        simp only [Act.put, List.getElem_toArray, List.getElem_cons_zero, List.getElem_cons_succ, List.setIfInBounds_toArray, List.set_cons_zero, List.set_cons_succ]
        refine wpTill_take (i := 3) (v := ?_) rfl (by kernel_rfl) (by kernel_rfl) (by kernel_rfl) (by kernel_rfl) (fun _ _ _ h => h) (Or.inl ⟨by rfl, ?_⟩) (by assumption) ?_
        rotate_left
        · (intro w hSw; (try dsimp only at hSw); go_simp; (try with_reducible rfl))
        simp only [Act.put, List.getElem_toArray, List.getElem_cons_zero, List.getElem_cons_succ, List.setIfInBounds_toArray, List.set_cons_zero, List.set_cons_succ]
        refine wpTill_take (i := 4) (v := ?_) rfl (by kernel_rfl) (by kernel_rfl) (by kernel_rfl) (by kernel_rfl) (fun _ _ _ h => h) (Or.inl ⟨by rfl, ?_⟩) (by assumption) ?_
        rotate_left
        · (intro w hSw; (try dsimp only at hSw); go_simp; (try with_reducible rfl))
        simp only [Act.put, List.getElem_toArray, List.getElem_cons_zero, List.getElem_cons_succ, List.setIfInBounds_toArray, List.set_cons_zero, List.set_cons_succ]
        refine wpTill_take (i := 5) (v := ?_) rfl (by kernel_rfl) (by kernel_rfl) (by kernel_rfl) (by kernel_rfl) (fun _ _ _ h => h) (Or.inl ⟨by rfl, ?_⟩) (by assumption) ?_
        rotate_left
        · (intro w hSw; (try dsimp only at hSw); go_simp; (try with_reducible rfl))
        simp only [Act.put, List.getElem_toArray, List.getElem_cons_zero, List.getElem_cons_succ, List.setIfInBounds_toArray, List.set_cons_zero, List.set_cons_succ]
        refine wpTill_take (i := 6) (v := ?_) rfl (by kernel_rfl) (by kernel_rfl) (by kernel_rfl) (by kernel_rfl) (fun _ _ _ h => h) (Or.inl ⟨by rfl, ?_⟩) (by assumption) ?_
        rotate_left
        · (intro w hSw; (try dsimp only at hSw); (have v0 := (hSw.2.cell (p := ⟨b, off + k * 3 + 1, none⟩) HBB.out).trans x1); go_simp; (try with_reducible rfl))
        simp only [Act.put, List.getElem_toArray, List.getElem_cons_zero, List.getElem_cons_succ, List.setIfInBounds_toArray, List.set_cons_zero, List.set_cons_succ]
        refine wpTill_ready (rs := [7]) (by kernel_rfl) (by simp) ?_
        refine AllReadyT.cons rfl (fun K hK => ?_) AllReadyT.nil
        rw [if_pos (by rfl)]
        go_simp
        ((with_reducible refine (qb.out _).mono ?_); rintro e Wp ⟨rfl, rfl⟩)
        refine hK.out _ _ (hHeld) (fun hHeld2 => ?_)
        clear hK K hHeld
        have hHeld := hHeld2; clear hHeld2
        refine wpTill_take (i := 8) (v := ?_) rfl (by kernel_rfl) (by kernel_rfl) (by kernel_rfl) (by kernel_rfl) (fun _ _ _ h => h) (Or.inl ⟨by rfl, ?_⟩) (by assumption) ?_
        rotate_left
        · (intro w hSw; (try dsimp only at hSw); go_simp; (try with_reducible rfl))
        simp only [Act.put, List.getElem_toArray, List.getElem_cons_zero, List.getElem_cons_succ, List.setIfInBounds_toArray, List.set_cons_zero, List.set_cons_succ]
        refine wpTill_ready (rs := [9]) (by kernel_rfl) (by simp) ?_
        refine AllReadyT.cons rfl (fun K hK => ?_) AllReadyT.nil
        rw [if_pos (by rfl)]
        go_simp
        ((with_reducible refine (refjoin9_any c A1 B1 c.mem.length c1 c.pl.length d1 (1 + (h : Int)) (1 + (b2 : Int)) _ (HCT.out.below hHeld.2) (by have := HSM.out.1; omega) (by have := HSM.out.2; omega)).mono ?_); rintro e V2 ⟨A2, n2, c2, B2, m2, d2, rfl, hr2, hp2, hne2, bl2⟩)
        have hb29 := bch hHeld.2 bl2
        have hs29 : wr.heap.size ≤ wr.drew.heap.size := Nat.le_refl _
        refine hK.out _ _ (⟨Blk.below hHeld.1 bl2, hb29⟩) (fun hHeld2 => ?_)
        clear hK K hHeld
        have hHeld := hHeld2; clear hHeld2
        refine wpTill_take (i := 10) (v := ?_) rfl (by kernel_rfl) (by kernel_rfl) (by kernel_rfl) (by kernel_rfl) (fun _ _ _ h => h) (Or.inl ⟨by rfl, ?_⟩) (by assumption) ?_
        rotate_left
        · (intro w hSw; (try dsimp only at hSw); go_simp; (try with_reducible rfl))
        simp only [Act.put, List.getElem_toArray, List.getElem_cons_zero, List.getElem_cons_succ, List.setIfInBounds_toArray, List.set_cons_zero, List.set_cons_succ]
        refine wpTill_take (i := 11) (v := ?_) rfl (by kernel_rfl) (by kernel_rfl) (by kernel_rfl) (by kernel_rfl) (fun _ _ _ h => h) (Or.inl ⟨by rfl, ?_⟩) (by assumption) ?_
        rotate_left
        · (intro w hSw; (try dsimp only at hSw); go_simp; (try with_reducible rfl))
        simp only [Act.put, List.getElem_toArray, List.getElem_cons_zero, List.getElem_cons_succ, List.setIfInBounds_toArray, List.set_cons_zero, List.set_cons_succ]
        refine wpTill_pure (i := 12) (v := ?_) rfl (by kernel_rfl) (by kernel_rfl) (by kernel_rfl) (by kernel_rfl) (fun _ _ _ h => h) (Or.inl ⟨by rfl, ?_⟩) (by assumption) ?_
        rotate_left
        · (intro w hSw; (try dsimp only at hSw); go_simp; (try with_reducible rfl))
        simp only [Act.put, List.getElem_toArray, List.getElem_cons_zero, List.getElem_cons_succ, List.setIfInBounds_toArray, List.set_cons_zero, List.set_cons_succ]
        clear x0 x1 x2 t0 t1 t2
        have HGC : Hid (g < wr.heap.size) := Blk.lt HA.out
        have hr3 := hr2.mono (base2 := w.heap.size + 1) (Blk.lt HZ.out)
        have hp3 := hp2.mono (base2 := w.heap.size + 1) (Blk.lt HZ.out)
        have HOW : Hid ((Value.slice A2 n2 c2).ownBlock ≠ some g ∧ (Value.slice B2 m2 d2).ownBlock ≠ some g) := ⟨fun e => by have h1 := (hr2.lt g e).1; have h2 := HGC.out; omega, fun e => by have h1 := (hp2.lt g e).1; have h2 := HGC.out; omega⟩
        have hA2 := hHeld.1
        have hZ2 := Blk.below HZ.out hHeld.2
        have HA3 := Lib.hid (ct_put hA2 ((joinC c (1 + (h : Int)) (1 + (b2 : Int)))).1 A2 n2 c2 B2 m2 d2)
        have HR3 := Lib.hid (row_put3 hr3 HOW.out.1 (.int .i64 ((joinC c (1 + (h : Int)) (1 + (b2 : Int)))).1.level) (.slice A2 n2 c2) (.slice B2 m2 d2))
        have HP3 := Lib.hid (row_put3 hp3 HOW.out.2 (.int .i64 ((joinC c (1 + (h : Int)) (1 + (b2 : Int)))).1.level) (.slice A2 n2 c2) (.slice B2 m2 d2))
        have HZ3 := Lib.hid (blk_put3 hZ2 HGZ.out (.int .i64 ((joinC c (1 + (h : Int)) (1 + (b2 : Int)))).1.level) (.slice A2 n2 c2) (.slice B2 m2 d2))
        have HB3 := Lib.hid (below_put3 (bch HB.out hHeld.2) HGL.out (.int .i64 ((joinC c (1 + (h : Int)) (1 + (b2 : Int)))).1.level) (.slice A2 n2 c2) (.slice B2 m2 d2))
        have HN3 := Lib.hid hne2
        have y0 := Blk.cell hA2 0
        have y1 := Blk.cell hA2 1
        have y2 := Blk.cell hA2 2
        simp only [List.getElem?_toArray, List.getElem?_cons_zero, List.getElem?_cons_succ] at y0 y1 y2
        have f0 := Blk.frozen hA2 0
        have f1 := Blk.frozen hA2 1
        have f2 := Blk.frozen hA2 2
        clear hr2 hp2 hne2 bl2 hr3 hp3 hA2 hZ2
        refine wpTill_ready (rs := [13]) (by kernel_rfl) (by simp) ?_
        refine AllReadyT.last rfl (by kernel_rfl) (fun K hK => ?_) AllReadyT.nil
        rw [if_pos (by rfl)]
        go_simp
        refine hK.out _ _ (trivial) (fun hHeld2 => ?_)
        clear hK K hHeld
        have hHeld := hHeld2; clear hHeld2
        refine wpTill_done (by kernel_rfl) ?_ _
        refine NoPanic.normal ?_
        go_wp2_with fail
        go_roundw
        case rel => exact ⟨k + 1, by omega, by omega, by go_num, A2, n2, c2, B2, m2, d2, by show Blk _ _ _; rw [HST.out]; exact HA3.out, by show RowG _ _ _ _ _ _; rw [HST.out]; exact HR3.out, by show RowG _ _ _ _ _ _; rw [HST.out]; exact HP3.out, HOW.out, HN3.out, HZ3.out, HB3.out⟩
        case measure => simp [intOf]; omega
      · have HST : Hid (ctlD c0 f (k + 1) = (joinC c (1 + (h : Int)) (1 + (b2 : Int))).1) := by show _ = _; rw [HSP.out]; rw [if_pos (by decide)]
        clear HSP
        go_upto_region 12 with fail
        refine wp_region_noPanic ?_
        refine wp_region_till (S := (fun W_ => Blk W_ g (ctB c A1 c.mem.length c1 B1 c.pl.length d1) ∧ Below wr.heap.size wr W_)) [13] (by kernel_rfl) (⟨HA.out.drew, (Below.refl _ _).drew⟩) (fun hHeld => ?_)
        refine wpTill_take (i := 0) (v := ?_) rfl (by kernel_rfl) (by kernel_rfl) (by kernel_rfl) (by kernel_rfl) (fun _ _ _ h => h) (Or.inl ⟨by rfl, ?_⟩) (by assumption) ?_
        rotate_left
        · (intro w hSw; (try dsimp only at hSw); (have v0 := Blk.cell hSw.1 0); (have v1 := Blk.cell hSw.1 1); (have v2 := Blk.cell hSw.1 2); simp only [List.getElem?_toArray, List.getElem?_cons_zero, List.getElem?_cons_succ] at v0 v1 v2; go_simp; (try with_reducible rfl))
        simp only [Act.put, List.getElem_toArray, List.getElem_cons_zero, List.setIfInBounds_toArray, List.set_cons_zero, List.set_cons_succ]
        refine wpTill_take (i := 1) (v := ?_) rfl (by kernel_rfl) (by kernel_rfl) (by kernel_rfl) (by kernel_rfl) (fun _ _ _ h => h) (Or.inl ⟨by rfl, ?_⟩) (by assumption) ?_
        rotate_left
        · (intro w hSw; (try dsimp only at hSw); go_simp; (try with_reducible rfl))
        simp only [Act.put, List.getElem_toArray, List.getElem_cons_zero, List.getElem_cons_succ, List.setIfInBounds_toArray, List.set_cons_zero, List.set_cons_succ]
        refine wpTill_take (i := 2) (v := ?_) rfl (by kernel_rfl) (by kernel_rfl) (by kernel_rfl) (by kernel_rfl) (fun _ _ _ h => h) (Or.inl ⟨by rfl, ?_⟩) (by assumption) ?_
        rotate_left
        · (intro w hSw; (try dsimp only at hSw); go_simp; (try with_reducible rfl))
        simp only [Act.put, List.getElem_toArray, List.getElem_cons_zero, List.getElem_cons_succ, List.setIfInBounds_toArray, List.set_cons_zero, List.set_cons_succ]
        refine wpTill_take (i := 3) (v := ?_) rfl (by kernel_rfl) (by kernel_rfl) (by kernel_rfl) (by kernel_rfl) (fun _ _ _ h => h) (Or.inl ⟨by rfl, ?_⟩) (by assumption) ?_
        rotate_left
        · (intro w hSw; (try dsimp only at hSw); go_simp; (try with_reducible rfl))
        simp only [Act.put, List.getElem_toArray, List.getElem_cons_zero, List.getElem_cons_succ, List.setIfInBounds_toArray, List.set_cons_zero, List.set_cons_succ]
        refine wpTill_take (i := 4) (v := ?_) rfl (by kernel_rfl) (by kernel_rfl) (by kernel_rfl) (by kernel_rfl) (fun _ _ _ h => h) (Or.inl ⟨by rfl, ?_⟩) (by assumption) ?_
        rotate_left
        · (intro w hSw; (try dsimp only at hSw); go_simp; (try with_reducible rfl))
        simp only [Act.put, List.getElem_toArray, List.getElem_cons_zero, List.getElem_cons_succ, List.setIfInBounds_toArray, List.set_cons_zero, List.set_cons_succ]
        refine wpTill_take (i := 5) (v := ?_) rfl (by kernel_rfl) (by kernel_rfl) (by kernel_rfl) (by kernel_rfl) (fun _ _ _ h => h) (Or.inl ⟨by rfl, ?_⟩) (by assumption) ?_
        rotate_left
        · (intro w hSw; (try dsimp only at hSw); go_simp; (try with_reducible rfl))
        simp only [Act.put, List.getElem_toArray, List.getElem_cons_zero, List.getElem_cons_succ, List.setIfInBounds_toArray, List.set_cons_zero, List.set_cons_succ]
        refine wpTill_take (i := 6) (v := ?_) rfl (by kernel_rfl) (by kernel_rfl) (by kernel_rfl) (by kernel_rfl) (fun _ _ _ h => h) (Or.inl ⟨by rfl, ?_⟩) (by assumption) ?_
        rotate_left
        · (intro w hSw; (try dsimp only at hSw); (have v0 := (hSw.2.cell (p := ⟨b, off + k * 3 + 1, none⟩) HBB.out).trans x1); go_simp; (try with_reducible rfl))
        simp only [Act.put, List.getElem_toArray, List.getElem_cons_zero, List.getElem_cons_succ, List.setIfInBounds_toArray, List.set_cons_zero, List.set_cons_succ]
        refine wpTill_ready (rs := [7]) (by kernel_rfl) (by simp) ?_
        refine AllReadyT.cons rfl (fun K hK => ?_) AllReadyT.nil
        rw [if_pos (by rfl)]
        go_simp
        ((with_reducible refine (qb.out _).mono ?_); rintro e Wp ⟨rfl, rfl⟩)
        refine hK.out _ _ (hHeld) (fun hHeld2 => ?_)
        clear hK K hHeld
        have hHeld := hHeld2; clear hHeld2
        refine wpTill_take (i := 8) (v := ?_) rfl (by kernel_rfl) (by kernel_rfl) (by kernel_rfl) (by kernel_rfl) (fun _ _ _ h => h) (Or.inl ⟨by rfl, ?_⟩) (by assumption) ?_
        rotate_left
        · (intro w hSw; (try dsimp only at hSw); go_simp; (try with_reducible rfl))
        simp only [Act.put, List.getElem_toArray, List.getElem_cons_zero, List.getElem_cons_succ, List.setIfInBounds_toArray, List.set_cons_zero, List.set_cons_succ]
        refine wpTill_ready (rs := [9]) (by kernel_rfl) (by simp) ?_
        refine AllReadyT.cons rfl (fun K hK => ?_) AllReadyT.nil
        rw [if_pos (by rfl)]
        go_simp
        ((with_reducible refine (refjoin9_any c A1 B1 c.mem.length c1 c.pl.length d1 (1 + (h : Int)) (1 + (b2 : Int)) _ (HCT.out.below hHeld.2) (by have := HSM.out.1; omega) (by have := HSM.out.2; omega)).mono ?_); rintro e V2 ⟨A2, n2, c2, B2, m2, d2, rfl, hr2, hp2, hne2, bl2⟩)
        have hb29 := bch hHeld.2 bl2
        have hs29 : wr.heap.size ≤ wr.drew.heap.size := Nat.le_refl _
        refine hK.out _ _ (⟨Blk.below hHeld.1 bl2, hb29⟩) (fun hHeld2 => ?_)
        clear hK K hHeld
        have hHeld := hHeld2; clear hHeld2
        refine wpTill_take (i := 10) (v := ?_) rfl (by kernel_rfl) (by kernel_rfl) (by kernel_rfl) (by kernel_rfl) (fun _ _ _ h => h) (Or.inl ⟨by rfl, ?_⟩) (by assumption) ?_
        rotate_left
        · (intro w hSw; (try dsimp only at hSw); go_simp; (try with_reducible rfl))
        simp only [Act.put, List.getElem_toArray, List.getElem_cons_zero, List.getElem_cons_succ, List.setIfInBounds_toArray, List.set_cons_zero, List.set_cons_succ]
        refine wpTill_take (i := 11) (v := ?_) rfl (by kernel_rfl) (by kernel_rfl) (by kernel_rfl) (by kernel_rfl) (fun _ _ _ h => h) (Or.inl ⟨by rfl, ?_⟩) (by assumption) ?_
        rotate_left
        · (intro w hSw; (try dsimp only at hSw); go_simp; (try with_reducible rfl))
        simp only [Act.put, List.getElem_toArray, List.getElem_cons_zero, List.getElem_cons_succ, List.setIfInBounds_toArray, List.set_cons_zero, List.set_cons_succ]
        refine wpTill_pure (i := 12) (v := ?_) rfl (by kernel_rfl) (by kernel_rfl) (by kernel_rfl) (by kernel_rfl) (fun _ _ _ h => h) (Or.inl ⟨by rfl, ?_⟩) (by assumption) ?_
        rotate_left
        · (intro w hSw; (try dsimp only at hSw); go_simp; (try with_reducible rfl))
        simp only [Act.put, List.getElem_toArray, List.getElem_cons_zero, List.getElem_cons_succ, List.setIfInBounds_toArray, List.set_cons_zero, List.set_cons_succ]
        clear x0 x1 x2 t0 t1 t2
        have HGC : Hid (g < wr.heap.size) := Blk.lt HA.out
        have hr3 := hr2.mono (base2 := w.heap.size + 1) (Blk.lt HZ.out)
        have hp3 := hp2.mono (base2 := w.heap.size + 1) (Blk.lt HZ.out)
        have HOW : Hid ((Value.slice A2 n2 c2).ownBlock ≠ some g ∧ (Value.slice B2 m2 d2).ownBlock ≠ some g) := ⟨fun e => by have h1 := (hr2.lt g e).1; have h2 := HGC.out; omega, fun e => by have h1 := (hp2.lt g e).1; have h2 := HGC.out; omega⟩
        have hA2 := hHeld.1
        have hZ2 := Blk.below HZ.out hHeld.2
        have HA3 := Lib.hid (ct_put hA2 ((joinC c (1 + (h : Int)) (1 + (b2 : Int)))).1 A2 n2 c2 B2 m2 d2)
        have HR3 := Lib.hid (row_put3 hr3 HOW.out.1 (.int .i64 ((joinC c (1 + (h : Int)) (1 + (b2 : Int)))).1.level) (.slice A2 n2 c2) (.slice B2 m2 d2))
        have HP3 := Lib.hid (row_put3 hp3 HOW.out.2 (.int .i64 ((joinC c (1 + (h : Int)) (1 + (b2 : Int)))).1.level) (.slice A2 n2 c2) (.slice B2 m2 d2))
        have HZ3 := Lib.hid (blk_put3 hZ2 HGZ.out (.int .i64 ((joinC c (1 + (h : Int)) (1 + (b2 : Int)))).1.level) (.slice A2 n2 c2) (.slice B2 m2 d2))
        have HB3 := Lib.hid (below_put3 (bch HB.out hHeld.2) HGL.out (.int .i64 ((joinC c (1 + (h : Int)) (1 + (b2 : Int)))).1.level) (.slice A2 n2 c2) (.slice B2 m2 d2))
        have HN3 := Lib.hid hne2
        have y0 := Blk.cell hA2 0
        have y1 := Blk.cell hA2 1
        have y2 := Blk.cell hA2 2
        simp only [List.getElem?_toArray, List.getElem?_cons_zero, List.getElem?_cons_succ] at y0 y1 y2
        have f0 := Blk.frozen hA2 0
        have f1 := Blk.frozen hA2 1
        have f2 := Blk.frozen hA2 2
        clear hr2 hp2 hne2 bl2 hr3 hp3 hA2 hZ2
        refine wpTill_ready (rs := [13]) (by kernel_rfl) (by simp) ?_
        refine AllReadyT.last rfl (by kernel_rfl) (fun K hK => ?_) AllReadyT.nil
        rw [if_pos (by rfl)]
        go_simp
        refine hK.out _ _ (trivial) (fun hHeld2 => ?_)
        clear hK K hHeld
        have hHeld := hHeld2; clear hHeld2
        refine wpTill_done (by kernel_rfl) ?_ _
        refine NoPanic.normal ?_
        go_wp2_with fail
        go_roundw
        case rel => exact ⟨k + 1, by omega, by omega, by go_num, A2, n2, c2, B2, m2, d2, by show Blk _ _ _; rw [HST.out]; exact HA3.out, by show RowG _ _ _ _ _ _; rw [HST.out]; exact HR3.out, by show RowG _ _ _ _ _ _; rw [HST.out]; exact HP3.out, HOW.out, HN3.out, HZ3.out, HB3.out⟩
        case measure => simp [intOf]; omega
      · have HST : Hid (ctlD c0 f (k + 1) = (reportC c (1 + (h : Int)) (1 + (b2 : Int))).1) := by show _ = _; rw [HSP.out]; rw [if_neg (by decide), if_pos (by decide)]
        clear HSP
        go_upto_region 15 with fail
        refine wp_region_noPanic ?_
        refine wp_region_till (S := (fun W_ => Blk W_ g (ctB c A1 c.mem.length c1 B1 c.pl.length d1) ∧ Below wr.heap.size wr W_)) [13] (by kernel_rfl) (⟨HA.out.drew, (Below.refl _ _).drew⟩) (fun hHeld => ?_)
        refine wpTill_take (i := 0) (v := ?_) rfl (by kernel_rfl) (by kernel_rfl) (by kernel_rfl) (by kernel_rfl) (fun _ _ _ h => h) (Or.inl ⟨by rfl, ?_⟩) (by assumption) ?_
        rotate_left
        · (intro w hSw; (try dsimp only at hSw); (have v0 := Blk.cell hSw.1 0); (have v1 := Blk.cell hSw.1 1); (have v2 := Blk.cell hSw.1 2); simp only [List.getElem?_toArray, List.getElem?_cons_zero, List.getElem?_cons_succ] at v0 v1 v2; go_simp; (try with_reducible rfl))
        simp only [Act.put, List.getElem_toArray, List.getElem_cons_zero, List.setIfInBounds_toArray, List.set_cons_zero, List.set_cons_succ]
        refine wpTill_take (i := 1) (v := ?_) rfl (by kernel_rfl) (by kernel_rfl) (by kernel_rfl) (by kernel_rfl) (fun _ _ _ h => h) (Or.inl ⟨by rfl, ?_⟩) (by assumption) ?_
        rotate_left
        · (intro w hSw; (try dsimp only at hSw); go_simp; (try with_reducible rfl))
        simp only [Act.put, List.getElem_toArray, List.getElem_cons_zero, List.getElem_cons_succ, List.setIfInBounds_toArray, List.set_cons_zero, List.set_cons_succ]
        refine wpTill_take (i := 2) (v := ?_) rfl (by kernel_rfl) (by kernel_rfl) (by kernel_rfl) (by kernel_rfl) (fun _ _ _ h => h) (Or.inl ⟨by rfl, ?_⟩) (by assumption) ?_
        rotate_left
        · (intro w hSw; (try dsimp only at hSw); go_simp; (try with_reducible rfl))
        simp only [Act.put, List.getElem_toArray, List.getElem_cons_zero, List.getElem_cons_succ, List.setIfInBounds_toArray, List.set_cons_zero, List.set_cons_succ]
        refine wpTill_take (i := 3) (v := ?_) rfl (by kernel_rfl) (by kernel_rfl) (by kernel_rfl) (by kernel_rfl) (fun _ _ _ h => h) (Or.inl ⟨by rfl, ?_⟩) (by assumption) ?_
        rotate_left
        · (intro w hSw; (try dsimp only at hSw); go_simp; (try with_reducible rfl))
        simp only [Act.put, List.getElem_toArray, List.getElem_cons_zero, List.getElem_cons_succ, List.setIfInBounds_toArray, List.set_cons_zero, List.set_cons_succ]
        refine wpTill_take (i := 4) (v := ?_) rfl (by kernel_rfl) (by kernel_rfl) (by kernel_rfl) (by kernel_rfl) (fun _ _ _ h => h) (Or.inl ⟨by rfl, ?_⟩) (by assumption) ?_
        rotate_left
        · (intro w hSw; (try dsimp only at hSw); go_simp; (try with_reducible rfl))
        simp only [Act.put, List.getElem_toArray, List.getElem_cons_zero, List.getElem_cons_succ, List.setIfInBounds_toArray, List.set_cons_zero, List.set_cons_succ]
        refine wpTill_take (i := 5) (v := ?_) rfl (by kernel_rfl) (by kernel_rfl) (by kernel_rfl) (by kernel_rfl) (fun _ _ _ h => h) (Or.inl ⟨by rfl, ?_⟩) (by assumption) ?_
        rotate_left
        · (intro w hSw; (try dsimp only at hSw); go_simp; (try with_reducible rfl))
        simp only [Act.put, List.getElem_toArray, List.getElem_cons_zero, List.getElem_cons_succ, List.setIfInBounds_toArray, List.set_cons_zero, List.set_cons_succ]
        refine wpTill_take (i := 6) (v := ?_) rfl (by kernel_rfl) (by kernel_rfl) (by kernel_rfl) (by kernel_rfl) (fun _ _ _ h => h) (Or.inl ⟨by rfl, ?_⟩) (by assumption) ?_
        rotate_left
        · (intro w hSw; (try dsimp only at hSw); (have v0 := (hSw.2.cell (p := ⟨b, off + k * 3 + 1, none⟩) HBB.out).trans x1); go_simp; (try with_reducible rfl))
        simp only [Act.put, List.getElem_toArray, List.getElem_cons_zero, List.getElem_cons_succ, List.setIfInBounds_toArray, List.set_cons_zero, List.set_cons_succ]
        refine wpTill_ready (rs := [7]) (by kernel_rfl) (by simp) ?_
        refine AllReadyT.cons rfl (fun K hK => ?_) AllReadyT.nil
        rw [if_pos (by rfl)]
        go_simp
        ((with_reducible refine (qb.out _).mono ?_); rintro e Wp ⟨rfl, rfl⟩)
        refine hK.out _ _ (hHeld) (fun hHeld2 => ?_)
        clear hK K hHeld
        have hHeld := hHeld2; clear hHeld2
        refine wpTill_take (i := 8) (v := ?_) rfl (by kernel_rfl) (by kernel_rfl) (by kernel_rfl) (by kernel_rfl) (fun _ _ _ h => h) (Or.inl ⟨by rfl, ?_⟩) (by assumption) ?_
        rotate_left
        · (intro w hSw; (try dsimp only at hSw); go_simp; (try with_reducible rfl))
        simp only [Act.put, List.getElem_toArray, List.getElem_cons_zero, List.getElem_cons_succ, List.setIfInBounds_toArray, List.set_cons_zero, List.set_cons_succ]
        refine wpTill_ready (rs := [9]) (by kernel_rfl) (by simp) ?_
        refine AllReadyT.cons rfl (fun K hK => ?_) AllReadyT.nil
        rw [if_pos (by rfl)]
        go_simp
        ((with_reducible refine (refreport9_any c A1 B1 c.mem.length c1 c.pl.length d1 (1 + (h : Int)) (1 + (b2 : Int)) _ (HCT.out.below hHeld.2) (by have := HSM.out.1; omega) (by have := HSM.out.2; omega)).mono ?_); rintro e V2 ⟨A2, n2, c2, B2, m2, d2, rfl, hr2, hp2, hne2, bl2⟩)
        have hb29 := bch hHeld.2 bl2
        have hs29 : wr.heap.size ≤ wr.drew.heap.size := Nat.le_refl _
        refine hK.out _ _ (⟨Blk.below hHeld.1 bl2, hb29⟩) (fun hHeld2 => ?_)
        clear hK K hHeld
        have hHeld := hHeld2; clear hHeld2
        refine wpTill_take (i := 10) (v := ?_) rfl (by kernel_rfl) (by kernel_rfl) (by kernel_rfl) (by kernel_rfl) (fun _ _ _ h => h) (Or.inl ⟨by rfl, ?_⟩) (by assumption) ?_
        rotate_left
        · (intro w hSw; (try dsimp only at hSw); go_simp; (try with_reducible rfl))
        simp only [Act.put, List.getElem_toArray, List.getElem_cons_zero, List.getElem_cons_succ, List.setIfInBounds_toArray, List.set_cons_zero, List.set_cons_succ]
        refine wpTill_take (i := 11) (v := ?_) rfl (by kernel_rfl) (by kernel_rfl) (by kernel_rfl) (by kernel_rfl) (fun _ _ _ h => h) (Or.inl ⟨by rfl, ?_⟩) (by assumption) ?_
        rotate_left
        · (intro w hSw; (try dsimp only at hSw); go_simp; (try with_reducible rfl))
        simp only [Act.put, List.getElem_toArray, List.getElem_cons_zero, List.getElem_cons_succ, List.setIfInBounds_toArray, List.set_cons_zero, List.set_cons_succ]
        refine wpTill_pure (i := 12) (v := ?_) rfl (by kernel_rfl) (by kernel_rfl) (by kernel_rfl) (by kernel_rfl) (fun _ _ _ h => h) (Or.inl ⟨by rfl, ?_⟩) (by assumption) ?_
        rotate_left
        · (intro w hSw; (try dsimp only at hSw); go_simp; (try with_reducible rfl))
        simp only [Act.put, List.getElem_toArray, List.getElem_cons_zero, List.getElem_cons_succ, List.setIfInBounds_toArray, List.set_cons_zero, List.set_cons_succ]
        clear x0 x1 x2 t0 t1 t2
        have HGC : Hid (g < wr.heap.size) := Blk.lt HA.out
        have hr3 := hr2.mono (base2 := w.heap.size + 1) (Blk.lt HZ.out)
        have hp3 := hp2.mono (base2 := w.heap.size + 1) (Blk.lt HZ.out)
        have HOW : Hid ((Value.slice A2 n2 c2).ownBlock ≠ some g ∧ (Value.slice B2 m2 d2).ownBlock ≠ some g) := ⟨fun e => by have h1 := (hr2.lt g e).1; have h2 := HGC.out; omega, fun e => by have h1 := (hp2.lt g e).1; have h2 := HGC.out; omega⟩
        have hA2 := hHeld.1
        have hZ2 := Blk.below HZ.out hHeld.2
        have HA3 := Lib.hid (ct_put hA2 ((reportC c (1 + (h : Int)) (1 + (b2 : Int)))).1 A2 n2 c2 B2 m2 d2)
        have HR3 := Lib.hid (row_put3 hr3 HOW.out.1 (.int .i64 ((reportC c (1 + (h : Int)) (1 + (b2 : Int)))).1.level) (.slice A2 n2 c2) (.slice B2 m2 d2))
        have HP3 := Lib.hid (row_put3 hp3 HOW.out.2 (.int .i64 ((reportC c (1 + (h : Int)) (1 + (b2 : Int)))).1.level) (.slice A2 n2 c2) (.slice B2 m2 d2))
        have HZ3 := Lib.hid (blk_put3 hZ2 HGZ.out (.int .i64 ((reportC c (1 + (h : Int)) (1 + (b2 : Int)))).1.level) (.slice A2 n2 c2) (.slice B2 m2 d2))
        have HB3 := Lib.hid (below_put3 (bch HB.out hHeld.2) HGL.out (.int .i64 ((reportC c (1 + (h : Int)) (1 + (b2 : Int)))).1.level) (.slice A2 n2 c2) (.slice B2 m2 d2))
        have HN3 := Lib.hid hne2
        have y0 := Blk.cell hA2 0
        have y1 := Blk.cell hA2 1
        have y2 := Blk.cell hA2 2
        simp only [List.getElem?_toArray, List.getElem?_cons_zero, List.getElem?_cons_succ] at y0 y1 y2
        have f0 := Blk.frozen hA2 0
        have f1 := Blk.frozen hA2 1
        have f2 := Blk.frozen hA2 2
        clear hr2 hp2 hne2 bl2 hr3 hp3 hA2 hZ2
        refine wpTill_ready (rs := [13]) (by kernel_rfl) (by simp) ?_
        refine AllReadyT.last rfl (by kernel_rfl) (fun K hK => ?_) AllReadyT.nil
        rw [if_pos (by rfl)]
        go_simp
        refine hK.out _ _ (trivial) (fun hHeld2 => ?_)
        clear hK K hHeld
        have hHeld := hHeld2; clear hHeld2
        refine wpTill_done (by kernel_rfl) ?_ _
        refine NoPanic.normal ?_
        go_wp2_with fail
        go_roundw
        case rel => exact ⟨k + 1, by omega, by omega, by go_num, A2, n2, c2, B2, m2, d2, by show Blk _ _ _; rw [HST.out]; exact HA3.out, by show RowG _ _ _ _ _ _; rw [HST.out]; exact HR3.out, by show RowG _ _ _ _ _ _; rw [HST.out]; exact HP3.out, HOW.out, HN3.out, HZ3.out, HB3.out⟩
        case measure => simp [intOf]; omega
      · have HST : Hid (ctlD c0 f (k + 1) = (reportC c (1 + (h : Int)) (1 + (b2 : Int))).1) := by show _ = _; rw [HSP.out]; rw [if_neg (by decide), if_pos (by decide)]
        clear HSP
        go_upto_region 15 with fail
        refine wp_region_noPanic ?_
        refine wp_region_till (S := (fun W_ => Blk W_ g (ctB c A1 c.mem.length c1 B1 c.pl.length d1) ∧ Below wr.heap.size wr W_)) [13] (by kernel_rfl) (⟨HA.out.drew, (Below.refl _ _).drew⟩) (fun hHeld => ?_)
        refine wpTill_take (i := 0) (v := ?_) rfl (by kernel_rfl) (by kernel_rfl) (by kernel_rfl) (by kernel_rfl) (fun _ _ _ h => h) (Or.inl ⟨by rfl, ?_⟩) (by assumption) ?_
        rotate_left
        · (intro w hSw; (try dsimp only at hSw); (have v0 := Blk.cell hSw.1 0); (have v1 := Blk.cell hSw.1 1); (have v2 := Blk.cell hSw.1 2); simp only [List.getElem?_toArray, List.getElem?_cons_zero, List.getElem?_cons_succ] at v0 v1 v2; go_simp; (try with_reducible rfl))
        simp only [Act.put, List.getElem_toArray, List.getElem_cons_zero, List.setIfInBounds_toArray, List.set_cons_zero, List.set_cons_succ]
        refine wpTill_take (i := 1) (v := ?_) rfl (by kernel_rfl) (by kernel_rfl) (by kernel_rfl) (by kernel_rfl) (fun _ _ _ h => h) (Or.inl ⟨by rfl, ?_⟩) (by assumption) ?_
        rotate_left
        · (intro w hSw; (try dsimp only at hSw); go_simp; (try with_reducible rfl))
        simp only [Act.put, List.getElem_toArray, List.getElem_cons_zero, List.getElem_cons_succ, List.setIfInBounds_toArray, List.set_cons_zero, List.set_cons_succ]
        refine wpTill_take (i := 2) (v := ?_) rfl (by kernel_rfl) (by kernel_rfl) (by kernel_rfl) (by kernel_rfl) (fun _ _ _ h => h) (Or.inl ⟨by rfl, ?_⟩) (by assumption) ?_
        rotate_left
        · (intro w hSw; (try dsimp only at hSw); go_simp; (try with_reducible rfl))
        simp only [Act.put, List.getElem_toArray, List.getElem_cons_zero, List.getElem_cons_succ, List.setIfInBounds_toArray, List.set_cons_zero, List.set_cons_succ]
        refine wpTill_take (i := 3) (v := ?_) rfl (by kernel_rfl) (by kernel_rfl) (by kernel_rfl) (by kernel_rfl) (fun _ _ _ h => h) (Or.inl ⟨by rfl, ?_⟩) (by assumption) ?_
        rotate_left
        · (intro w hSw; (try dsimp only at hSw); go_simp; (try with_reducible rfl))
        simp only [Act.put, List.getElem_toArray, List.getElem_cons_zero, List.getElem_cons_succ, List.setIfInBounds_toArray, List.set_cons_zero, List.set_cons_succ]
        refine wpTill_take (i := 4) (v := ?_) rfl (by kernel_rfl) (by kernel_rfl) (by kernel_rfl) (by kernel_rfl) (fun _ _ _ h => h) (Or.inl ⟨by rfl, ?_⟩) (by assumption) ?_
        rotate_left
        · (intro w hSw; (try dsimp only at hSw); go_simp; (try with_reducible rfl))
        simp only [Act.put, List.getElem_toArray, List.getElem_cons_zero, List.getElem_cons_succ, List.setIfInBounds_toArray, List.set_cons_zero, List.set_cons_succ]
        refine wpTill_take (i := 5) (v := ?_) rfl (by kernel_rfl) (by kernel_rfl) (by kernel_rfl) (by kernel_rfl) (fun _ _ _ h => h) (Or.inl ⟨by rfl, ?_⟩) (by assumption) ?_
        rotate_left
        · (intro w hSw; (try dsimp only at hSw); go_simp; (try with_reducible rfl))
        simp only [Act.put, List.getElem_toArray, List.getElem_cons_zero, List.getElem_cons_succ, List.setIfInBounds_toArray, List.set_cons_zero, List.set_cons_succ]
        refine wpTill_take (i := 6) (v := ?_) rfl (by kernel_rfl) (by kernel_rfl) (by kernel_rfl) (by kernel_rfl) (fun _ _ _ h => h) (Or.inl ⟨by rfl, ?_⟩) (by assumption) ?_
        rotate_left
        · (intro w hSw; (try dsimp only at hSw); (have v0 := (hSw.2.cell (p := ⟨b, off + k * 3 + 1, none⟩) HBB.out).trans x1); go_simp; (try with_reducible rfl))
        simp only [Act.put, List.getElem_toArray, List.getElem_cons_zero, List.getElem_cons_succ, List.setIfInBounds_toArray, List.set_cons_zero, List.set_cons_succ]
        refine wpTill_ready (rs := [7]) (by kernel_rfl) (by simp) ?_
        refine AllReadyT.cons rfl (fun K hK => ?_) AllReadyT.nil
        rw [if_pos (by rfl)]
        go_simp
        ((with_reducible refine (qb.out _).mono ?_); rintro e Wp ⟨rfl, rfl⟩)
        refine hK.out _ _ (hHeld) (fun hHeld2 => ?_)
        clear hK K hHeld
        have hHeld := hHeld2; clear hHeld2
        refine wpTill_take (i := 8) (v := ?_) rfl (by kernel_rfl) (by kernel_rfl) (by kernel_rfl) (by kernel_rfl) (fun _ _ _ h => h) (Or.inl ⟨by rfl, ?_⟩) (by assumption) ?_
        rotate_left
        · (intro w hSw; (try dsimp only at hSw); go_simp; (try with_reducible rfl))
        simp only [Act.put, List.getElem_toArray, List.getElem_cons_zero, List.getElem_cons_succ, List.setIfInBounds_toArray, List.set_cons_zero, List.set_cons_succ]
        refine wpTill_ready (rs := [9]) (by kernel_rfl) (by simp) ?_
        refine AllReadyT.cons rfl (fun K hK => ?_) AllReadyT.nil
        rw [if_pos (by rfl)]
        go_simp
        ((with_reducible refine (refreport9_any c A1 B1 c.mem.length c1 c.pl.length d1 (1 + (h : Int)) (1 + (b2 : Int)) _ (HCT.out.below hHeld.2) (by have := HSM.out.1; omega) (by have := HSM.out.2; omega)).mono ?_); rintro e V2 ⟨A2, n2, c2, B2, m2, d2, rfl, hr2, hp2, hne2, bl2⟩)
        have hb29 := bch hHeld.2 bl2
        have hs29 : wr.heap.size ≤ wr.drew.heap.size := Nat.le_refl _
        refine hK.out _ _ (⟨Blk.below hHeld.1 bl2, hb29⟩) (fun hHeld2 => ?_)
        clear hK K hHeld
        have hHeld := hHeld2; clear hHeld2
        refine wpTill_take (i := 10) (v := ?_) rfl (by kernel_rfl) (by kernel_rfl) (by kernel_rfl) (by kernel_rfl) (fun _ _ _ h => h) (Or.inl ⟨by rfl, ?_⟩) (by assumption) ?_
        rotate_left
        · (intro w hSw; (try dsimp only at hSw); go_simp; (try with_reducible rfl))
        simp only [Act.put, List.getElem_toArray, List.getElem_cons_zero, List.getElem_cons_succ, List.setIfInBounds_toArray, List.set_cons_zero, List.set_cons_succ]
        refine wpTill_take (i := 11) (v := ?_) rfl (by kernel_rfl) (by kernel_rfl) (by kernel_rfl) (by kernel_rfl) (fun _ _ _ h => h) (Or.inl ⟨by rfl, ?_⟩) (by assumption) ?_
        rotate_left
        · (intro w hSw; (try dsimp only at hSw); go_simp; (try with_reducible rfl))
        simp only [Act.put, List.getElem_toArray, List.getElem_cons_zero, List.getElem_cons_succ, List.setIfInBounds_toArray, List.set_cons_zero, List.set_cons_succ]
        refine wpTill_pure (i := 12) (v := ?_) rfl (by kernel_rfl) (by kernel_rfl) (by kernel_rfl) (by kernel_rfl) (fun _ _ _ h => h) (Or.inl ⟨by rfl, ?_⟩) (by assumption) ?_
        rotate_left
        · (intro w hSw; (try dsimp only at hSw); go_simp; (try with_reducible rfl))
        simp only [Act.put, List.getElem_toArray, List.getElem_cons_zero, List.getElem_cons_succ, List.setIfInBounds_toArray, List.set_cons_zero, List.set_cons_succ]
        clear x0 x1 x2 t0 t1 t2
        have HGC : Hid (g < wr.heap.size) := Blk.lt HA.out
        have hr3 := hr2.mono (base2 := w.heap.size + 1) (Blk.lt HZ.out)
        have hp3 := hp2.mono (base2 := w.heap.size + 1) (Blk.lt HZ.out)
        have HOW : Hid ((Value.slice A2 n2 c2).ownBlock ≠ some g ∧ (Value.slice B2 m2 d2).ownBlock ≠ some g) := ⟨fun e => by have h1 := (hr2.lt g e).1; have h2 := HGC.out; omega, fun e => by have h1 := (hp2.lt g e).1; have h2 := HGC.out; omega⟩
        have hA2 := hHeld.1
        have hZ2 := Blk.below HZ.out hHeld.2
        have HA3 := Lib.hid (ct_put hA2 ((reportC c (1 + (h : Int)) (1 + (b2 : Int)))).1 A2 n2 c2 B2 m2 d2)
        have HR3 := Lib.hid (row_put3 hr3 HOW.out.1 (.int .i64 ((reportC c (1 + (h : Int)) (1 + (b2 : Int)))).1.level) (.slice A2 n2 c2) (.slice B2 m2 d2))
        have HP3 := Lib.hid (row_put3 hp3 HOW.out.2 (.int .i64 ((reportC c (1 + (h : Int)) (1 + (b2 : Int)))).1.level) (.slice A2 n2 c2) (.slice B2 m2 d2))
        have HZ3 := Lib.hid (blk_put3 hZ2 HGZ.out (.int .i64 ((reportC c (1 + (h : Int)) (1 + (b2 : Int)))).1.level) (.slice A2 n2 c2) (.slice B2 m2 d2))
        have HB3 := Lib.hid (below_put3 (bch HB.out hHeld.2) HGL.out (.int .i64 ((reportC c (1 + (h : Int)) (1 + (b2 : Int)))).1.level) (.slice A2 n2 c2) (.slice B2 m2 d2))
        have HN3 := Lib.hid hne2
        have y0 := Blk.cell hA2 0
        have y1 := Blk.cell hA2 1
        have y2 := Blk.cell hA2 2
        simp only [List.getElem?_toArray, List.getElem?_cons_zero, List.getElem?_cons_succ] at y0 y1 y2
        have f0 := Blk.frozen hA2 0
        have f1 := Blk.frozen hA2 1
        have f2 := Blk.frozen hA2 2
        clear hr2 hp2 hne2 bl2 hr3 hp3 hA2 hZ2
        refine wpTill_ready (rs := [13]) (by kernel_rfl) (by simp) ?_
        refine AllReadyT.last rfl (by kernel_rfl) (fun K hK => ?_) AllReadyT.nil
        rw [if_pos (by rfl)]
        go_simp
        refine hK.out _ _ (trivial) (fun hHeld2 => ?_)
        clear hK K hHeld
        have hHeld := hHeld2; clear hHeld2
        refine wpTill_done (by kernel_rfl) ?_ _
        refine NoPanic.normal ?_
        go_wp2_with fail
        go_roundw
        case rel => exact ⟨k + 1, by omega, by omega, by go_num, A2, n2, c2, B2, m2, d2, by show Blk _ _ _; rw [HST.out]; exact HA3.out, by show RowG _ _ _ _ _ _; rw [HST.out]; exact HR3.out, by show RowG _ _ _ _ _ _; rw [HST.out]; exact HP3.out, HOW.out, HN3.out, HZ3.out, HB3.out⟩
        case measure => simp [intOf]; omega
      · have HST : Hid (ctlD c0 f (k + 1) = (finalC c).1) := by show _ = _; rw [HSP.out]; rw [if_neg (by decide), if_neg (by decide), if_pos rfl]
        clear HSP
        have q := reffinal9_any c A1 B1 c.mem.length c1 c.pl.length d1 wr HCT.out (by have := HSM.out.1; omega) (by have := HSM.out.2; omega)
        have HGC : Hid (g < wr.heap.size) := Blk.lt HA.out
        go_wp2_with fail
        ((with_reducible refine q.mono ?_); rintro e V2 ⟨A2, n2, c2, B2, m2, d2, rfl, hr2, hp2, hne2, bl2⟩)
        clear q x0 x1 x2 t0 t1 t2
        have hr3 := hr2.mono (base2 := w.heap.size + 1) (Blk.lt HZ.out)
        have hp3 := hp2.mono (base2 := w.heap.size + 1) (Blk.lt HZ.out)
        have HOW : Hid ((Value.slice A2 n2 c2).ownBlock ≠ some g ∧ (Value.slice B2 m2 d2).ownBlock ≠ some g) := ⟨fun e => by have h1 := (hr2.lt g e).1; have h2 := HGC.out; omega, fun e => by have h1 := (hp2.lt g e).1; have h2 := HGC.out; omega⟩
        have hA2 := Blk.below HA.out bl2
        have hZ2 := Blk.below HZ.out bl2
        have HA3 := Lib.hid (ct_put hA2 ((finalC c)).1 A2 n2 c2 B2 m2 d2)
        have HR3 := Lib.hid (row_put3 hr3 HOW.out.1 (.int .i64 ((finalC c)).1.level) (.slice A2 n2 c2) (.slice B2 m2 d2))
        have HP3 := Lib.hid (row_put3 hp3 HOW.out.2 (.int .i64 ((finalC c)).1.level) (.slice A2 n2 c2) (.slice B2 m2 d2))
        have HZ3 := Lib.hid (blk_put3 hZ2 HGZ.out (.int .i64 ((finalC c)).1.level) (.slice A2 n2 c2) (.slice B2 m2 d2))
        have HB3 := Lib.hid (below_put3 (bch HB.out bl2) HGL.out (.int .i64 ((finalC c)).1.level) (.slice A2 n2 c2) (.slice B2 m2 d2))
        have HN3 := Lib.hid hne2
        have y0 := Blk.cell hA2 0
        have y1 := Blk.cell hA2 1
        have y2 := Blk.cell hA2 2
        simp only [List.getElem?_toArray, List.getElem?_cons_zero, List.getElem?_cons_succ] at y0 y1 y2
        have f0 := Blk.frozen hA2 0
        have f1 := Blk.frozen hA2 1
        have f2 := Blk.frozen hA2 2
        clear hr2 hp2 hne2 bl2 hr3 hp3 hA2 hZ2
        go_wp2_with fail
        go_roundw
        case rel => exact ⟨k + 1, by omega, by omega, by go_num, A2, n2, c2, B2, m2, d2, by show Blk _ _ _; rw [HST.out]; exact HA3.out, by show RowG _ _ _ _ _ _; rw [HST.out]; exact HR3.out, by show RowG _ _ _ _ _ _; rw [HST.out]; exact HP3.out, HOW.out, HN3.out, HZ3.out, HB3.out⟩
        case measure => simp [intOf]; omega
      · have HST : Hid (ctlD c0 f (k + 1) = (planC c (s : Int) (1 + (h : Int))).1) := by show _ = _; rw [HSP.out]; rw [if_neg (by decide), if_neg (by decide), if_neg (by decide), if_pos (by decide)]
        clear HSP
        have q := refplan9_any c A1 B1 c.mem.length c1 c.pl.length d1 (s : Int) (1 + (h : Int)) wr HCT.out (by have := HSM.out.1; omega) (by have := HSM.out.2; omega)
        have HGC : Hid (g < wr.heap.size) := Blk.lt HA.out
        go_wp2_with fail
        ((with_reducible refine q.mono ?_); rintro e V2 ⟨A2, n2, c2, B2, m2, d2, rfl, hr2, hp2, hne2, bl2⟩)
        clear q x0 x1 x2 t0 t1 t2
        have hr3 := hr2.mono (base2 := w.heap.size + 1) (Blk.lt HZ.out)
        have hp3 := hp2.mono (base2 := w.heap.size + 1) (Blk.lt HZ.out)
        have HOW : Hid ((Value.slice A2 n2 c2).ownBlock ≠ some g ∧ (Value.slice B2 m2 d2).ownBlock ≠ some g) := ⟨fun e => by have h1 := (hr2.lt g e).1; have h2 := HGC.out; omega, fun e => by have h1 := (hp2.lt g e).1; have h2 := HGC.out; omega⟩
        have hA2 := Blk.below HA.out bl2
        have hZ2 := Blk.below HZ.out bl2
        have HA3 := Lib.hid (ct_put hA2 ((planC c (s : Int) (1 + (h : Int)))).1 A2 n2 c2 B2 m2 d2)
        have HR3 := Lib.hid (row_put3 hr3 HOW.out.1 (.int .i64 ((planC c (s : Int) (1 + (h : Int)))).1.level) (.slice A2 n2 c2) (.slice B2 m2 d2))
        have HP3 := Lib.hid (row_put3 hp3 HOW.out.2 (.int .i64 ((planC c (s : Int) (1 + (h : Int)))).1.level) (.slice A2 n2 c2) (.slice B2 m2 d2))
        have HZ3 := Lib.hid (blk_put3 hZ2 HGZ.out (.int .i64 ((planC c (s : Int) (1 + (h : Int)))).1.level) (.slice A2 n2 c2) (.slice B2 m2 d2))
        have HB3 := Lib.hid (below_put3 (bch HB.out bl2) HGL.out (.int .i64 ((planC c (s : Int) (1 + (h : Int)))).1.level) (.slice A2 n2 c2) (.slice B2 m2 d2))
        have HN3 := Lib.hid hne2
        have y0 := Blk.cell hA2 0
        have y1 := Blk.cell hA2 1
        have y2 := Blk.cell hA2 2
        simp only [List.getElem?_toArray, List.getElem?_cons_zero, List.getElem?_cons_succ] at y0 y1 y2
        have f0 := Blk.frozen hA2 0
        have f1 := Blk.frozen hA2 1
        have f2 := Blk.frozen hA2 2
        clear hr2 hp2 hne2 bl2 hr3 hp3 hA2 hZ2
        go_wp2_with fail
        go_roundw
        case rel => exact ⟨k + 1, by omega, by omega, by go_num, A2, n2, c2, B2, m2, d2, by show Blk _ _ _; rw [HST.out]; exact HA3.out, by show RowG _ _ _ _ _ _; rw [HST.out]; exact HR3.out, by show RowG _ _ _ _ _ _; rw [HST.out]; exact HP3.out, HOW.out, HN3.out, HZ3.out, HB3.out⟩
        case measure => simp [intOf]; omega
      · have HST : Hid (ctlD c0 f (k + 1) = (planC c (s : Int) (1 + (h : Int))).1) := by show _ = _; rw [HSP.out]; rw [if_neg (by decide), if_neg (by decide), if_neg (by decide), if_pos (by decide)]
        clear HSP
        have q := refplan9_any c A1 B1 c.mem.length c1 c.pl.length d1 (s : Int) (1 + (h : Int)) wr HCT.out (by have := HSM.out.1; omega) (by have := HSM.out.2; omega)
        have HGC : Hid (g < wr.heap.size) := Blk.lt HA.out
        go_wp2_with fail
        ((with_reducible refine q.mono ?_); rintro e V2 ⟨A2, n2, c2, B2, m2, d2, rfl, hr2, hp2, hne2, bl2⟩)
        clear q x0 x1 x2 t0 t1 t2
        have hr3 := hr2.mono (base2 := w.heap.size + 1) (Blk.lt HZ.out)
        have hp3 := hp2.mono (base2 := w.heap.size + 1) (Blk.lt HZ.out)
        have HOW : Hid ((Value.slice A2 n2 c2).ownBlock ≠ some g ∧ (Value.slice B2 m2 d2).ownBlock ≠ some g) := ⟨fun e => by have h1 := (hr2.lt g e).1; have h2 := HGC.out; omega, fun e => by have h1 := (hp2.lt g e).1; have h2 := HGC.out; omega⟩
        have hA2 := Blk.below HA.out bl2
        have hZ2 := Blk.below HZ.out bl2
        have HA3 := Lib.hid (ct_put hA2 ((planC c (s : Int) (1 + (h : Int)))).1 A2 n2 c2 B2 m2 d2)
        have HR3 := Lib.hid (row_put3 hr3 HOW.out.1 (.int .i64 ((planC c (s : Int) (1 + (h : Int)))).1.level) (.slice A2 n2 c2) (.slice B2 m2 d2))
        have HP3 := Lib.hid (row_put3 hp3 HOW.out.2 (.int .i64 ((planC c (s : Int) (1 + (h : Int)))).1.level) (.slice A2 n2 c2) (.slice B2 m2 d2))
        have HZ3 := Lib.hid (blk_put3 hZ2 HGZ.out (.int .i64 ((planC c (s : Int) (1 + (h : Int)))).1.level) (.slice A2 n2 c2) (.slice B2 m2 d2))
        have HB3 := Lib.hid (below_put3 (bch HB.out bl2) HGL.out (.int .i64 ((planC c (s : Int) (1 + (h : Int)))).1.level) (.slice A2 n2 c2) (.slice B2 m2 d2))
        have HN3 := Lib.hid hne2
        have y0 := Blk.cell hA2 0
        have y1 := Blk.cell hA2 1
        have y2 := Blk.cell hA2 2
        simp only [List.getElem?_toArray, List.getElem?_cons_zero, List.getElem?_cons_succ] at y0 y1 y2
        have f0 := Blk.frozen hA2 0
        have f1 := Blk.frozen hA2 1
        have f2 := Blk.frozen hA2 2
        clear hr2 hp2 hne2 bl2 hr3 hp3 hA2 hZ2
        go_wp2_with fail
        go_roundw
        case rel => exact ⟨k + 1, by omega, by omega, by go_num, A2, n2, c2, B2, m2, d2, by show Blk _ _ _; rw [HST.out]; exact HA3.out, by show RowG _ _ _ _ _ _; rw [HST.out]; exact HR3.out, by show RowG _ _ _ _ _ _; rw [HST.out]; exact HP3.out, HOW.out, HN3.out, HZ3.out, HB3.out⟩
        case measure => simp [intOf]; omega
      · have HST : Hid (ctlD c0 f (k + 1) = (commitC c (s : Int)).1) := by show _ = _; rw [HSP.out]; rw [if_neg (by decide), if_neg (by decide), if_neg (by decide), if_neg (by decide), if_pos rfl]
        clear HSP
        have q := refcommit9_any c A1 B1 c.mem.length c1 c.pl.length d1 (s : Int) wr HCT.out HOC.out.2.1 (by have := HSM.out.1; omega) (by have := HSM.out.2; omega)
        have HGC : Hid (g < wr.heap.size) := Blk.lt HA.out
        go_wp2_with fail
        ((with_reducible refine q.mono ?_); rintro e V2 ⟨A2, n2, c2, B2, m2, d2, rfl, hr2, hp2, hne2, bl2⟩)
        clear q x0 x1 x2 t0 t1 t2
        have hr3 := hr2.mono (base2 := w.heap.size + 1) (Blk.lt HZ.out)
        have hp3 := hp2.mono (base2 := w.heap.size + 1) (Blk.lt HZ.out)
        have HOW : Hid ((Value.slice A2 n2 c2).ownBlock ≠ some g ∧ (Value.slice B2 m2 d2).ownBlock ≠ some g) := ⟨fun e => by have h1 := (hr2.lt g e).1; have h2 := HGC.out; omega, fun e => by have h1 := (hp2.lt g e).1; have h2 := HGC.out; omega⟩
        have hA2 := Blk.below HA.out bl2
        have hZ2 := Blk.below HZ.out bl2
        have HA3 := Lib.hid (ct_put hA2 ((commitC c (s : Int))).1 A2 n2 c2 B2 m2 d2)
        have HR3 := Lib.hid (row_put3 hr3 HOW.out.1 (.int .i64 ((commitC c (s : Int))).1.level) (.slice A2 n2 c2) (.slice B2 m2 d2))
        have HP3 := Lib.hid (row_put3 hp3 HOW.out.2 (.int .i64 ((commitC c (s : Int))).1.level) (.slice A2 n2 c2) (.slice B2 m2 d2))
        have HZ3 := Lib.hid (blk_put3 hZ2 HGZ.out (.int .i64 ((commitC c (s : Int))).1.level) (.slice A2 n2 c2) (.slice B2 m2 d2))
        have HB3 := Lib.hid (below_put3 (bch HB.out bl2) HGL.out (.int .i64 ((commitC c (s : Int))).1.level) (.slice A2 n2 c2) (.slice B2 m2 d2))
        have HN3 := Lib.hid hne2
        have y0 := Blk.cell hA2 0
        have y1 := Blk.cell hA2 1
        have y2 := Blk.cell hA2 2
        simp only [List.getElem?_toArray, List.getElem?_cons_zero, List.getElem?_cons_succ] at y0 y1 y2
        have f0 := Blk.frozen hA2 0
        have f1 := Blk.frozen hA2 1
        have f2 := Blk.frozen hA2 2
        clear hr2 hp2 hne2 bl2 hr3 hp3 hA2 hZ2
        go_wp2_with fail
        go_roundw
        case rel => exact ⟨k + 1, by omega, by omega, by go_num, A2, n2, c2, B2, m2, d2, by show Blk _ _ _; rw [HST.out]; exact HA3.out, by show RowG _ _ _ _ _ _; rw [HST.out]; exact HR3.out, by show RowG _ _ _ _ _ _; rw [HST.out]; exact HP3.out, HOW.out, HN3.out, HZ3.out, HB3.out⟩
        case measure => simp [intOf]; omega
      · have HST : Hid (ctlD c0 f (k + 1) = (cancelC c (s : Int)).1) := by show _ = _; rw [HSP.out]; rw [if_neg (by decide), if_neg (by decide), if_neg (by decide), if_neg (by decide), if_neg (by decide)]
        clear HSP
        have q := refcancel9_any c A1 B1 c.mem.length c1 c.pl.length d1 (s : Int) wr HCT.out (by have := HSM.out.1; omega) (by have := HSM.out.2; omega)
        have HGC : Hid (g < wr.heap.size) := Blk.lt HA.out
        go_wp2_with fail
        ((with_reducible refine q.mono ?_); rintro e V2 ⟨A2, n2, c2, B2, m2, d2, rfl, hr2, hp2, hne2, bl2⟩)
        clear q x0 x1 x2 t0 t1 t2
        have hr3 := hr2.mono (base2 := w.heap.size + 1) (Blk.lt HZ.out)
        have hp3 := hp2.mono (base2 := w.heap.size + 1) (Blk.lt HZ.out)
        have HOW : Hid ((Value.slice A2 n2 c2).ownBlock ≠ some g ∧ (Value.slice B2 m2 d2).ownBlock ≠ some g) := ⟨fun e => by have h1 := (hr2.lt g e).1; have h2 := HGC.out; omega, fun e => by have h1 := (hp2.lt g e).1; have h2 := HGC.out; omega⟩
        have hA2 := Blk.below HA.out bl2
        have hZ2 := Blk.below HZ.out bl2
        have HA3 := Lib.hid (ct_put hA2 ((cancelC c (s : Int))).1 A2 n2 c2 B2 m2 d2)
        have HR3 := Lib.hid (row_put3 hr3 HOW.out.1 (.int .i64 ((cancelC c (s : Int))).1.level) (.slice A2 n2 c2) (.slice B2 m2 d2))
        have HP3 := Lib.hid (row_put3 hp3 HOW.out.2 (.int .i64 ((cancelC c (s : Int))).1.level) (.slice A2 n2 c2) (.slice B2 m2 d2))
        have HZ3 := Lib.hid (blk_put3 hZ2 HGZ.out (.int .i64 ((cancelC c (s : Int))).1.level) (.slice A2 n2 c2) (.slice B2 m2 d2))
        have HB3 := Lib.hid (below_put3 (bch HB.out bl2) HGL.out (.int .i64 ((cancelC c (s : Int))).1.level) (.slice A2 n2 c2) (.slice B2 m2 d2))
        have HN3 := Lib.hid hne2
        have y0 := Blk.cell hA2 0
        have y1 := Blk.cell hA2 1
        have y2 := Blk.cell hA2 2
        simp only [List.getElem?_toArray, List.getElem?_cons_zero, List.getElem?_cons_succ] at y0 y1 y2
        have f0 := Blk.frozen hA2 0
        have f1 := Blk.frozen hA2 1
        have f2 := Blk.frozen hA2 2
        clear hr2 hp2 hne2 bl2 hr3 hp3 hA2 hZ2
        go_wp2_with fail
        go_roundw
        case rel => exact ⟨k + 1, by omega, by omega, by go_num, A2, n2, c2, B2, m2, d2, by show Blk _ _ _; rw [HST.out]; exact HA3.out, by show RowG _ _ _ _ _ _; rw [HST.out]; exact HR3.out, by show RowG _ _ _ _ _ _; rw [HST.out]; exact HP3.out, HOW.out, HN3.out, HZ3.out, HB3.out⟩
        case measure => simp [intOf]; omega
    · have HCF : Hid (CF = c) := by show _ = _; rw [HFIN.out]; exact HKE.out hcnd
      have t0 := Blk.cell HA.out 0
      have t1 := Blk.cell HA.out 1
      have t2 := Blk.cell HA.out 2
      have y0 := Blk.cell HZ.out 0
      have y1 := Blk.cell HZ.out 1
      have y2 := Blk.cell HZ.out 2
      simp only [List.getElem?_toArray, List.getElem?_cons_zero, List.getElem?_cons_succ] at t0 t1 t2 y0 y1 y2
      have f0 := Blk.frozen HZ.out 0
      have f1 := Blk.frozen HZ.out 1
      have f2 := Blk.frozen HZ.out 2
      have hcnd2 : (n : Int) ≤ (k : Int) ∨ ((k : Int) < (n : Int) ∧ (30 : Int) ≤ (k : Int)) := by omega
      have HOZ : Hid ((Value.slice A1 c.mem.length c1).ownBlock ≠ some w.heap.size ∧ (Value.slice B1 c.pl.length d1).ownBlock ≠ some w.heap.size) := ⟨fun e => by have := (HR.out.lt _ e).1; omega, fun e => by have := (HP.out.lt _ e).1; omega⟩
      have HZ3 := Lib.hid (ct_put (c := zeroC) HZ.out c A1 c.mem.length c1 B1 c.pl.length d1)
      have HR3 := Lib.hid (row_put3 HR.out HOZ.out.1 (.int .i64 c.level) (.slice A1 c.mem.length c1) (.slice B1 c.pl.length d1))
      have HP3 := Lib.hid (row_put3 HP.out HOZ.out.2 (.int .i64 c.level) (.slice A1 c.mem.length c1) (.slice B1 c.pl.length d1))
      have HB3 := Lib.hid (below_put3 HB.out (Nat.le_refl _) (.int .i64 c.level) (.slice A1 c.mem.length c1) (.slice B1 c.pl.length d1))
      clear hcnd
      rcases hcnd2 with h1 | ⟨h1, h2⟩
      all_goals
        go_wp2_with fail
        have e0 := Blk.cell HZ3.out 0
        have e1 := Blk.cell HZ3.out 1
        have e2 := Blk.cell HZ3.out 2
        simp only [List.getElem?_toArray, List.getElem?_cons_zero, List.getElem?_cons_succ] at e0 e1 e2
        refine bodyPost_ret (v := ctV c A1 c.mem.length c1 B1 c.pl.length d1) (by simp [results, Try.results15, go_sem, e0, e1, e2]) rfl ?_
        rw [HCF.out]
        exact ⟨A1, c.mem.length, c1, B1, c.pl.length, d1, rfl, HR3.out.mono (Nat.le_succ _), HP3.out.mono (Nat.le_succ _), HN.out, HB3.out⟩
end Go.Proofs.Ytndkmepdnekigaa
