import Derived.Test.YtjciojgldibfmaaFrP2
/-
  The contracts of frame's head, Right and Encode (stage 6).
-/
namespace Go.Proofs.Ytjciojgldibfmaa
open Go.RowKit
set_option linter.unusedVariables false

/-- A row of bytes. -/
def RowBy (w : World) (base : Nat) (v : Value) (l : List UInt8) : Prop := w.ownsRow base 5 1 v l.length (l.map fun c => Value.int .u8 c.toNat)
theorem RowBy.below {w w' : World} {base : Nat} {v : Value} {l : List UInt8} (h : RowBy w base v l) (hb : Below w.heap.size w w') : RowBy w' base v l := owns_below h hb
theorem RowBy.one (w : World) (base : Nat) (x : UInt8) (h : base ≤ w.heap.size) : RowBy (w.alloc (.cells #[.int .u8 x.toNat] 5)) base (.slice (some ⟨w.heap.size, 0, none⟩) 1 1) [x] :=
  World.ownsRow_lit w #[.int .u8 x.toNat] 1 h (by unfold maxLen; omega) rfl
theorem RowBy.conv {w : World} {base : Nat} {v : Value} {l : List UInt8} (h : RowBy w base v l) : (convert 43 9 v).run Try.prog w = .ok (.string (bs l)) w := conv_bytes h
theorem RowBy.succ {w : World} {base : Nat} {v : Value} {x : UInt8} {l : List UInt8} (h : RowBy w base v (x :: l)) : ∃ g cap, v = .slice (some ⟨g, 0, none⟩) (l.length + 1) cap := ownsRow_succ h
theorem row_cell (W : World) (z : Int) : ∀ j u, [Value.int .u8 z][j]? = some u → (W.alloc (.cells #[.int .u8 z] 5)).cell? ((⟨W.heap.size, 0, none⟩ : Addr).add j) = some u := cell_one_new W _ _

set_option maxRecDepth 100000 in
set_option maxHeartbeats 4000000 in
theorem head_1 (f : Frm) (hok : okF 1 f = true) (w : World) :
    Calls Try.prog 24 #[fmP, .agg #[.int .i64 f.kind, .int .i64 f.flags, .string f.data]] w fun e w' => e = .returned (.string (bs (headF 1 f))) ∧ Below w.heap.size w w' := by
  obtain ⟨i0, hi, hz0, hz1, hz2⟩ := info_parts infoU8
  have ho := okF_iff.1 hok
  have hb0 : Below w.heap.size w (w.alloc (.cells #[.int .i64 f.kind, .int .i64 f.flags, .string f.data] 23)) := (Below.refl _ _).alloc (Nat.le_refl _) _
  have hbx := FrBlk.new w f
  obtain ⟨W0, hW0⟩ : ∃ W, w.alloc (.cells #[.int .i64 f.kind, .int .i64 f.flags, .string f.data] 23) = W := ⟨_, rfl⟩
  rw [hW0] at hb0 hbx
  obtain ⟨k, g, d⟩ := f
  simp only at ho
  have e1 : (((u8 k).toNat : Nat) : Int) = k := u8_nat (by omega) (by omega)
  have e2 : (((u8 g).toNat : Nat) : Int) = g := u8_nat (by omega) (by omega)
  have hd4 : d.size ≤ 4000 := by omega
  have hk0 : 0 ≤ k := by omega
  have hk1 : k ≤ 255 := by omega
  have hg0 : 0 ≤ g := by omega
  have hg1 : g ≤ 255 := by omega
  have ql := letter_1
  have qf := hasFlags_1
  have qp := putSize_1 d.size hd4
  have h8 := vb_len8 (n := d.size) (by omega)
  unfold fmP at *
  obtain ⟨P, hP⟩ : ∃ P, bs ([UInt8.ofNat (d.size / 256), UInt8.ofNat (d.size % 256)]) = P := ⟨_, rfl⟩
  obtain ⟨Q, hQ⟩ : ∃ Q, bs [97, u8 k] = Q := ⟨_, rfl⟩
  have hadd : ∀ W : World, (Op.stringOp .add Q P).run Try.prog W = .ok (.string (bs (headF 1 ⟨k, g, d⟩))) W := fun W => by
    rw [← hP, ← hQ, str_add (by rw [bs_size, bs_size]; simp <;> omega), bs_append]; rfl
  rw [hP] at qp
  have HQ := Lib.hid hQ; clear hQ hP h8
  have HB0 := Lib.hid hb0; clear hb0
  have HX := Lib.hid hbx; clear hbx
  have HE1 := Lib.hid e1; clear e1
  have HE2 := Lib.hid e2; clear e2
  clear hok ho hd4
  generalize bs (headF 1 ⟨k, g, d⟩) = R at *
  obtain ⟨c0, c1, c2⟩ := HX.out.cells
  simp only at c0 c1 c2
  go_enter Try.func24, Try.ntmps24
  go_wp2_with fail
  ((with_reducible refine (ql _).mono ?_); rintro e W1 ⟨rfl, b1⟩)
  have r1 := RowBy.one W1 W0.heap.size 97 b1.size
  have B1 := b1.alloc b1.size (.cells #[.int .u8 97] 5)
  have HR1 := Lib.hid r1; clear r1
  have HB1 := Lib.hid B1; clear B1 b1 c0 c1 c2
  go_wp2_with fail
  ((with_reducible refine (qf _).mono ?_); rintro e W2 ⟨rfl, b2⟩)
  have r2 := HR1.out.below b2
  have B2 := bch HB1.out b2
  clear b2
  obtain ⟨c0, c1, c2⟩ := (HX.out.below B2).cells
  simp only at c0 c1 c2
  have s0 := B2.size
  have ra0 : RowBy (W2.alloc (.cells #[.int .u8 k] 5)) W0.heap.size _ [97] := (r2 : RowBy W2 W0.heap.size _ [97]).below ((Below.refl _ _).alloc (Nat.le_refl _) _)
  have BA0 := B2.alloc s0 (.cells #[.int .u8 k] 5)
  have HS0 := Lib.hid s0; clear s0
  have HR0 := Lib.hid ra0; clear ra0 r2
  have HBA0 := Lib.hid BA0; clear BA0 B2
  go_wp2_with (at_builtin; refine wpList_append_own_at _ rfl _ _ 43 rfl W0.heap.size 5 i0 (.int .u8 0) 1 1 Try.underlying43 hi hz0 hz1 hz2 rfl (by decide) _ _ _ rfl HR0.out ⟨W2.heap.size, 0, none⟩ 1 1 [.int .u8 k] rfl rfl (row_cell _ _) ?c2 ?c3 ?c4 ?c5 ?_)
  case c2 => intro u hu; simp at hu; subst hu; rfl
  case c3 => unfold maxLen; simp
  case c4 => simp
  case c5 => have := HBA0.out.size; omega
  intro v0 V1 hown0 hgrow0 _ _
  have r3 : RowBy V1 W0.heap.size v0 ([97] ++ [u8 k]) := by
    have h := hown0
    rw [← HE1.out] at h
    exact h
  have B3 : Below W0.heap.size W0 V1 := HBA0.out.grown hgrow0 HBA0.out.size (fun g hg => (HR0.out.lt g hg).1)
  clear hown0 hgrow0 c0 c1 c2
  obtain ⟨g0, cap0, rfl⟩ := RowBy.succ r3
  obtain ⟨c0, c1, c2⟩ := (HX.out.below B3).cells
  simp only at c0 c1 c2
  obtain ⟨SL, hSL⟩ : ∃ SL, SL = Value.slice (some ⟨g0, 0, none⟩) 2 cap0 := ⟨_, rfl⟩
  have hall : ∀ W, Below V1.heap.size V1 W → ((convert 43 9 (.slice (some ⟨g0, 0, none⟩) 2 cap0)).run Try.prog W = .ok (.string Q) W ∧ W.cell? ⟨w.heap.size, 2, none⟩ = some (.string d) ∧ Below V1.heap.size V1 W) := fun W hb => by
    refine ⟨?_, (HX.out.below (bch B3 hb)).cells.2.2, hb⟩
    rw [← HQ.out]
    exact (r3.below hb).conv
  have HALL := Lib.hid hall; clear hall r3 hSL
  have HBE := Lib.hid B3; clear B3
  clear c0 c1 c2
  go_wp2_with fail
  refine wp_region_noPanic ?_
  refine wp_region_held_drew (S := fun W => (convert 43 9 (.slice (some ⟨g0, 0, none⟩) 2 cap0)).run Try.prog W = .ok (.string Q) W ∧ W.cell? ⟨w.heap.size, 2, none⟩ = some (.string d) ∧ Below V1.heap.size V1 W) (by kernel_rfl) (HALL.out _ (Below.refl _ _).drew) (fun hHeld => ?_)
  refine wpAnyH_take (i := 0) (v := ?_) rfl (by kernel_rfl) (by kernel_rfl) (by kernel_rfl) (fun _ _ _ h => h) (Or.inl ⟨by rfl, ?_⟩) (by assumption) ?_
  rotate_left
  · (intro w hSw; (try dsimp only at hSw); go_simp; (try with_reducible rfl))
  simp only [Act.put, List.getElem_toArray, List.getElem_cons_zero, List.setIfInBounds_toArray, List.set_cons_zero, List.set_cons_succ]
  refine wpAnyH_take (i := 1) (v := ?_) rfl (by kernel_rfl) (by kernel_rfl) (by kernel_rfl) (fun _ _ _ h => h) (Or.inl ⟨by rfl, ?_⟩) (by assumption) ?_
  rotate_left
  · (intro w hSw; (try dsimp only at hSw); go_simp; (try with_reducible rfl))
  simp only [Act.put, List.getElem_toArray, List.getElem_cons_zero, List.getElem_cons_succ, List.setIfInBounds_toArray, List.set_cons_zero, List.set_cons_succ]
  refine wpAnyH_take (i := 2) (v := ?_) rfl (by kernel_rfl) (by kernel_rfl) (by kernel_rfl) (fun _ _ _ h => h) (Or.inl ⟨by rfl, ?_⟩) (by assumption) ?_
  rotate_left
  · (intro w hSw; (try dsimp only at hSw); go_simp; (try with_reducible rfl))
  simp only [Act.put, List.getElem_toArray, List.getElem_cons_zero, List.getElem_cons_succ, List.setIfInBounds_toArray, List.set_cons_zero, List.set_cons_succ]
  refine wpAnyH_take (i := 3) (v := ?_) rfl (by kernel_rfl) (by kernel_rfl) (by kernel_rfl) (fun _ _ _ h => h) (Or.inl ⟨by rfl, ?_⟩) (by assumption) ?_
  rotate_left
  · (intro w hSw; (try dsimp only at hSw); go_simp; (try with_reducible rfl))
  simp only [Act.put, List.getElem_toArray, List.getElem_cons_zero, List.getElem_cons_succ, List.setIfInBounds_toArray, List.set_cons_zero, List.set_cons_succ]
  refine wpAnyH_take (i := 4) (v := ?_) rfl (by kernel_rfl) (by kernel_rfl) (by kernel_rfl) (fun _ _ _ h => h) (Or.inl ⟨by rfl, ?_⟩) (by assumption) ?_
  rotate_left
  · (intro w hSw; (try dsimp only at hSw); go_simp; (try with_reducible rfl))
  simp only [Act.put, List.getElem_toArray, List.getElem_cons_zero, List.getElem_cons_succ, List.setIfInBounds_toArray, List.set_cons_zero, List.set_cons_succ]
  refine wpAnyH_take (i := 5) (v := ?_) rfl (by kernel_rfl) (by kernel_rfl) (by kernel_rfl) (fun _ _ _ h => h) (Or.inl ⟨by rfl, ?_⟩) (by assumption) ?_
  rotate_left
  · (intro w hSw; (try dsimp only at hSw); go_simp; (try with_reducible rfl))
  simp only [Act.put, List.getElem_toArray, List.getElem_cons_zero, List.getElem_cons_succ, List.setIfInBounds_toArray, List.set_cons_zero, List.set_cons_succ]
  refine wpAnyH_ready (rs := [6]) (by kernel_rfl) (by simp) ?_
  refine AllReadyH.cons rfl (fun K hK => ?_) AllReadyH.nil
  rw [if_pos (by rfl)]
  go_simp
  ((with_reducible refine (qp _).mono ?_); rintro e w' ⟨rfl, bq⟩)
  refine hK.out _ _ (HALL.out _ (bch hHeld.2.2 bq)) (fun hHeld2 => ?_)
  clear hK K hHeld
  have hHeld := hHeld2; clear hHeld2
  refine wpAnyH_take (i := 7) (v := ?_) rfl (by kernel_rfl) (by kernel_rfl) (by kernel_rfl) (fun _ _ _ h => h) (Or.inl ⟨by rfl, ?_⟩) (by assumption) ?_
  rotate_left
  · (intro w hSw; (try dsimp only at hSw); go_simp; (try with_reducible rfl))
  simp only [Act.put, List.getElem_toArray, List.getElem_cons_zero, List.getElem_cons_succ, List.setIfInBounds_toArray, List.set_cons_zero, List.set_cons_succ]
  refine wpAnyH_take (i := 8) (v := ?_) rfl (by kernel_rfl) (by kernel_rfl) (by kernel_rfl) (fun _ _ _ h => h) (Or.inl ⟨by rfl, ?_⟩) (by assumption) ?_
  rotate_left
  · (intro w hSw; (try dsimp only at hSw); go_simp; (try with_reducible rfl))
  simp only [Act.put, List.getElem_toArray, List.getElem_cons_zero, List.getElem_cons_succ, List.setIfInBounds_toArray, List.set_cons_zero, List.set_cons_succ]
  refine wpAnyH_done (by kernel_rfl) ?_ _
  refine NoPanic.normal ?_
  have hbE := bch HBE.out hHeld.2.2
  clear hHeld
  go_wp2_with fail
  go_ret
  exact ⟨rfl, bch HB0.out hbE⟩

set_option maxRecDepth 100000 in
set_option maxHeartbeats 4000000 in
theorem head_2 (f : Frm) (hok : okF 2 f = true) (w : World) :
    Calls Try.prog 24 #[fmF, .agg #[.int .i64 f.kind, .int .i64 f.flags, .string f.data]] w fun e w' => e = .returned (.string (bs (headF 2 f))) ∧ Below w.heap.size w w' := by
  obtain ⟨i0, hi, hz0, hz1, hz2⟩ := info_parts infoU8
  have ho := okF_iff.1 hok
  have hb0 : Below w.heap.size w (w.alloc (.cells #[.int .i64 f.kind, .int .i64 f.flags, .string f.data] 23)) := (Below.refl _ _).alloc (Nat.le_refl _) _
  have hbx := FrBlk.new w f
  obtain ⟨W0, hW0⟩ : ∃ W, w.alloc (.cells #[.int .i64 f.kind, .int .i64 f.flags, .string f.data] 23) = W := ⟨_, rfl⟩
  rw [hW0] at hb0 hbx
  obtain ⟨k, g, d⟩ := f
  simp only at ho
  have e1 : (((u8 k).toNat : Nat) : Int) = k := u8_nat (by omega) (by omega)
  have e2 : (((u8 g).toNat : Nat) : Int) = g := u8_nat (by omega) (by omega)
  have hd4 : d.size ≤ 4000 := by omega
  have hk0 : 0 ≤ k := by omega
  have hk1 : k ≤ 255 := by omega
  have hg0 : 0 ≤ g := by omega
  have hg1 : g ≤ 255 := by omega
  have ql := letter_2
  have qf := hasFlags_2
  have qp := putSize_2 d.size hd4
  have h8 := vb_len8 (n := d.size) (by omega)
  unfold fmF at *
  obtain ⟨P, hP⟩ : ∃ P, bs (vb d.size) = P := ⟨_, rfl⟩
  obtain ⟨Q, hQ⟩ : ∃ Q, bs [98, u8 g, u8 k] = Q := ⟨_, rfl⟩
  have hadd : ∀ W : World, (Op.stringOp .add Q P).run Try.prog W = .ok (.string (bs (headF 2 ⟨k, g, d⟩))) W := fun W => by
    rw [← hP, ← hQ, str_add (by rw [bs_size, bs_size]; simp <;> omega), bs_append]; rfl
  rw [hP] at qp
  have HQ := Lib.hid hQ; clear hQ hP h8
  have HB0 := Lib.hid hb0; clear hb0
  have HX := Lib.hid hbx; clear hbx
  have HE1 := Lib.hid e1; clear e1
  have HE2 := Lib.hid e2; clear e2
  clear hok ho hd4
  generalize bs (headF 2 ⟨k, g, d⟩) = R at *
  obtain ⟨c0, c1, c2⟩ := HX.out.cells
  simp only at c0 c1 c2
  go_enter Try.func24, Try.ntmps24
  go_wp2_with fail
  ((with_reducible refine (ql _).mono ?_); rintro e W1 ⟨rfl, b1⟩)
  have r1 := RowBy.one W1 W0.heap.size 98 b1.size
  have B1 := b1.alloc b1.size (.cells #[.int .u8 98] 5)
  have HR1 := Lib.hid r1; clear r1
  have HB1 := Lib.hid B1; clear B1 b1 c0 c1 c2
  go_wp2_with fail
  ((with_reducible refine (qf _).mono ?_); rintro e W2 ⟨rfl, b2⟩)
  have r2 := HR1.out.below b2
  have B2 := bch HB1.out b2
  clear b2
  obtain ⟨c0, c1, c2⟩ := (HX.out.below B2).cells
  simp only at c0 c1 c2
  have s0 := B2.size
  have ra0 : RowBy (W2.alloc (.cells #[.int .u8 g] 5)) W0.heap.size _ [98] := (r2 : RowBy W2 W0.heap.size _ [98]).below ((Below.refl _ _).alloc (Nat.le_refl _) _)
  have BA0 := B2.alloc s0 (.cells #[.int .u8 g] 5)
  have HS0 := Lib.hid s0; clear s0
  have HR0 := Lib.hid ra0; clear ra0 r2
  have HBA0 := Lib.hid BA0; clear BA0 B2
  go_wp2_with (at_builtin; refine wpList_append_own_at _ rfl _ _ 43 rfl W0.heap.size 5 i0 (.int .u8 0) 1 1 Try.underlying43 hi hz0 hz1 hz2 rfl (by decide) _ _ _ rfl HR0.out ⟨W2.heap.size, 0, none⟩ 1 1 [.int .u8 g] rfl rfl (row_cell _ _) ?c2 ?c3 ?c4 ?c5 ?_)
  case c2 => intro u hu; simp at hu; subst hu; rfl
  case c3 => unfold maxLen; simp
  case c4 => simp
  case c5 => have := HBA0.out.size; omega
  intro v0 V1 hown0 hgrow0 _ _
  have r3 : RowBy V1 W0.heap.size v0 ([98] ++ [u8 g]) := by
    have h := hown0
    rw [← HE2.out] at h
    exact h
  have B3 : Below W0.heap.size W0 V1 := HBA0.out.grown hgrow0 HBA0.out.size (fun g hg => (HR0.out.lt g hg).1)
  clear hown0 hgrow0 c0 c1 c2
  obtain ⟨g0, cap0, rfl⟩ := RowBy.succ r3
  obtain ⟨c0, c1, c2⟩ := (HX.out.below B3).cells
  simp only at c0 c1 c2
  have s1 := B3.size
  have ra1 : RowBy (V1.alloc (.cells #[.int .u8 k] 5)) W0.heap.size _ [98, u8 g] := (r3 : RowBy V1 W0.heap.size _ [98, u8 g]).below ((Below.refl _ _).alloc (Nat.le_refl _) _)
  have BA1 := B3.alloc s1 (.cells #[.int .u8 k] 5)
  have HS1 := Lib.hid s1; clear s1
  have HR1 := Lib.hid ra1; clear ra1 r3
  have HBA1 := Lib.hid BA1; clear BA1 B3
  go_wp2_with (at_builtin; refine wpList_append_own_at _ rfl _ _ 43 rfl W0.heap.size 5 i0 (.int .u8 0) 1 1 Try.underlying43 hi hz0 hz1 hz2 rfl (by decide) _ _ _ rfl HR1.out ⟨V1.heap.size, 0, none⟩ 1 1 [.int .u8 k] rfl rfl (row_cell _ _) ?c2 ?c3 ?c4 ?c5 ?_)
  case c2 => intro u hu; simp at hu; subst hu; rfl
  case c3 => unfold maxLen; simp
  case c4 => simp
  case c5 => have := HBA1.out.size; omega
  intro v1 V2 hown1 hgrow1 _ _
  have r4 : RowBy V2 W0.heap.size v1 ([98, u8 g] ++ [u8 k]) := by
    have h := hown1
    rw [← HE1.out] at h
    exact h
  have B4 : Below W0.heap.size W0 V2 := HBA1.out.grown hgrow1 HBA1.out.size (fun g hg => (HR1.out.lt g hg).1)
  clear hown1 hgrow1 c0 c1 c2
  obtain ⟨g1, cap1, rfl⟩ := RowBy.succ r4
  obtain ⟨c0, c1, c2⟩ := (HX.out.below B4).cells
  simp only at c0 c1 c2
  obtain ⟨SL, hSL⟩ : ∃ SL, SL = Value.slice (some ⟨g1, 0, none⟩) 3 cap1 := ⟨_, rfl⟩
  have hall : ∀ W, Below V2.heap.size V2 W → ((convert 43 9 (.slice (some ⟨g1, 0, none⟩) 3 cap1)).run Try.prog W = .ok (.string Q) W ∧ W.cell? ⟨w.heap.size, 2, none⟩ = some (.string d) ∧ Below V2.heap.size V2 W) := fun W hb => by
    refine ⟨?_, (HX.out.below (bch B4 hb)).cells.2.2, hb⟩
    rw [← HQ.out]
    exact (r4.below hb).conv
  have HALL := Lib.hid hall; clear hall r4 hSL
  have HBE := Lib.hid B4; clear B4
  clear c0 c1 c2
  go_wp2_with fail
  refine wp_region_noPanic ?_
  refine wp_region_held_drew (S := fun W => (convert 43 9 (.slice (some ⟨g1, 0, none⟩) 3 cap1)).run Try.prog W = .ok (.string Q) W ∧ W.cell? ⟨w.heap.size, 2, none⟩ = some (.string d) ∧ Below V2.heap.size V2 W) (by kernel_rfl) (HALL.out _ (Below.refl _ _).drew) (fun hHeld => ?_)
  refine wpAnyH_take (i := 0) (v := ?_) rfl (by kernel_rfl) (by kernel_rfl) (by kernel_rfl) (fun _ _ _ h => h) (Or.inl ⟨by rfl, ?_⟩) (by assumption) ?_
  rotate_left
  · (intro w hSw; (try dsimp only at hSw); go_simp; (try with_reducible rfl))
  simp only [Act.put, List.getElem_toArray, List.getElem_cons_zero, List.setIfInBounds_toArray, List.set_cons_zero, List.set_cons_succ]
  refine wpAnyH_take (i := 1) (v := ?_) rfl (by kernel_rfl) (by kernel_rfl) (by kernel_rfl) (fun _ _ _ h => h) (Or.inl ⟨by rfl, ?_⟩) (by assumption) ?_
  rotate_left
  · (intro w hSw; (try dsimp only at hSw); go_simp; (try with_reducible rfl))
  simp only [Act.put, List.getElem_toArray, List.getElem_cons_zero, List.getElem_cons_succ, List.setIfInBounds_toArray, List.set_cons_zero, List.set_cons_succ]
  refine wpAnyH_take (i := 2) (v := ?_) rfl (by kernel_rfl) (by kernel_rfl) (by kernel_rfl) (fun _ _ _ h => h) (Or.inl ⟨by rfl, ?_⟩) (by assumption) ?_
  rotate_left
  · (intro w hSw; (try dsimp only at hSw); go_simp; (try with_reducible rfl))
  simp only [Act.put, List.getElem_toArray, List.getElem_cons_zero, List.getElem_cons_succ, List.setIfInBounds_toArray, List.set_cons_zero, List.set_cons_succ]
  refine wpAnyH_take (i := 3) (v := ?_) rfl (by kernel_rfl) (by kernel_rfl) (by kernel_rfl) (fun _ _ _ h => h) (Or.inl ⟨by rfl, ?_⟩) (by assumption) ?_
  rotate_left
  · (intro w hSw; (try dsimp only at hSw); go_simp; (try with_reducible rfl))
  simp only [Act.put, List.getElem_toArray, List.getElem_cons_zero, List.getElem_cons_succ, List.setIfInBounds_toArray, List.set_cons_zero, List.set_cons_succ]
  refine wpAnyH_take (i := 4) (v := ?_) rfl (by kernel_rfl) (by kernel_rfl) (by kernel_rfl) (fun _ _ _ h => h) (Or.inl ⟨by rfl, ?_⟩) (by assumption) ?_
  rotate_left
  · (intro w hSw; (try dsimp only at hSw); go_simp; (try with_reducible rfl))
  simp only [Act.put, List.getElem_toArray, List.getElem_cons_zero, List.getElem_cons_succ, List.setIfInBounds_toArray, List.set_cons_zero, List.set_cons_succ]
  refine wpAnyH_take (i := 5) (v := ?_) rfl (by kernel_rfl) (by kernel_rfl) (by kernel_rfl) (fun _ _ _ h => h) (Or.inl ⟨by rfl, ?_⟩) (by assumption) ?_
  rotate_left
  · (intro w hSw; (try dsimp only at hSw); go_simp; (try with_reducible rfl))
  simp only [Act.put, List.getElem_toArray, List.getElem_cons_zero, List.getElem_cons_succ, List.setIfInBounds_toArray, List.set_cons_zero, List.set_cons_succ]
  refine wpAnyH_ready (rs := [6]) (by kernel_rfl) (by simp) ?_
  refine AllReadyH.cons rfl (fun K hK => ?_) AllReadyH.nil
  rw [if_pos (by rfl)]
  go_simp
  ((with_reducible refine (qp _).mono ?_); rintro e w' ⟨rfl, bq⟩)
  refine hK.out _ _ (HALL.out _ (bch hHeld.2.2 bq)) (fun hHeld2 => ?_)
  clear hK K hHeld
  have hHeld := hHeld2; clear hHeld2
  refine wpAnyH_take (i := 7) (v := ?_) rfl (by kernel_rfl) (by kernel_rfl) (by kernel_rfl) (fun _ _ _ h => h) (Or.inl ⟨by rfl, ?_⟩) (by assumption) ?_
  rotate_left
  · (intro w hSw; (try dsimp only at hSw); go_simp; (try with_reducible rfl))
  simp only [Act.put, List.getElem_toArray, List.getElem_cons_zero, List.getElem_cons_succ, List.setIfInBounds_toArray, List.set_cons_zero, List.set_cons_succ]
  refine wpAnyH_take (i := 8) (v := ?_) rfl (by kernel_rfl) (by kernel_rfl) (by kernel_rfl) (fun _ _ _ h => h) (Or.inl ⟨by rfl, ?_⟩) (by assumption) ?_
  rotate_left
  · (intro w hSw; (try dsimp only at hSw); go_simp; (try with_reducible rfl))
  simp only [Act.put, List.getElem_toArray, List.getElem_cons_zero, List.getElem_cons_succ, List.setIfInBounds_toArray, List.set_cons_zero, List.set_cons_succ]
  refine wpAnyH_done (by kernel_rfl) ?_ _
  refine NoPanic.normal ?_
  have hbE := bch HBE.out hHeld.2.2
  clear hHeld
  go_wp2_with fail
  go_ret
  exact ⟨rfl, bch HB0.out hbE⟩

set_option maxRecDepth 100000 in
set_option maxHeartbeats 4000000 in
theorem pright_1 (f : Frm) (hs : f.data.size ≤ 140737488351232) (w : World) :
    Calls Try.prog 14 #[.int .i64 1, .agg #[.int .i64 f.kind, .int .i64 f.flags, .string f.data]] w fun e w' => e = .returned (.bool (okF 1 f)) ∧ Below w.heap.size w w' := by
  have hb0 : Below w.heap.size w (w.alloc (.cells #[.int .i64 f.kind, .int .i64 f.flags, .string f.data] 23)) := (Below.refl _ _).alloc (Nat.le_refl _) _
  have hbx := FrBlk.new w f
  obtain ⟨c0, c1, c2⟩ := hbx.cells
  have q0 := formOf_1
  have q1 := fun W => right_1 f (by omega) W
  go_enter Try.func14, Try.ntmps14
  go_wp2_with fail
  ((with_reducible refine (q0 _).mono ?_); rintro e W1 ⟨rfl, rfl⟩)
  go_wp2_with fail
  ((with_reducible refine (q1 _).mono ?_); rintro e W2 ⟨rfl, b2⟩)
  go_wp2_with fail
  go_ret
  exact ⟨rfl, bch hb0 b2⟩
set_option maxRecDepth 100000 in
set_option maxHeartbeats 4000000 in
theorem pencode_1_no (f : Frm) (hok : okF 1 f = false) (hs : f.data.size ≤ 140737488351232) (w : World) :
    Calls Try.prog 12 #[.int .i64 1, .agg #[.int .i64 f.kind, .int .i64 f.flags, .string f.data]] w fun e w' => e = .returned (.tuple #[.string ⟨#[]⟩, .int .i64 1]) ∧ Below w.heap.size w w' := by
  have hb0 : Below w.heap.size w (w.alloc (.cells #[.int .i64 f.kind, .int .i64 f.flags, .string f.data] 23)) := (Below.refl _ _).alloc (Nat.le_refl _) _
  have hbx := FrBlk.new w f
  obtain ⟨c0, c1, c2⟩ := hbx.cells
  have q0 := formOf_1
  have q1 := fun W => right_1 f (by omega) W
  rw [hok] at q1
  clear hok
  go_enter Try.func12, Try.ntmps12
  go_wp2_with fail
  ((with_reducible refine (q0 _).mono ?_); rintro e W1 ⟨rfl, rfl⟩)
  go_wp2_with fail
  ((with_reducible refine (q1 _).mono ?_); rintro e W2 ⟨rfl, b2⟩)
  go_wp2_with fail
  go_ret2
  exact ⟨rfl, bch hb0 b2⟩
set_option maxRecDepth 100000 in
set_option maxHeartbeats 4000000 in
theorem pencode_1 (f : Frm) (hok : okF 1 f = true) (w : World) :
    Calls Try.prog 12 #[.int .i64 1, .agg #[.int .i64 f.kind, .int .i64 f.flags, .string f.data]] w fun e w' => e = .returned (.tuple #[.string (bs (encF 1 f)), .int .i64 0]) ∧ Below w.heap.size w w' := by
  have hb0 : Below w.heap.size w (w.alloc (.cells #[.int .i64 f.kind, .int .i64 f.flags, .string f.data] 23)) := (Below.refl _ _).alloc (Nat.le_refl _) _
  have hbx := FrBlk.new w f
  have ho := okF_iff.1 hok
  have q0 := formOf_1
  have q1 := fun W => right_1 f (by omega) W
  rw [hok] at q1
  have q2 := fun W => head_1 f hok W
  have hl := head_le hok
  obtain ⟨H, hH⟩ : ∃ H, bs (headF 1 f) = H := ⟨_, rfl⟩
  have zH : H.size ≤ 11 := by rw [← hH, bs_size]; exact hl
  obtain ⟨B, hB⟩ : ∃ B, H ++ f.data = B := ⟨_, rfl⟩
  have zB : B.size = H.size + f.data.size := by rw [← hB]; exact ByteArray.size_append
  have dB : B.data.toList = bodyF 1 f := by rw [← hB, add_data, ← hH, bs_data]; rfl
  obtain ⟨u, hu⟩ : ∃ u, sumR (bodyF 1 f) = u := ⟨_, rfl⟩
  obtain ⟨S, hS⟩ : ∃ S, bs (le4 u) = S := ⟨_, rfl⟩
  have zS : S.size = 4 := by rw [← hS, bs_size]; rfl
  have o1 := fun W => sumOf_any dB hu hS (by omega) W
  have ha1 : ∀ W : World, (Op.stringOp .add H f.data).run Try.prog W = .ok (.string B) W := fun W => by rw [← hB]; exact str_add (by omega) W
  have ha2 : ∀ W : World, (Op.stringOp .add B S).run Try.prog W = .ok (.string (bs (encF 1 f))) W := fun W => by
    rw [str_add (by omega) W, ← hS]
    have : B ++ bs (le4 u) = bs (encF 1 f) := by rw [bs_of B, dB, bs_append, ← hu]; rfl
    rw [this]
  rw [hH] at q2
  clear hok hl ho hH zH hB zB dB hu hS zS
  generalize bs (encF 1 f) = R at *
  obtain ⟨c0, c1, c2⟩ := hbx.cells
  have HX := Lib.hid hbx; clear hbx
  go_enter Try.func12, Try.ntmps12
  go_wp2_with fail
  ((with_reducible refine (q0 _).mono ?_); rintro e W1 ⟨rfl, rfl⟩)
  go_wp2_with fail
  ((with_reducible refine (q1 _).mono ?_); rintro e W2 ⟨rfl, b2⟩)
  have hS1 : ∀ W, W = W2.drew → (W.cell? ⟨w.heap.size, 0, none⟩ = some (.int .i64 f.kind) ∧ W.cell? ⟨w.heap.size, 1, none⟩ = some (.int .i64 f.flags) ∧ W.cell? ⟨w.heap.size, 2, none⟩ = some (.string f.data) ∧ Below w.heap.size w W) := by
    rintro W rfl
    have := fr_keep ⟨c0, c1, c2, hb0⟩ b2
    exact ⟨this.1, this.2.1, this.2.2.1, this.2.2.2.drew⟩
  have HS := Lib.hid hS1; clear hS1 hb0 b2 c0 c1 c2
  go_wp2_with fail
  go_region_held3 (fun W => W.cell? ⟨w.heap.size, 0, none⟩ = some (.int .i64 f.kind) ∧ W.cell? ⟨w.heap.size, 1, none⟩ = some (.int .i64 f.flags) ∧ W.cell? ⟨w.heap.size, 2, none⟩ = some (.string f.data) ∧ Below w.heap.size w W) (first | exact HS.out _ rfl | exact fr_keep (by assumption) (by assumption)) (first | ((with_reducible refine (q2 _).mono ?_); rintro e w' ⟨rfl, bq⟩))
  rename_i hH
  have hb2 := hH.2.2.2
  clear HS hH
  go_wp2_with fail
  ((with_reducible refine (o1 _).mono ?_); rintro e W3 ⟨rfl, b3⟩)
  go_wp2_with fail
  go_ret2
  exact ⟨rfl, bch hb2 b3⟩

set_option maxRecDepth 100000 in
set_option maxHeartbeats 4000000 in
theorem pright_2 (f : Frm) (hs : f.data.size ≤ 140737488351232) (w : World) :
    Calls Try.prog 14 #[.int .i64 2, .agg #[.int .i64 f.kind, .int .i64 f.flags, .string f.data]] w fun e w' => e = .returned (.bool (okF 2 f)) ∧ Below w.heap.size w w' := by
  have hb0 : Below w.heap.size w (w.alloc (.cells #[.int .i64 f.kind, .int .i64 f.flags, .string f.data] 23)) := (Below.refl _ _).alloc (Nat.le_refl _) _
  have hbx := FrBlk.new w f
  obtain ⟨c0, c1, c2⟩ := hbx.cells
  have q0 := formOf_2
  have q1 := fun W => right_2 f (by omega) W
  go_enter Try.func14, Try.ntmps14
  go_wp2_with fail
  ((with_reducible refine (q0 _).mono ?_); rintro e W1 ⟨rfl, rfl⟩)
  go_wp2_with fail
  ((with_reducible refine (q1 _).mono ?_); rintro e W2 ⟨rfl, b2⟩)
  go_wp2_with fail
  go_ret
  exact ⟨rfl, bch hb0 b2⟩
set_option maxRecDepth 100000 in
set_option maxHeartbeats 4000000 in
theorem pencode_2_no (f : Frm) (hok : okF 2 f = false) (hs : f.data.size ≤ 140737488351232) (w : World) :
    Calls Try.prog 12 #[.int .i64 2, .agg #[.int .i64 f.kind, .int .i64 f.flags, .string f.data]] w fun e w' => e = .returned (.tuple #[.string ⟨#[]⟩, .int .i64 1]) ∧ Below w.heap.size w w' := by
  have hb0 : Below w.heap.size w (w.alloc (.cells #[.int .i64 f.kind, .int .i64 f.flags, .string f.data] 23)) := (Below.refl _ _).alloc (Nat.le_refl _) _
  have hbx := FrBlk.new w f
  obtain ⟨c0, c1, c2⟩ := hbx.cells
  have q0 := formOf_2
  have q1 := fun W => right_2 f (by omega) W
  rw [hok] at q1
  clear hok
  go_enter Try.func12, Try.ntmps12
  go_wp2_with fail
  ((with_reducible refine (q0 _).mono ?_); rintro e W1 ⟨rfl, rfl⟩)
  go_wp2_with fail
  ((with_reducible refine (q1 _).mono ?_); rintro e W2 ⟨rfl, b2⟩)
  go_wp2_with fail
  go_ret2
  exact ⟨rfl, bch hb0 b2⟩
set_option maxRecDepth 100000 in
set_option maxHeartbeats 4000000 in
theorem pencode_2 (f : Frm) (hok : okF 2 f = true) (w : World) :
    Calls Try.prog 12 #[.int .i64 2, .agg #[.int .i64 f.kind, .int .i64 f.flags, .string f.data]] w fun e w' => e = .returned (.tuple #[.string (bs (encF 2 f)), .int .i64 0]) ∧ Below w.heap.size w w' := by
  have hb0 : Below w.heap.size w (w.alloc (.cells #[.int .i64 f.kind, .int .i64 f.flags, .string f.data] 23)) := (Below.refl _ _).alloc (Nat.le_refl _) _
  have hbx := FrBlk.new w f
  have ho := okF_iff.1 hok
  have q0 := formOf_2
  have q1 := fun W => right_2 f (by omega) W
  rw [hok] at q1
  have q2 := fun W => head_2 f hok W
  have hl := head_le hok
  obtain ⟨H, hH⟩ : ∃ H, bs (headF 2 f) = H := ⟨_, rfl⟩
  have zH : H.size ≤ 11 := by rw [← hH, bs_size]; exact hl
  obtain ⟨B, hB⟩ : ∃ B, H ++ f.data = B := ⟨_, rfl⟩
  have zB : B.size = H.size + f.data.size := by rw [← hB]; exact ByteArray.size_append
  have dB : B.data.toList = bodyF 2 f := by rw [← hB, add_data, ← hH, bs_data]; rfl
  obtain ⟨u, hu⟩ : ∃ u, sumR (bodyF 2 f) = u := ⟨_, rfl⟩
  obtain ⟨S, hS⟩ : ∃ S, bs (le4 u) = S := ⟨_, rfl⟩
  have zS : S.size = 4 := by rw [← hS, bs_size]; rfl
  have o1 := fun W => sumOf_any dB hu hS (by omega) W
  have ha1 : ∀ W : World, (Op.stringOp .add H f.data).run Try.prog W = .ok (.string B) W := fun W => by rw [← hB]; exact str_add (by omega) W
  have ha2 : ∀ W : World, (Op.stringOp .add B S).run Try.prog W = .ok (.string (bs (encF 2 f))) W := fun W => by
    rw [str_add (by omega) W, ← hS]
    have : B ++ bs (le4 u) = bs (encF 2 f) := by rw [bs_of B, dB, bs_append, ← hu]; rfl
    rw [this]
  rw [hH] at q2
  clear hok hl ho hH zH hB zB dB hu hS zS
  generalize bs (encF 2 f) = R at *
  obtain ⟨c0, c1, c2⟩ := hbx.cells
  have HX := Lib.hid hbx; clear hbx
  go_enter Try.func12, Try.ntmps12
  go_wp2_with fail
  ((with_reducible refine (q0 _).mono ?_); rintro e W1 ⟨rfl, rfl⟩)
  go_wp2_with fail
  ((with_reducible refine (q1 _).mono ?_); rintro e W2 ⟨rfl, b2⟩)
  have hS1 : ∀ W, W = W2.drew → (W.cell? ⟨w.heap.size, 0, none⟩ = some (.int .i64 f.kind) ∧ W.cell? ⟨w.heap.size, 1, none⟩ = some (.int .i64 f.flags) ∧ W.cell? ⟨w.heap.size, 2, none⟩ = some (.string f.data) ∧ Below w.heap.size w W) := by
    rintro W rfl
    have := fr_keep ⟨c0, c1, c2, hb0⟩ b2
    exact ⟨this.1, this.2.1, this.2.2.1, this.2.2.2.drew⟩
  have HS := Lib.hid hS1; clear hS1 hb0 b2 c0 c1 c2
  go_wp2_with fail
  go_region_held3 (fun W => W.cell? ⟨w.heap.size, 0, none⟩ = some (.int .i64 f.kind) ∧ W.cell? ⟨w.heap.size, 1, none⟩ = some (.int .i64 f.flags) ∧ W.cell? ⟨w.heap.size, 2, none⟩ = some (.string f.data) ∧ Below w.heap.size w W) (first | exact HS.out _ rfl | exact fr_keep (by assumption) (by assumption)) (first | ((with_reducible refine (q2 _).mono ?_); rintro e w' ⟨rfl, bq⟩))
  rename_i hH
  have hb2 := hH.2.2.2
  clear HS hH
  go_wp2_with fail
  ((with_reducible refine (o1 _).mono ?_); rintro e W3 ⟨rfl, b3⟩)
  go_wp2_with fail
  go_ret2
  exact ⟨rfl, bch hb2 b3⟩

set_option maxRecDepth 100000 in
set_option maxHeartbeats 4000000 in
theorem pright_no (v : Int) (h1 : (v == 1) = false) (h2 : (v == 2) = false) (f : Frm) (w : World) :
    Calls Try.prog 14 #[.int .i64 v, .agg #[.int .i64 f.kind, .int .i64 f.flags, .string f.data]] w fun e w' => e = .returned (.bool false) ∧ Below w.heap.size w w' := by
  have hb0 : Below w.heap.size w (w.alloc (.cells #[.int .i64 f.kind, .int .i64 f.flags, .string f.data] 23)) := (Below.refl _ _).alloc (Nat.le_refl _) _
  have q0 := formOf_no v h1 h2
  go_enter Try.func14, Try.ntmps14
  go_wp2_with fail
  ((with_reducible refine (q0 _).mono ?_); rintro e W1 ⟨rfl, rfl⟩)
  go_wp2_with fail
  go_ret
  exact ⟨rfl, hb0⟩
set_option maxRecDepth 100000 in
set_option maxHeartbeats 4000000 in
theorem pencode_no (v : Int) (h1 : (v == 1) = false) (h2 : (v == 2) = false) (f : Frm) (w : World) :
    Calls Try.prog 12 #[.int .i64 v, .agg #[.int .i64 f.kind, .int .i64 f.flags, .string f.data]] w fun e w' => e = .returned (.tuple #[.string ⟨#[]⟩, .int .i64 1]) ∧ Below w.heap.size w w' := by
  have hb0 : Below w.heap.size w (w.alloc (.cells #[.int .i64 f.kind, .int .i64 f.flags, .string f.data] 23)) := (Below.refl _ _).alloc (Nat.le_refl _) _
  have q0 := formOf_no v h1 h2
  go_enter Try.func12, Try.ntmps12
  go_wp2_with fail
  ((with_reducible refine (q0 _).mono ?_); rintro e W1 ⟨rfl, rfl⟩)
  go_wp2_with fail
  go_ret2
  exact ⟨rfl, hb0⟩
/-- A version, or none. -/
theorem ver_cases (v : Int) : v = 1 ∨ v = 2 ∨ (v == 1) = false ∧ (v == 2) = false := by
  by_cases h1 : v = 1
  · exact .inl h1
  by_cases h2 : v = 2
  · exact .inr (.inl h2)
  · exact .inr (.inr ⟨by simpa using h1, by simpa using h2⟩)
theorem okF_nov {v : Int} (h1 : (v == 1) = false) (h2 : (v == 2) = false) (f : Frm) : okF v f = false := by
  cases h : okF v f with
  | false => rfl
  | true => rcases okF_v h with rfl | rfl <;> simp at h1 h2
theorem rightC : RightC := fun v f hs w => by
  rcases ver_cases v with rfl | rfl | ⟨h1, h2⟩
  · exact pright_1 f hs w
  · exact pright_2 f hs w
  · rw [okF_nov h1 h2]; exact pright_no v h1 h2 f w
theorem encC : EncC := fun v f hs w => by
  unfold encA encE
  rcases ver_cases v with rfl | rfl | ⟨h1, h2⟩
  · cases h : okF 1 f with
    | false => exact pencode_1_no f h hs w
    | true => exact pencode_1 f h w
  · cases h : okF 2 f with
    | false => exact pencode_2_no f h hs w
    | true => exact pencode_2 f h w
  · rw [okF_nov h1 h2]; exact pencode_no v h1 h2 f w
end Go.Proofs.Ytjciojgldibfmaa
