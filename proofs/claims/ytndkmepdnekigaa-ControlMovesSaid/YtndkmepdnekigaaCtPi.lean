import Derived.Test.YtndkmepdnekigaaCtPh
/-
  The contract of slices.Insert of records in a row of the call's own (stage 18).
-/
namespace Go.Proofs.Ytndkmepdnekigaa
open Go.RowKit
set_option linter.unusedVariables false
set_option linter.unusedSimpArgs false

/-- What an insertion leaves. -/
def InsPostM (w : World) (base : Nat) (row : Option Nat) (l : List (MbR)) (q : MbR) (i : Nat) (e : Ending) (w' : World) : Prop :=
  ∃ v, e = .returned v ∧ RowM w' base v (l.take i ++ q :: l.drop i) ∧ w.grownBy w' row
theorem m_one_at {w : World} {vb : Nat} {q : MbR} (h : Blk w vb (.cells #[.int .i64 q.1, .int .i64 q.2] 45 (0, 0))) : IsG s2 w (some ⟨vb, 0, none⟩) 1 [q] :=
  ⟨rfl, by unfold maxLen; omega, fun _ => ⟨vb, 0, rfl, Blk.lt h, fun i x hi j v hv => by
    have h1 : i < 1 := (List.getElem?_eq_some_iff.1 hi).1
    have h0 : i = 0 := by omega
    subst h0
    simp only [List.getElem?_cons_zero, Option.some.injEq] at hi
    subst hi
    rw [Nat.zero_mul, Nat.add_zero, Nat.zero_add, Blk.cell h j, ← hv]
    exact List.getElem?_toArray⟩⟩
set_option maxRecDepth 100000 in
set_option maxHeartbeats 8000000 in
theorem insertM_any (l : List (MbR)) (q : MbR) (A : Option Addr) (n cap i base vb : Nat) (w : World) (hrow : RowM w base (.slice A n cap) l) (hn : n = l.length) (hi : i ≤ n) (h20 : n ≤ 20) (hbase : base ≤ w.heap.size)
    (hv : Blk w vb (.cells #[.int .i64 q.1, .int .i64 q.2] 45 (0, 0))) (hvb : (Value.slice A n cap).ownBlock ≠ some vb) :
    Calls Try.prog 55 #[.slice A n cap, .int .i64 i, .slice (some ⟨vb, 0, none⟩) 1 1] w (InsPostM w base (Value.slice A n cap).ownBlock l q i) := by
  have HPS := Lib.hid (m_one_at hv)
  have HN := Lib.hid hn; clear hn
  have HBASE := Lib.hid hbase; clear hbase
  have hcap : n ≤ cap := by
    rcases hrow.2 with ⟨h1, h2⟩ | ⟨g, cp, cur, h1, _, _, h3, _⟩
    · simp only [Value.slice.injEq] at h1; omega
    · simp only [Value.slice.injEq] at h1; have := HN.out; omega
  have hin : (i : Int) ≤ (n : Int) := by omega
  have hi0 : (0 : Int) ≤ (i : Int) := by omega
  rcases Nat.lt_or_eq_of_le hi with hlt | heq
  rotate_left
  · subst heq
    have HRES : Hid (l.take i ++ q :: l.drop i = l ++ [q]) := by show _ = _; rw [HN.out, List.take_length, List.drop_length]
    have HROW := Lib.hid hrow; clear hrow
    obtain ⟨X, hX⟩ : ∃ X, (if cap = i then A else Option.map (fun x => x.add (i * 2)) A) = X := ⟨_, rfl⟩
    clear hvb hv
    go_enter Try.func55, Try.ntmps55
    go_wp2_with (at_builtin; refine wpList_append_g (S := s2) rfl infoM rfl rfl _ _ rfl base _ l rfl HROW.out (some ⟨vb, 0, none⟩) 1 1 [q] rfl HPS.out (by have := HN.out; unfold maxLen; omega) (by have := HN.out; omega) HBASE.out ?_)
    all_goals
      intro v1 w1 hrow1 hgr1 _
      have HR1 := Lib.hid hrow1; clear hrow1
      have HG1 := Lib.hid hgr1; clear hgr1
      go_wp2_with fail
      go_ret
      exact ⟨_, rfl, by rw [HRES.out]; exact HR1.out, HG1.out⟩
  obtain ⟨g, _, hv9, hbg, _, _⟩ := RowG.own hrow (by have := HN.out; omega)
  have hA := (slice_eqG hv9).1
  clear hv9
  subst hA
  obtain ⟨cur, hb9, hblk, hcs, hcm, hn9, hn8, htk⟩ := rowM_has hrow
  clear hb9 hn9 hn8
  have hvg : vb ≠ g := fun e => hvb (by rw [e]; rfl)
  have HIL : Hid (i < l.length) := by have := HN.out; show i < _; omega
  have hpre : cur.toList.take (i * 2) = cellsM (l.take i) := by
    rw [← take_cellsM (Nat.le_of_lt HIL.out), ← htk, List.take_take, Nat.min_eq_left (by omega)]
  have hsuf : (cur.toList.drop (i * 2)).take (cellsM (l.drop i)).length = cellsM (l.drop i) := by
    have hd : (cellsM (l.drop i)).length = (n - i) * 2 := by rw [cellsM_len, List.length_drop, HN.out]
    rw [← drop_cellsM (Nat.le_of_lt HIL.out), ← htk, List.drop_take, List.length_take, List.length_drop, Array.length_toList, hcs]
    exact congrArg (fun k => (cur.toList.drop (i * 2)).take k) (by simp only [Nat.min_def]; split <;> omega)
  have hd : (cellsM (l.drop i)).length = (n - i) * 2 := by rw [cellsM_len, List.length_drop, HN.out]
  have hone : ∀ v ∈ cellsM (l.drop i), v.oneCell' = true := fun v hv => cellsG_one _ v hv
  have hone6 := s2.one q
  have hc1 : ¬ (cap = i) := by omega
  have hz1 : ¬ ((i : Int) = (n : Int)) := by omega
  have hz2 : ((i : Int) == (n : Int)) = false := by rw [beq_eq_false_iff_ne]; exact hz1
  have hwn : IntKind.i64.wrap ((n : Int) + 1) = (n : Int) + 1 := IntWalk.i64_in _ (by omega)
  have hwi : IntKind.i64.wrap ((i : Int) + 1) = (i : Int) + 1 := IntWalk.i64_in _ (by omega)
  by_cases hroom : n + 1 ≤ cap
  · have HFIN : Hid (∀ W : World, Blk W g (.cells cur 45 (0, 0)) → RowM ((W.setCells g ((i + 1) * 2) (cellsM (l.drop i))).setCells g (i * 2) (cellM q)) base (.slice (some ⟨g, 0, none⟩) (n + 1) cap) (l.take i ++ q :: l.drop i)) := fun W hk => by
      have := rowM_shift (q := q) hbg hk hcs hcm (by have := HN.out; omega) (Nat.le_of_lt HIL.out) hpre
      rw [← HN.out] at this; exact this
    have hov : ∀ (lb cb : Nat), (callFunc 71 #[.slice (some ⟨vb, 0, none⟩) 1 1, .slice (some ⟨g, (i + 1) * 2, none⟩) lb cb]).run Try.prog w = .ok (.value (.bool false)) w := fun lb cb => by
      have hshv : w.shape? vb = some (45, 2) := by unfold World.shape?; rw [show w.heap[vb]? = _ from hv]; rfl
      have hshg : w.shape? g = some (45, cap * 2) := by unfold World.shape?; rw [show w.heap[g]? = _ from hblk]; exact congrArg (fun k => some (45, k)) hcs
      obtain ⟨i0, hi0, _, hs0, _⟩ := info_parts infoM
      rw [run_callFunc_extern Try.func71 (by kernel_rfl) (by kernel_rfl) (by kernel_rfl) (e := Extern.SlicesOverlaps.overlaps #[23, 23] #[4]) (by kernel_rfl),
        Lib.run_overlaps_apart w 23 4 45 Try.underlying23 2 (fun w => by simp [sizeOf, typeInfo, hi0, hs0]) ⟨vb, 0, none⟩ ⟨g, (i + 1) * 2, none⟩ 1 1 lb cb hvg 45 45 2 (cap * 2) hshv hshg (by omega) (Blk.frozen hv 0) (Blk.frozen hv 2)]
      rfl
    have hcp1 : ∀ (ty : TypeId) (o2 dl dc o3 sl sc : Nat), o2 = (i + 1) * 2 → o3 = i * 2 → Nat.min sl dl = n - i → (Builtin.copy_ #[23, 23] ty #[.slice (some ⟨g, o2, none⟩) dl dc, .slice (some ⟨g, o3, none⟩) sl sc]).run Try.prog w.drew = .ok (.int .i64 (n - i : Nat)) (w.drew.setCells g ((i + 1) * 2) (cellsM (l.drop i))) := fun ty o2 dl dc o3 sl sc h2 h3 hm => by
      subst h2 h3
      exact run_copyM w.drew ty g _ dl dc ⟨g, _, none⟩ sl sc (n - i) _ hm hd (blk_cells (Blk.drew hblk) hsuf) (fun j hj => blk_some (Blk.drew hblk) (by rw [hcs]; omega)) (fun j hj => Blk.frozen (Blk.drew hblk) _) hone
    obtain ⟨W1, hW1⟩ : ∃ W, w.drew.setCells g ((i + 1) * 2) (cellsM (l.drop i)) = W := ⟨_, rfl⟩
    have hblk1 : Blk W1 g (.cells (setsA cur ((i + 1) * 2) (cellsM (l.drop i))) 45 (0, 0)) := by rw [← hW1]; exact blk_sets _ _ _ _ (Blk.drew hblk)
    have hv1 : Blk W1 vb (.cells #[.int .i64 q.1, .int .i64 q.2] 45 (0, 0)) := by
      have hk := gb_sets g (cellsM (l.drop i)) ((i + 1) * 2) w.drew
      rw [hW1] at hk
      have hvk : Blk W1 vb (.cells #[.int .i64 q.1, .int .i64 q.2] 45 (0, 0)) := Blk.kept (Blk.drew hv) hk (fun e => hvg (by cases e; rfl))
      exact hvk
    have hcp2 : ∀ (ty : TypeId) (o2 dl dc sl sc : Nat), o2 = i * 2 → Nat.min sl dl = 1 → (Builtin.copy_ #[23, 23] ty #[.slice (some ⟨g, o2, none⟩) dl dc, .slice (some ⟨vb, 0, none⟩) sl sc]).run Try.prog W1 = .ok (.int .i64 (1 : Nat)) (W1.setCells g (i * 2) (cellM q)) := fun ty o2 dl dc sl sc h2 hm => by
      subst h2
      exact run_copyM W1 ty g _ dl dc ⟨vb, 0, none⟩ sl sc 1 _ hm rfl (blk_cells (o := 0) hv1 rfl) (fun j hj => blk_some hblk1 (by rw [setsA_size, hcs]; rw [cellM_len] at hj; omega)) (fun j hj => Blk.frozen hblk1 _) hone6
    have HF := Lib.hid (HFIN.out w.drew (Blk.drew hblk))
    rw [hW1] at HF hcp1
    have HG : Hid (w.grownBy (W1.setCells g (i * 2) (cellM q)) (some g)) := by
      have h1 := gb_sets g (cellsM (l.drop i)) ((i + 1) * 2) w.drew
      rw [hW1] at h1
      exact ((gb_drew w _).trans h1).trans (gb_sets g _ _ _)
    have hb1 : (n : Int) + 1 ≤ (cap : Int) := by omega
    have hb2 : ¬ ((cap : Int) < (n : Int) + 1) := by omega
    have hb3 : (0 : Int) ≤ (n : Int) + 1 := by omega
    have hb4 : (0 : Int) ≤ (i : Int) + 1 := by omega
    have hb5 : (i : Int) + 1 ≤ (n : Int) + 1 := by omega
    have hb6 : (i : Int) ≤ (n : Int) + 1 := by omega
    have hc2 : ¬ (cap = i + 1) := by omega
    have HL : Hid (i < n ∧ n + 1 ≤ cap) := ⟨hlt, hroom⟩
    have HBL := Lib.hid hblk
    have HVV := Lib.hid hv
    have HW1 := Lib.hid hW1
    clear hrow hblk hcs hcm htk hpre hsuf hd hone hone6 hblk1 hv1 HFIN hW1 hv hvb hbg
    go_enter Try.func55, Try.ntmps55
    go_wp2_with (simp only [hov])
    go_upto_region 15 with (simp only [hov])
    refine wp_region_noPanic ?_
    refine wp_region_held_drew (S := (fun _ => True)) (by kernel_rfl) (trivial) (fun hHeld => ?_)
    refine wpAnyH_take (i := 0) (v := ?_) rfl (by kernel_rfl) (by kernel_rfl) (by kernel_rfl) (fun _ _ _ h => h) (Or.inl ⟨by rfl, ?_⟩) (by assumption) ?_
    rotate_left
    · (intro w hSw; (try dsimp only at hSw); go_simp; (try with_reducible rfl))
    simp only [Act.put, List.getElem_toArray, List.getElem_cons_zero, List.setIfInBounds_toArray, List.set_cons_zero, List.set_cons_succ]
    refine wpAnyH_take (i := 1) (v := ?_) rfl (by kernel_rfl) (by kernel_rfl) (by kernel_rfl) (fun _ _ _ h => h) (Or.inl ⟨by rfl, ?_⟩) (by assumption) ?_
    rotate_left
    · (intro w hSw; (try dsimp only at hSw); go_simp; (try with_reducible rfl))
    simp only [Act.put, List.getElem_toArray, List.getElem_cons_zero, List.getElem_cons_succ, List.setIfInBounds_toArray, List.set_cons_zero, List.set_cons_succ]
    refine wpAnyH_take (i := 2) (v := ?_) rfl (by kernel_rfl) (by kernel_rfl) (by kernel_rfl) (fun _ _ _ h => h) (Or.inl ⟨by rfl, ?_⟩) (by assumption) ?_
    rotate_left
    · (intro w hSw; (try dsimp only at hSw); go_simp; (try with_reducible rfl))
    simp only [Act.put, List.getElem_toArray, List.getElem_cons_zero, List.getElem_cons_succ, List.setIfInBounds_toArray, List.set_cons_zero, List.set_cons_succ]
    refine wpAnyH_take (i := 3) (v := ?_) rfl (by kernel_rfl) (by kernel_rfl) (by kernel_rfl) (fun _ _ _ h => h) (Or.inl ⟨by rfl, ?_⟩) (by assumption) ?_
    rotate_left
    · (intro w hSw; (try dsimp only at hSw); go_simp; (try with_reducible rfl))
    simp only [Act.put, List.getElem_toArray, List.getElem_cons_zero, List.getElem_cons_succ, List.setIfInBounds_toArray, List.set_cons_zero, List.set_cons_succ]
    refine wpAnyH_take (i := 4) (v := ?_) rfl (by kernel_rfl) (by kernel_rfl) (by kernel_rfl) (fun _ _ _ h => h) (Or.inl ⟨by rfl, ?_⟩) (by assumption) ?_
    rotate_left
    · (intro w hSw; (try dsimp only at hSw); go_simp; (try with_reducible rfl))
    simp only [Act.put, List.getElem_toArray, List.getElem_cons_zero, List.getElem_cons_succ, List.setIfInBounds_toArray, List.set_cons_zero, List.set_cons_succ]
    refine wpAnyH_take (i := 5) (v := ?_) rfl (by kernel_rfl) (by kernel_rfl) (by kernel_rfl) (fun _ _ _ h => h) (Or.inl ⟨by rfl, ?_⟩) (by assumption) ?_
    rotate_left
    · (intro w hSw; (try dsimp only at hSw); go_simp; (try with_reducible rfl))
    simp only [Act.put, List.getElem_toArray, List.getElem_cons_zero, List.getElem_cons_succ, List.setIfInBounds_toArray, List.set_cons_zero, List.set_cons_succ]
    refine wpAnyH_take (i := 6) (v := ?_) rfl (by kernel_rfl) (by kernel_rfl) (by kernel_rfl) (fun _ _ _ h => h) (Or.inl ⟨by rfl, ?_⟩) (by assumption) ?_
    rotate_left
    · (intro w hSw; (try dsimp only at hSw); go_simp; (try with_reducible rfl))
    simp only [Act.put, List.getElem_toArray, List.getElem_cons_zero, List.getElem_cons_succ, List.setIfInBounds_toArray, List.set_cons_zero, List.set_cons_succ]
    refine wpAnyH_take (i := 7) (v := ?_) rfl (by kernel_rfl) (by kernel_rfl) (by kernel_rfl) (fun _ _ _ h => h) (Or.inl ⟨by rfl, ?_⟩) (by assumption) ?_
    rotate_left
    · (intro w hSw; (try dsimp only at hSw); go_simp; (try with_reducible rfl))
    simp only [Act.put, List.getElem_toArray, List.getElem_cons_zero, List.getElem_cons_succ, List.setIfInBounds_toArray, List.set_cons_zero, List.set_cons_succ]
    refine wpAnyH_ready (rs := [8]) (by kernel_rfl) (by simp) ?_
    refine AllReadyH.cons rfl (fun K hK => ?_) AllReadyH.nil
    refine step_copyM rfl _ _ rfl _ _ rfl rfl (hcp1 _ _ _ _ _ _ _ (by omega) (by omega) (by have := HL.out; simp only [Nat.min_def]; split <;> omega)) ?_
    refine hK.out _ _ trivial (fun hHeld2 => ?_)
    clear hK K hHeld
    have hHeld := hHeld2; clear hHeld2
    refine wpAnyH_done (by kernel_rfl) ?_ _
    refine NoPanic.normal ?_
    have hx2 := hcp2 3 (i * 2) (n + 1 - i) (cap - i) 1 1 rfl (by have := HL.out; simp only [Nat.min_def]; split <;> omega)
    clear hcp1 hcp2
    go_wp2_with fail
    go_ret
    exact ⟨_, rfl, HF.out, HG.out⟩
  · have hcn : cap = n := by omega
    subst hcn
    clear hroom hcap
    obtain ⟨i0, hi0, hz0, hs0, hb0⟩ := info_parts infoM
    have hTl : (cellsM (l.take i)).length = i * 2 := by rw [cellsM_len, List.length_take]; have := HIL.out; omega
    have hold : (Builtin.firstCells i0.size i (.slice (some ⟨g, 0, none⟩) i cap)).run Try.prog w.drew = .ok (cellsM (l.take i)).toArray w.drew := by
      rw [hs0]
      refine run_firstCells_some w.drew 2 i ⟨g, 0, none⟩ i cap (cellsM (l.take i)) hTl ?_
      refine blk_cells (Blk.drew hblk) ?_
      rw [List.drop_zero, hTl]; exact hpre
    have hrz : ∀ (ty : TypeId) (k : Int), k = ((cap + 1 - i : Nat) : Int) → (Builtin.append_ #[23, 3] ty #[.slice (some ⟨g, 0, none⟩) i cap, .int .i64 k]).run Try.prog w =
        .ok (.slice (some ⟨w.heap.size, 0, none⟩) (cap + 1) (grownCap w (cap + 1) cap 45)) (w.drew.alloc (.cells ((cellsM (l.take i)).toArray ++ Builtin.zeroCells (Value.agg #[.int .i64 0, .int .i64 0]).cells (cap + 1 - i) ++ Builtin.zeroCells (Value.agg #[.int .i64 0, .int .i64 0]).cells (grownCap w (cap + 1) cap 45 - (cap + 1))) 45)) := fun ty k hk => by
      subst hk
      have h := Lib.run_append_grow_zeros w 23 3 ty 45 i0 (Value.agg #[.int .i64 0, .int .i64 0]) .i64 .i64 Try.underlying23 Try.underlying3 hi0 hz0 (some ⟨g, 0, none⟩) i cap _ hold (cap + 1 - i) (by omega) (by rw [hs0]; omega) (by omega) (by omega)
        (by rw [hb0]; omega)
        (by rw [show i + (cap + 1 - i) = cap + 1 by omega]; exact growslice_fits (by omega) (by rw [hb0]; omega))
      rw [show i + (cap + 1 - i) = cap + 1 by omega] at h
      exact h
    have hGn : cap + 1 ≤ grownCap w (cap + 1) cap 45 := grownCap_ge w _ _ _
    have hG63 : grownCap w (cap + 1) cap 45 ≤ maxLen := grownCap_le_maxLen w _ _ _ (by unfold maxLen; omega)
    obtain ⟨G, hG⟩ : ∃ G, grownCap w (cap + 1) cap 45 = G := ⟨_, rfl⟩
    rw [hG] at hrz hGn hG63
    obtain ⟨Z, hZ⟩ : ∃ Z, (cellsM (l.take i)).toArray ++ Builtin.zeroCells (Value.agg #[.int .i64 0, .int .i64 0]).cells (cap + 1 - i) ++ Builtin.zeroCells (Value.agg #[.int .i64 0, .int .i64 0]).cells (G - (cap + 1)) = Z := ⟨_, rfl⟩
    rw [hZ] at hrz
    have hZs : Z.size = G * 2 := by
      rw [← hZ]
      simp [size_zeroCells, Value.cells, hTl]
      omega
    have hZp : Z.toList.take (i * 2) = cellsM (l.take i) := by
      rw [← hZ]
      rw [Array.toList_append, Array.toList_append, List.append_assoc, List.toList_toArray, List.take_left' hTl]
    clear hold hZ hG hi0 hz0 hs0 hb0 i0
    obtain ⟨W0, hW0⟩ : ∃ W, w.drew.alloc (.cells Z 45) = W := ⟨_, rfl⟩
    have hzb : Blk W0 w.heap.size (.cells Z 45 (0, 0)) := by rw [← hW0]; exact Blk.new w.drew _
    have hb0 : Below w.heap.size w W0 := by rw [← hW0]; exact ((Below.refl _ w).drew).alloc (Nat.le_refl _) _
    have hv0 : Blk W0 vb (.cells #[.int .i64 q.1, .int .i64 q.2] 45 (0, 0)) := Blk.below hv hb0
    have hgb0 : Blk W0 g (.cells cur 45 (0, 0)) := Blk.below hblk hb0
    rw [hW0] at hrz
    have hcp1 : ∀ (ty : TypeId) (o2 dl dc sl sc : Nat), o2 = i * 2 → Nat.min sl dl = 1 → (Builtin.copy_ #[23, 23] ty #[.slice (some ⟨w.heap.size, o2, none⟩) dl dc, .slice (some ⟨vb, 0, none⟩) sl sc]).run Try.prog W0 = .ok (.int .i64 (1 : Nat)) (W0.setCells w.heap.size (i * 2) (cellM q)) := fun ty o2 dl dc sl sc h2 hm => by
      subst h2
      exact run_copyM W0 ty w.heap.size _ dl dc ⟨vb, 0, none⟩ sl sc 1 _ hm rfl (blk_cells (o := 0) hv0 rfl) (fun j hj => blk_some hzb (by rw [hZs]; rw [cellM_len] at hj; omega)) (fun j hj => Blk.frozen hzb _) hone6
    have hgw : g ≠ w.heap.size := by have := Blk.lt hblk; omega
    obtain ⟨W1, hW1⟩ : ∃ W, W0.setCells w.heap.size (i * 2) (cellM q) = W := ⟨_, rfl⟩
    have hk1 := gb_sets w.heap.size (cellM q) (i * 2) W0
    have hzb1 : Blk W1 w.heap.size (.cells (setsA Z (i * 2) (cellM q)) 45 (0, 0)) := by rw [← hW1]; exact blk_sets _ _ _ _ hzb
    rw [hW1] at hk1
    have hgb1 : Blk W1 g (.cells cur 45 (0, 0)) := Blk.kept hgb0 hk1 (fun e => hgw (by cases e; rfl))
    have hcp2 : ∀ (ty : TypeId) (o2 dl dc o3 sl sc : Nat), o2 = (i + 1) * 2 → o3 = i * 2 → Nat.min sl dl = cap - i → (Builtin.copy_ #[23, 23] ty #[.slice (some ⟨w.heap.size, o2, none⟩) dl dc, .slice (some ⟨g, o3, none⟩) sl sc]).run Try.prog W1.drew = .ok (.int .i64 (cap - i : Nat)) (W1.drew.setCells w.heap.size ((i + 1) * 2) (cellsM (l.drop i))) := fun ty o2 dl dc o3 sl sc h2 h3 hm => by
      subst h2 h3
      exact run_copyM W1.drew ty w.heap.size _ dl dc ⟨g, _, none⟩ sl sc (cap - i) _ hm hd (blk_cells (Blk.drew hgb1) hsuf) (fun j hj => blk_some (Blk.drew hzb1) (by rw [setsA_size, hZs]; omega)) (fun j hj => Blk.frozen (Blk.drew hzb1) _) hone
    have HF : Hid (RowM (W1.drew.setCells w.heap.size ((i + 1) * 2) (cellsM (l.drop i))) base (.slice (some ⟨w.heap.size, 0, none⟩) (cap + 1) G) (l.take i ++ q :: l.drop i)) := by
      have h := rowM_shift2 (q := q) (W := W0.drew) HBASE.out (Blk.drew hzb) hZs hG63 (by have := HN.out; omega) (Nat.le_of_lt HIL.out) hZp
      have e : W0.drew.setCells w.heap.size (i * 2) (cellM q) = W1.drew := by rw [← hW1]; exact sets_drew _ _ _ _
      rw [e, ← HN.out] at h
      exact h
    have HG : Hid (w.grownBy (W1.drew.setCells w.heap.size ((i + 1) * 2) (cellsM (l.drop i))) (some g)) := by
      have h1 := hb0.trans ((Below.refl W0.heap.size W0).mono hb0.size)
      have hz : ∀ k, k < w.heap.size → (W1.drew.setCells w.heap.size ((i + 1) * 2) (cellsM (l.drop i))).heap[k]? = w.heap[k]? := fun k hk => by
        have h2 := (gb_sets w.heap.size (cellsM (l.drop i)) ((i + 1) * 2) W1.drew).block k (by show k < W1.heap.size; have := hk1.size; have := hb0.size; omega) (by simp; omega)
        have h3 := hk1.block k (by have := hb0.size; omega) (by simp; omega)
        exact h2.trans (h3.trans (hb0.block k hk))
      have hs2 := gb_sets w.heap.size (cellsM (l.drop i)) ((i + 1) * 2) W1.drew
      exact ⟨hs2.os.trans (hk1.os.trans hb0.os), hs2.tape.trans (hk1.tape.trans hb0.tape), hs2.output.trans (hk1.output.trans hb0.output), Nat.le_trans hb0.size (Nat.le_trans hk1.size hs2.size), fun k hk _ => hz k hk⟩
    have hb1 : ¬ ((cap : Int) + 1 ≤ (cap : Int)) := by omega
    have hb2 : (cap : Int) < (cap : Int) + 1 := by omega
    have hws : IntKind.i64.wrap ((cap : Int) + 1 - (i : Int)) = ((cap + 1 - i : Nat) : Int) := by rw [IntWalk.i64_in _ (by omega)]; omega
    have hb4 : (0 : Int) ≤ (i : Int) + 1 := by omega
    have hb5 : (i : Int) + 1 ≤ (cap : Int) + 1 := by omega
    have hb6 : (i : Int) ≤ (cap : Int) + 1 := by omega
    have hb7 : i ≤ cap + 1 := by omega
    have hc2 : ¬ (G = i) := by omega
    have hc3 : ¬ (G = i + 1) := by omega
    have HL : Hid (i < cap ∧ cap + 1 ≤ G) := ⟨hlt, hGn⟩
    have hGG : G ≤ 9223372036854775807 := by unfold maxLen at hG63; omega
    have HV0 := Lib.hid hv0; clear hv0
    rw [hW1] at hcp1
    have HW1 := Lib.hid hW1
    clear hrow hblk hcs hcm htk hpre hsuf hd hone hone6 hW1 hv hvb hbg hzb hb0 hgb0 hzb1 hgb1 hk1 hgw hW0 hZs hZp hTl hGn hG63
    go_enter Try.func55, Try.ntmps55
    have hx1 := hcp1 3 (i * 2) (cap + 1 - i) (G - i) 1 1 rfl (by have := HL.out; simp only [Nat.min_def]; split <;> omega)
    go_upto_region 9 with fail
    go_upto_region 10 with (at_builtin; refine Lib.wpList_append_run _ rfl _ _ _ _ rfl _ _ rfl rfl _ _ (hrz _ _ rfl) ?_)
    go_upto_region 11 with fail
    clear hx1
    refine wp_region_noPanic ?_
    refine wp_region_held_drew (S := (fun _ => True)) (by kernel_rfl) (trivial) (fun hHeld => ?_)
    refine wpAnyH_take (i := 0) (v := ?_) rfl (by kernel_rfl) (by kernel_rfl) (by kernel_rfl) (fun _ _ _ h => h) (Or.inl ⟨by rfl, ?_⟩) (by assumption) ?_
    rotate_left
    · (intro w hSw; (try dsimp only at hSw); go_simp; (try with_reducible rfl))
    simp only [Act.put, List.getElem_toArray, List.getElem_cons_zero, List.setIfInBounds_toArray, List.set_cons_zero, List.set_cons_succ]
    refine wpAnyH_take (i := 1) (v := ?_) rfl (by kernel_rfl) (by kernel_rfl) (by kernel_rfl) (fun _ _ _ h => h) (Or.inl ⟨by rfl, ?_⟩) (by assumption) ?_
    rotate_left
    · (intro w hSw; (try dsimp only at hSw); go_simp; (try with_reducible rfl))
    simp only [Act.put, List.getElem_toArray, List.getElem_cons_zero, List.getElem_cons_succ, List.setIfInBounds_toArray, List.set_cons_zero, List.set_cons_succ]
    refine wpAnyH_take (i := 2) (v := ?_) rfl (by kernel_rfl) (by kernel_rfl) (by kernel_rfl) (fun _ _ _ h => h) (Or.inl ⟨by rfl, ?_⟩) (by assumption) ?_
    rotate_left
    · (intro w hSw; (try dsimp only at hSw); go_simp; (try with_reducible rfl))
    simp only [Act.put, List.getElem_toArray, List.getElem_cons_zero, List.getElem_cons_succ, List.setIfInBounds_toArray, List.set_cons_zero, List.set_cons_succ]
    refine wpAnyH_take (i := 3) (v := ?_) rfl (by kernel_rfl) (by kernel_rfl) (by kernel_rfl) (fun _ _ _ h => h) (Or.inl ⟨by rfl, ?_⟩) (by assumption) ?_
    rotate_left
    · (intro w hSw; (try dsimp only at hSw); go_simp; (try with_reducible rfl))
    simp only [Act.put, List.getElem_toArray, List.getElem_cons_zero, List.getElem_cons_succ, List.setIfInBounds_toArray, List.set_cons_zero, List.set_cons_succ]
    refine wpAnyH_take (i := 4) (v := ?_) rfl (by kernel_rfl) (by kernel_rfl) (by kernel_rfl) (fun _ _ _ h => h) (Or.inl ⟨by rfl, ?_⟩) (by assumption) ?_
    rotate_left
    · (intro w hSw; (try dsimp only at hSw); go_simp; (try with_reducible rfl))
    simp only [Act.put, List.getElem_toArray, List.getElem_cons_zero, List.getElem_cons_succ, List.setIfInBounds_toArray, List.set_cons_zero, List.set_cons_succ]
    refine wpAnyH_take (i := 5) (v := ?_) rfl (by kernel_rfl) (by kernel_rfl) (by kernel_rfl) (fun _ _ _ h => h) (Or.inl ⟨by rfl, ?_⟩) (by assumption) ?_
    rotate_left
    · (intro w hSw; (try dsimp only at hSw); go_simp; (try with_reducible rfl))
    simp only [Act.put, List.getElem_toArray, List.getElem_cons_zero, List.getElem_cons_succ, List.setIfInBounds_toArray, List.set_cons_zero, List.set_cons_succ]
    refine wpAnyH_take (i := 6) (v := ?_) rfl (by kernel_rfl) (by kernel_rfl) (by kernel_rfl) (fun _ _ _ h => h) (Or.inl ⟨by rfl, ?_⟩) (by assumption) ?_
    rotate_left
    · (intro w hSw; (try dsimp only at hSw); go_simp; (try with_reducible rfl))
    simp only [Act.put, List.getElem_toArray, List.getElem_cons_zero, List.getElem_cons_succ, List.setIfInBounds_toArray, List.set_cons_zero, List.set_cons_succ]
    refine wpAnyH_take (i := 7) (v := ?_) rfl (by kernel_rfl) (by kernel_rfl) (by kernel_rfl) (fun _ _ _ h => h) (Or.inl ⟨by rfl, ?_⟩) (by assumption) ?_
    rotate_left
    · (intro w hSw; (try dsimp only at hSw); go_simp; (try with_reducible rfl))
    simp only [Act.put, List.getElem_toArray, List.getElem_cons_zero, List.getElem_cons_succ, List.setIfInBounds_toArray, List.set_cons_zero, List.set_cons_succ]
    refine wpAnyH_ready (rs := [8]) (by kernel_rfl) (by simp) ?_
    refine AllReadyH.cons rfl (fun K hK => ?_) AllReadyH.nil
    refine step_copyM rfl _ _ rfl _ _ rfl rfl (hcp2 _ _ _ _ _ _ _ (by omega) (by omega) (by have := HL.out; simp only [Nat.min_def]; split <;> omega)) ?_
    refine hK.out _ _ trivial (fun hHeld2 => ?_)
    clear hK K hHeld
    have hHeld := hHeld2; clear hHeld2
    refine wpAnyH_done (by kernel_rfl) ?_ _
    refine NoPanic.normal ?_
    go_wp2_with fail
    go_ret
    exact ⟨_, rfl, HF.out, HG.out⟩
end Go.Proofs.Ytndkmepdnekigaa
