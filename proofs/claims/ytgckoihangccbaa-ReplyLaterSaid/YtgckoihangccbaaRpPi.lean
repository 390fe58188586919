import Derived.Test.YtgckoihangccbaaRpPe
/-
  The contract of slices.Insert of records in a row of the call's own (stage 13).
-/
namespace Go.Proofs.Ytgckoihangccbaa
open Go.RowKit
set_option linter.unusedVariables false
set_option linter.unusedSimpArgs false

/-- What an insertion leaves. -/
def InsPost (w : World) (base : Nat) (row : Option Nat) (l : List (DnR × Value)) (q : DnR × Value) (i : Nat) (e : Ending) (w' : World) : Prop :=
  ∃ v, e = .returned v ∧ RowD w' base v (l.take i ++ q :: l.drop i) ∧ w.grownBy w' row
theorem ps_one_at {w : World} {vb : Nat} {q : DnR × Value} (h : Blk w vb (.cells #[.int .i64 q.1.client, .int .i64 q.1.id, .int .i64 q.1.rep.errno, .int .i64 q.1.rep.rev, .string q.1.rep.value, q.2] 45 (0, 0))) : IsQs w (some ⟨vb, 0, none⟩) 1 [q] :=
  ⟨rfl, by unfold maxLen; omega, fun _ => ⟨vb, 0, rfl, Blk.lt h, fun i hi => by
    have : i = 0 := by simpa using hi
    subst this
    exact ⟨Blk.cell h 0, Blk.cell h 1, Blk.cell h 2, Blk.cell h 3, Blk.cell h 4, Blk.cell h 5⟩⟩⟩
set_option maxRecDepth 100000 in
set_option maxHeartbeats 8000000 in
theorem insert13_any (l : List (DnR × Value)) (q : DnR × Value) (A : Option Addr) (n cap i base vb : Nat) (w : World) (hrow : RowD w base (.slice A n cap) l) (hn : n = l.length) (hi : i ≤ n) (h20 : n ≤ 20) (hbase : base ≤ w.heap.size)
    (hv : Blk w vb (.cells #[.int .i64 q.1.client, .int .i64 q.1.id, .int .i64 q.1.rep.errno, .int .i64 q.1.rep.rev, .string q.1.rep.value, q.2] 45 (0, 0))) (hq : ∃ E m c, q.2 = .slice E m c) (hvb : (Value.slice A n cap).ownBlock ≠ some vb) (hsl : SlD l) :
    Calls Try.prog 22 #[.slice A n cap, .int .i64 i, .slice (some ⟨vb, 0, none⟩) 1 1] w (InsPost w base (Value.slice A n cap).ownBlock l q i) := by
  have HQ1 : Hid (SlD [q]) := fun p hp => by rw [List.mem_singleton] at hp; rw [hp]; exact hq
  have HPS := Lib.hid (ps_one_at hv)
  have HSL := Lib.hid hsl; clear hsl
  have HN := Lib.hid hn; clear hn
  have HBASE := Lib.hid hbase; clear hbase
  have hcap : n ≤ cap := by
    rcases hrow.2 with ⟨h1, h2⟩ | ⟨g, cp, cur, h1, _, _, h3, _⟩
    · simp only [Value.slice.injEq] at h1; omega
    · simp only [Value.slice.injEq] at h1; have := HN.out; omega
  have hin : (i : Int) ≤ (n : Int) := by omega
  have hi0 : (0 : Int) ≤ (i : Int) := by omega
  rcases Nat.lt_or_eq_of_le hi with hlt | heq
  rotate_left
  · subst heq
    have HRES : Hid (l.take i ++ q :: l.drop i = l ++ [q]) := by show _ = _; rw [HN.out, List.take_length, List.drop_length]
    have HROW := Lib.hid hrow; clear hrow
    obtain ⟨X, hX⟩ : ∃ X, (if cap = i then A else Option.map (fun x => x.add (i * 6)) A) = X := ⟨_, rfl⟩
    clear hvb hq hv
    go_enter Try.func22, Try.ntmps22
    go_wp2_with (at_builtin; refine wpList_append_dn rfl _ _ rfl base _ l rfl HROW.out (some ⟨vb, 0, none⟩) 1 1 [q] rfl HPS.out HQ1.out (by have := HN.out; omega) HBASE.out ?_)
    all_goals
      intro v1 w1 hrow1 hgr1
      have HR1 := Lib.hid hrow1; clear hrow1
      have HG1 := Lib.hid hgr1; clear hgr1
      go_wp2_with fail
      go_ret
      exact ⟨_, rfl, by rw [HRES.out]; exact HR1.out, HG1.out⟩
  obtain ⟨g, hA, hbg⟩ := hrow.at0 (i := i) (by have := HN.out; omega)
  subst hA
  obtain ⟨cur, hb9, hblk, hcs, hcm, hn9, hn8, htk⟩ := hrow.blk
  clear hb9 hn9 hn8
  have hvg : vb ≠ g := fun e => hvb (by rw [e]; rfl)
  have HIL : Hid (i < l.length) := by have := HN.out; show i < _; omega
  have hpre : cur.toList.take (i * 6) = cellsD (l.take i) := by
    rw [← take_cells (Nat.le_of_lt HIL.out), ← htk, List.take_take, Nat.min_eq_left (by omega)]
  have hsuf : (cur.toList.drop (i * 6)).take (cellsD (l.drop i)).length = cellsD (l.drop i) := by
    have hd : (cellsD (l.drop i)).length = (n - i) * 6 := by rw [cellsD_len, List.length_drop, HN.out]
    rw [← drop_cells (Nat.le_of_lt HIL.out), ← htk, List.drop_take, List.length_take, List.length_drop, Array.length_toList, hcs]
    exact congrArg (fun k => (cur.toList.drop (i * 6)).take k) (by simp only [Nat.min_def]; split <;> omega)
  have hd : (cellsD (l.drop i)).length = (n - i) * 6 := by rw [cellsD_len, List.length_drop, HN.out]
  have hone : ∀ v ∈ cellsD (l.drop i), v.oneCell' = true := cellsD_one (fun p hp => HSL.out p (List.mem_of_mem_drop hp))
  obtain ⟨Eq, mq, cq, hq2⟩ := hq
  have hone6 := cells6D_one hq2
  have hvat : DnAt w vb 0 q.1 q.2 := ⟨Blk.cell hv 0, Blk.cell hv 1, Blk.cell hv 2, Blk.cell hv 3, Blk.cell hv 4, Blk.cell hv 5⟩
  have hc1 : ¬ (cap = i) := by omega
  have hz1 : ¬ ((i : Int) = (n : Int)) := by omega
  have hz2 : ((i : Int) == (n : Int)) = false := by rw [beq_eq_false_iff_ne]; exact hz1
  have hwn : IntKind.i64.wrap ((n : Int) + 1) = (n : Int) + 1 := IntWalk.i64_in _ (by omega)
  have hwi : IntKind.i64.wrap ((i : Int) + 1) = (i : Int) + 1 := IntWalk.i64_in _ (by omega)
  by_cases hroom : n + 1 ≤ cap
  · have HFIN : Hid (∀ W : World, Blk W g (.cells cur 45 (0, 0)) → RowD ((W.setCells g ((i + 1) * 6) (cellsD (l.drop i))).setCells g (i * 6) (cells6D q)) base (.slice (some ⟨g, 0, none⟩) (n + 1) cap) (l.take i ++ q :: l.drop i)) := fun W hk => by
      have := rowD_shift (q := q) hbg hk hcs hcm (by have := HN.out; omega) (Nat.le_of_lt HIL.out) hpre
      rw [← HN.out] at this; exact this
    have hov : ∀ (lb cb : Nat), (callFunc 36 #[.slice (some ⟨vb, 0, none⟩) 1 1, .slice (some ⟨g, (i + 1) * 6, none⟩) lb cb]).run Try.prog w = .ok (.value (.bool false)) w := fun lb cb => by
      have hshv : w.shape? vb = some (45, 6) := by unfold World.shape?; rw [show w.heap[vb]? = _ from hv]; rfl
      have hshg : w.shape? g = some (45, cap * 6) := by unfold World.shape?; rw [show w.heap[g]? = _ from hblk]; exact congrArg (fun k => some (45, k)) hcs
      obtain ⟨i0, hi0, _, hs0, _⟩ := info_parts infoD
      rw [run_callFunc_extern Try.func36 (by kernel_rfl) (by kernel_rfl) (by kernel_rfl) (e := Extern.SlicesOverlaps.overlaps #[25, 25] #[4]) (by kernel_rfl),
        Lib.run_overlaps_apart w 25 4 45 Try.underlying25 6 (fun w => by simp [sizeOf, typeInfo, hi0, hs0]) ⟨vb, 0, none⟩ ⟨g, (i + 1) * 6, none⟩ 1 1 lb cb hvg 45 45 6 (cap * 6) hshv hshg (by omega) (Blk.frozen hv 0) (Blk.frozen hv 6)]
      rfl
    have hcp1 : ∀ (ty : TypeId) (o2 dl dc o3 sl sc : Nat), o2 = (i + 1) * 6 → o3 = i * 6 → Nat.min sl dl = n - i → (Builtin.copy_ #[25, 25] ty #[.slice (some ⟨g, o2, none⟩) dl dc, .slice (some ⟨g, o3, none⟩) sl sc]).run Try.prog w.drew = .ok (.int .i64 (n - i : Nat)) (w.drew.setCells g ((i + 1) * 6) (cellsD (l.drop i))) := fun ty o2 dl dc o3 sl sc h2 h3 hm => by
      subst h2 h3
      exact run_copy6D w.drew ty g _ dl dc ⟨g, _, none⟩ sl sc (n - i) _ hm hd (blk_cells (Blk.drew hblk) hsuf) (fun j hj => blk_some (Blk.drew hblk) (by rw [hcs]; omega)) (fun j hj => Blk.frozen (Blk.drew hblk) _) hone
    obtain ⟨W1, hW1⟩ : ∃ W, w.drew.setCells g ((i + 1) * 6) (cellsD (l.drop i)) = W := ⟨_, rfl⟩
    have hblk1 : Blk W1 g (.cells (setsA cur ((i + 1) * 6) (cellsD (l.drop i))) 45 (0, 0)) := by rw [← hW1]; exact blk_sets _ _ _ _ (Blk.drew hblk)
    have hv1 : DnAt W1 vb 0 q.1 q.2 := by
      have hk := gb_sets g (cellsD (l.drop i)) ((i + 1) * 6) w.drew
      rw [hW1] at hk
      have hvk : Blk W1 vb (.cells #[.int .i64 q.1.client, .int .i64 q.1.id, .int .i64 q.1.rep.errno, .int .i64 q.1.rep.rev, .string q.1.rep.value, q.2] 45 (0, 0)) := Blk.kept (Blk.drew hv) hk (fun e => hvg (by cases e; rfl))
      exact ⟨Blk.cell hvk 0, Blk.cell hvk 1, Blk.cell hvk 2, Blk.cell hvk 3, Blk.cell hvk 4, Blk.cell hvk 5⟩
    have hcp2 : ∀ (ty : TypeId) (o2 dl dc sl sc : Nat), o2 = i * 6 → Nat.min sl dl = 1 → (Builtin.copy_ #[25, 25] ty #[.slice (some ⟨g, o2, none⟩) dl dc, .slice (some ⟨vb, 0, none⟩) sl sc]).run Try.prog W1 = .ok (.int .i64 (1 : Nat)) (W1.setCells g (i * 6) (cells6D q)) := fun ty o2 dl dc sl sc h2 hm => by
      subst h2
      exact run_copy6D W1 ty g _ dl dc ⟨vb, 0, none⟩ sl sc 1 _ hm rfl (six_cells hv1) (fun j hj => blk_some hblk1 (by rw [setsA_size, hcs]; rw [cells6D_len] at hj; omega)) (fun j hj => Blk.frozen hblk1 _) hone6
    have HF := Lib.hid (HFIN.out w.drew (Blk.drew hblk))
    rw [hW1] at HF hcp1
    have HG : Hid (w.grownBy (W1.setCells g (i * 6) (cells6D q)) (some g)) := by
      have h1 := gb_sets g (cellsD (l.drop i)) ((i + 1) * 6) w.drew
      rw [hW1] at h1
      exact ((gb_drew w _).trans h1).trans (gb_sets g _ _ _)
    have hb1 : (n : Int) + 1 ≤ (cap : Int) := by omega
    have hb2 : ¬ ((cap : Int) < (n : Int) + 1) := by omega
    have hb3 : (0 : Int) ≤ (n : Int) + 1 := by omega
    have hb4 : (0 : Int) ≤ (i : Int) + 1 := by omega
    have hb5 : (i : Int) + 1 ≤ (n : Int) + 1 := by omega
    have hb6 : (i : Int) ≤ (n : Int) + 1 := by omega
    have hc2 : ¬ (cap = i + 1) := by omega
    have HL : Hid (i < n ∧ n + 1 ≤ cap) := ⟨hlt, hroom⟩
    have HBL := Lib.hid hblk
    have HVV := Lib.hid hv
    have HW1 := Lib.hid hW1
    clear hrow hblk hcs hcm htk hpre hsuf hd hone hone6 hvat hq2 hblk1 hv1 HFIN hW1 hv hvb hbg
    go_enter Try.func22, Try.ntmps22
    go_wp2_with (simp only [hov])
    go_upto_region 15 with (simp only [hov])
    refine wp_region_noPanic ?_
    refine wp_region_held_drew (S := (fun _ => True)) (by kernel_rfl) (trivial) (fun hHeld => ?_)
    refine wpAnyH_take (i := 0) (v := ?_) rfl (by kernel_rfl) (by kernel_rfl) (by kernel_rfl) (fun _ _ _ h => h) (Or.inl ⟨by rfl, ?_⟩) (by assumption) ?_
    rotate_left
    · (intro w hSw; (try dsimp only at hSw); go_simp; (try with_reducible rfl))
    simp only [Act.put, List.getElem_toArray, List.getElem_cons_zero, List.setIfInBounds_toArray, List.set_cons_zero, List.set_cons_succ]
    refine wpAnyH_take (i := 1) (v := ?_) rfl (by kernel_rfl) (by kernel_rfl) (by kernel_rfl) (fun _ _ _ h => h) (Or.inl ⟨by rfl, ?_⟩) (by assumption) ?_
    rotate_left
    · (intro w hSw; (try dsimp only at hSw); go_simp; (try with_reducible rfl))
    simp only [Act.put, List.getElem_toArray, List.getElem_cons_zero, List.getElem_cons_succ, List.setIfInBounds_toArray, List.set_cons_zero, List.set_cons_succ]
    refine wpAnyH_take (i := 2) (v := ?_) rfl (by kernel_rfl) (by kernel_rfl) (by kernel_rfl) (fun _ _ _ h => h) (Or.inl ⟨by rfl, ?_⟩) (by assumption) ?_
    rotate_left
    · (intro w hSw; (try dsimp only at hSw); go_simp; (try with_reducible rfl))
    simp only [Act.put, List.getElem_toArray, List.getElem_cons_zero, List.getElem_cons_succ, List.setIfInBounds_toArray, List.set_cons_zero, List.set_cons_succ]
    refine wpAnyH_take (i := 3) (v := ?_) rfl (by kernel_rfl) (by kernel_rfl) (by kernel_rfl) (fun _ _ _ h => h) (Or.inl ⟨by rfl, ?_⟩) (by assumption) ?_
    rotate_left
    · (intro w hSw; (try dsimp only at hSw); go_simp; (try with_reducible rfl))
    simp only [Act.put, List.getElem_toArray, List.getElem_cons_zero, List.getElem_cons_succ, List.setIfInBounds_toArray, List.set_cons_zero, List.set_cons_succ]
    refine wpAnyH_take (i := 4) (v := ?_) rfl (by kernel_rfl) (by kernel_rfl) (by kernel_rfl) (fun _ _ _ h => h) (Or.inl ⟨by rfl, ?_⟩) (by assumption) ?_
    rotate_left
    · (intro w hSw; (try dsimp only at hSw); go_simp; (try with_reducible rfl))
    simp only [Act.put, List.getElem_toArray, List.getElem_cons_zero, List.getElem_cons_succ, List.setIfInBounds_toArray, List.set_cons_zero, List.set_cons_succ]
    refine wpAnyH_take (i := 5) (v := ?_) rfl (by kernel_rfl) (by kernel_rfl) (by kernel_rfl) (fun _ _ _ h => h) (Or.inl ⟨by rfl, ?_⟩) (by assumption) ?_
    rotate_left
    · (intro w hSw; (try dsimp only at hSw); go_simp; (try with_reducible rfl))
    simp only [Act.put, List.getElem_toArray, List.getElem_cons_zero, List.getElem_cons_succ, List.setIfInBounds_toArray, List.set_cons_zero, List.set_cons_succ]
    refine wpAnyH_take (i := 6) (v := ?_) rfl (by kernel_rfl) (by kernel_rfl) (by kernel_rfl) (fun _ _ _ h => h) (Or.inl ⟨by rfl, ?_⟩) (by assumption) ?_
    rotate_left
    · (intro w hSw; (try dsimp only at hSw); go_simp; (try with_reducible rfl))
    simp only [Act.put, List.getElem_toArray, List.getElem_cons_zero, List.getElem_cons_succ, List.setIfInBounds_toArray, List.set_cons_zero, List.set_cons_succ]
    refine wpAnyH_take (i := 7) (v := ?_) rfl (by kernel_rfl) (by kernel_rfl) (by kernel_rfl) (fun _ _ _ h => h) (Or.inl ⟨by rfl, ?_⟩) (by assumption) ?_
    rotate_left
    · (intro w hSw; (try dsimp only at hSw); go_simp; (try with_reducible rfl))
    simp only [Act.put, List.getElem_toArray, List.getElem_cons_zero, List.getElem_cons_succ, List.setIfInBounds_toArray, List.set_cons_zero, List.set_cons_succ]
    refine wpAnyH_ready (rs := [8]) (by kernel_rfl) (by simp) ?_
    refine AllReadyH.cons rfl (fun K hK => ?_) AllReadyH.nil
    refine step_copy6 rfl _ _ rfl _ _ rfl rfl (hcp1 _ _ _ _ _ _ _ (by omega) (by omega) (by have := HL.out; simp only [Nat.min_def]; split <;> omega)) ?_
    refine hK.out _ _ trivial (fun hHeld2 => ?_)
    clear hK K hHeld
    have hHeld := hHeld2; clear hHeld2
    refine wpAnyH_done (by kernel_rfl) ?_ _
    refine NoPanic.normal ?_
    have hx2 := hcp2 3 (i * 6) (n + 1 - i) (cap - i) 1 1 rfl (by have := HL.out; simp only [Nat.min_def]; split <;> omega)
    clear hcp1 hcp2
    go_wp2_with fail
    go_ret
    exact ⟨_, rfl, HF.out, HG.out⟩
  · have hcn : cap = n := by omega
    subst hcn
    clear hroom hcap
    obtain ⟨i0, hi0, hz0, hs0, hb0⟩ := info_parts infoD
    have hTl : (cellsD (l.take i)).length = i * 6 := by rw [cellsD_len, List.length_take]; have := HIL.out; omega
    have hold : (Builtin.firstCells i0.size i (.slice (some ⟨g, 0, none⟩) i cap)).run Try.prog w.drew = .ok (cellsD (l.take i)).toArray w.drew := by
      rw [hs0]
      refine run_firstCells_some w.drew 6 i ⟨g, 0, none⟩ i cap (cellsD (l.take i)) hTl ?_
      refine blk_cells (Blk.drew hblk) ?_
      rw [List.drop_zero, hTl]; exact hpre
    have hrz : ∀ (ty : TypeId) (k : Int), k = ((cap + 1 - i : Nat) : Int) → (Builtin.append_ #[25, 3] ty #[.slice (some ⟨g, 0, none⟩) i cap, .int .i64 k]).run Try.prog w =
        .ok (.slice (some ⟨w.heap.size, 0, none⟩) (cap + 1) (grownCap w (cap + 1) cap 45)) (w.drew.alloc (.cells ((cellsD (l.take i)).toArray ++ Builtin.zeroCells (Value.agg #[.int .i64 0, .int .i64 0, .int .i64 0, .int .i64 0, .string ⟨#[]⟩, .slice none 0 0]).cells (cap + 1 - i) ++ Builtin.zeroCells (Value.agg #[.int .i64 0, .int .i64 0, .int .i64 0, .int .i64 0, .string ⟨#[]⟩, .slice none 0 0]).cells (grownCap w (cap + 1) cap 45 - (cap + 1))) 45)) := fun ty k hk => by
      subst hk
      have h := Lib.run_append_grow_zeros w 25 3 ty 45 i0 (Value.agg #[.int .i64 0, .int .i64 0, .int .i64 0, .int .i64 0, .string ⟨#[]⟩, .slice none 0 0]) .i64 .i64 Try.underlying25 Try.underlying3 hi0 hz0 (some ⟨g, 0, none⟩) i cap _ hold (cap + 1 - i) (by omega) (by rw [hs0]; omega) (by omega) (by omega)
        (by rw [hb0]; omega)
        (by rw [show i + (cap + 1 - i) = cap + 1 by omega]; exact growslice_fits (by omega) (by rw [hb0]; omega))
      rw [show i + (cap + 1 - i) = cap + 1 by omega] at h
      exact h
    have hGn : cap + 1 ≤ grownCap w (cap + 1) cap 45 := grownCap_ge w _ _ _
    have hG63 : grownCap w (cap + 1) cap 45 ≤ maxLen := grownCap_le_maxLen w _ _ _ (by unfold maxLen; omega)
    obtain ⟨G, hG⟩ : ∃ G, grownCap w (cap + 1) cap 45 = G := ⟨_, rfl⟩
    rw [hG] at hrz hGn hG63
    obtain ⟨Z, hZ⟩ : ∃ Z, (cellsD (l.take i)).toArray ++ Builtin.zeroCells (Value.agg #[.int .i64 0, .int .i64 0, .int .i64 0, .int .i64 0, .string ⟨#[]⟩, .slice none 0 0]).cells (cap + 1 - i) ++ Builtin.zeroCells (Value.agg #[.int .i64 0, .int .i64 0, .int .i64 0, .int .i64 0, .string ⟨#[]⟩, .slice none 0 0]).cells (G - (cap + 1)) = Z := ⟨_, rfl⟩
    rw [hZ] at hrz
    have hZs : Z.size = G * 6 := by
      rw [← hZ]
      simp [size_zeroCells, Value.cells, hTl]
      omega
    have hZp : Z.toList.take (i * 6) = cellsD (l.take i) := by
      rw [← hZ]
      rw [Array.toList_append, Array.toList_append, List.append_assoc, List.toList_toArray, List.take_left' hTl]
    clear hold hZ hG hi0 hz0 hs0 hb0 i0
    obtain ⟨W0, hW0⟩ : ∃ W, w.drew.alloc (.cells Z 45) = W := ⟨_, rfl⟩
    have hzb : Blk W0 w.heap.size (.cells Z 45 (0, 0)) := by rw [← hW0]; exact Blk.new w.drew _
    have hb0 : Below w.heap.size w W0 := by rw [← hW0]; exact ((Below.refl _ w).drew).alloc (Nat.le_refl _) _
    have hv0 : DnAt W0 vb 0 q.1 q.2 := hvat.below hb0
    have hgb0 : Blk W0 g (.cells cur 45 (0, 0)) := Blk.below hblk hb0
    rw [hW0] at hrz
    have hcp1 : ∀ (ty : TypeId) (o2 dl dc sl sc : Nat), o2 = i * 6 → Nat.min sl dl = 1 → (Builtin.copy_ #[25, 25] ty #[.slice (some ⟨w.heap.size, o2, none⟩) dl dc, .slice (some ⟨vb, 0, none⟩) sl sc]).run Try.prog W0 = .ok (.int .i64 (1 : Nat)) (W0.setCells w.heap.size (i * 6) (cells6D q)) := fun ty o2 dl dc sl sc h2 hm => by
      subst h2
      exact run_copy6D W0 ty w.heap.size _ dl dc ⟨vb, 0, none⟩ sl sc 1 _ hm rfl (six_cells hv0) (fun j hj => blk_some hzb (by rw [hZs]; rw [cells6D_len] at hj; omega)) (fun j hj => Blk.frozen hzb _) hone6
    have hgw : g ≠ w.heap.size := by have := Blk.lt hblk; omega
    obtain ⟨W1, hW1⟩ : ∃ W, W0.setCells w.heap.size (i * 6) (cells6D q) = W := ⟨_, rfl⟩
    have hk1 := gb_sets w.heap.size (cells6D q) (i * 6) W0
    have hzb1 : Blk W1 w.heap.size (.cells (setsA Z (i * 6) (cells6D q)) 45 (0, 0)) := by rw [← hW1]; exact blk_sets _ _ _ _ hzb
    rw [hW1] at hk1
    have hgb1 : Blk W1 g (.cells cur 45 (0, 0)) := Blk.kept hgb0 hk1 (fun e => hgw (by cases e; rfl))
    have hcp2 : ∀ (ty : TypeId) (o2 dl dc o3 sl sc : Nat), o2 = (i + 1) * 6 → o3 = i * 6 → Nat.min sl dl = cap - i → (Builtin.copy_ #[25, 25] ty #[.slice (some ⟨w.heap.size, o2, none⟩) dl dc, .slice (some ⟨g, o3, none⟩) sl sc]).run Try.prog W1.drew = .ok (.int .i64 (cap - i : Nat)) (W1.drew.setCells w.heap.size ((i + 1) * 6) (cellsD (l.drop i))) := fun ty o2 dl dc o3 sl sc h2 h3 hm => by
      subst h2 h3
      exact run_copy6D W1.drew ty w.heap.size _ dl dc ⟨g, _, none⟩ sl sc (cap - i) _ hm hd (blk_cells (Blk.drew hgb1) hsuf) (fun j hj => blk_some (Blk.drew hzb1) (by rw [setsA_size, hZs]; omega)) (fun j hj => Blk.frozen (Blk.drew hzb1) _) hone
    have HF : Hid (RowD (W1.drew.setCells w.heap.size ((i + 1) * 6) (cellsD (l.drop i))) base (.slice (some ⟨w.heap.size, 0, none⟩) (cap + 1) G) (l.take i ++ q :: l.drop i)) := by
      have h := rowD_shift2 (q := q) (W := W0.drew) HBASE.out (Blk.drew hzb) hZs hG63 (by have := HN.out; omega) (Nat.le_of_lt HIL.out) hZp
      have e : W0.drew.setCells w.heap.size (i * 6) (cells6D q) = W1.drew := by rw [← hW1]; exact sets_drew _ _ _ _
      rw [e, ← HN.out] at h
      exact h
    have HG : Hid (w.grownBy (W1.drew.setCells w.heap.size ((i + 1) * 6) (cellsD (l.drop i))) (some g)) := by
      have h1 := hb0.trans ((Below.refl W0.heap.size W0).mono hb0.size)
      have hz : ∀ k, k < w.heap.size → (W1.drew.setCells w.heap.size ((i + 1) * 6) (cellsD (l.drop i))).heap[k]? = w.heap[k]? := fun k hk => by
        have h2 := (gb_sets w.heap.size (cellsD (l.drop i)) ((i + 1) * 6) W1.drew).block k (by show k < W1.heap.size; have := hk1.size; have := hb0.size; omega) (by simp; omega)
        have h3 := hk1.block k (by have := hb0.size; omega) (by simp; omega)
        exact h2.trans (h3.trans (hb0.block k hk))
      have hs2 := gb_sets w.heap.size (cellsD (l.drop i)) ((i + 1) * 6) W1.drew
      exact ⟨hs2.os.trans (hk1.os.trans hb0.os), hs2.tape.trans (hk1.tape.trans hb0.tape), hs2.output.trans (hk1.output.trans hb0.output), Nat.le_trans hb0.size (Nat.le_trans hk1.size hs2.size), fun k hk _ => hz k hk⟩
    have hb1 : ¬ ((cap : Int) + 1 ≤ (cap : Int)) := by omega
    have hb2 : (cap : Int) < (cap : Int) + 1 := by omega
    have hws : IntKind.i64.wrap ((cap : Int) + 1 - (i : Int)) = ((cap + 1 - i : Nat) : Int) := by rw [IntWalk.i64_in _ (by omega)]; omega
    have hb4 : (0 : Int) ≤ (i : Int) + 1 := by omega
    have hb5 : (i : Int) + 1 ≤ (cap : Int) + 1 := by omega
    have hb6 : (i : Int) ≤ (cap : Int) + 1 := by omega
    have hb7 : i ≤ cap + 1 := by omega
    have hc2 : ¬ (G = i) := by omega
    have hc3 : ¬ (G = i + 1) := by omega
    have HL : Hid (i < cap ∧ cap + 1 ≤ G) := ⟨hlt, hGn⟩
    have hGG : G ≤ 9223372036854775807 := by unfold maxLen at hG63; omega
    have HV0 := Lib.hid hv0; clear hv0
    rw [hW1] at hcp1
    have HW1 := Lib.hid hW1
    clear hrow hblk hcs hcm htk hpre hsuf hd hone hone6 hvat hq2 hW1 hv hvb hbg hzb hb0 hgb0 hzb1 hgb1 hk1 hgw hW0 hZs hZp hTl hGn hG63
    go_enter Try.func22, Try.ntmps22
    have hx1 := hcp1 3 (i * 6) (cap + 1 - i) (G - i) 1 1 rfl (by have := HL.out; simp only [Nat.min_def]; split <;> omega)
    go_upto_region 9 with fail
    go_upto_region 10 with (at_builtin; refine Lib.wpList_append_run _ rfl _ _ _ _ rfl _ _ rfl rfl _ _ (hrz _ _ rfl) ?_)
    go_upto_region 11 with fail
    clear hx1
    refine wp_region_noPanic ?_
    refine wp_region_held_drew (S := (fun _ => True)) (by kernel_rfl) (trivial) (fun hHeld => ?_)
    refine wpAnyH_take (i := 0) (v := ?_) rfl (by kernel_rfl) (by kernel_rfl) (by kernel_rfl) (fun _ _ _ h => h) (Or.inl ⟨by rfl, ?_⟩) (by assumption) ?_
    rotate_left
    · (intro w hSw; (try dsimp only at hSw); go_simp; (try with_reducible rfl))
    simp only [Act.put, List.getElem_toArray, List.getElem_cons_zero, List.setIfInBounds_toArray, List.set_cons_zero, List.set_cons_succ]
    refine wpAnyH_take (i := 1) (v := ?_) rfl (by kernel_rfl) (by kernel_rfl) (by kernel_rfl) (fun _ _ _ h => h) (Or.inl ⟨by rfl, ?_⟩) (by assumption) ?_
    rotate_left
    · (intro w hSw; (try dsimp only at hSw); go_simp; (try with_reducible rfl))
    simp only [Act.put, List.getElem_toArray, List.getElem_cons_zero, List.getElem_cons_succ, List.setIfInBounds_toArray, List.set_cons_zero, List.set_cons_succ]
    refine wpAnyH_take (i := 2) (v := ?_) rfl (by kernel_rfl) (by kernel_rfl) (by kernel_rfl) (fun _ _ _ h => h) (Or.inl ⟨by rfl, ?_⟩) (by assumption) ?_
    rotate_left
    · (intro w hSw; (try dsimp only at hSw); go_simp; (try with_reducible rfl))
    simp only [Act.put, List.getElem_toArray, List.getElem_cons_zero, List.getElem_cons_succ, List.setIfInBounds_toArray, List.set_cons_zero, List.set_cons_succ]
    refine wpAnyH_take (i := 3) (v := ?_) rfl (by kernel_rfl) (by kernel_rfl) (by kernel_rfl) (fun _ _ _ h => h) (Or.inl ⟨by rfl, ?_⟩) (by assumption) ?_
    rotate_left
    · (intro w hSw; (try dsimp only at hSw); go_simp; (try with_reducible rfl))
    simp only [Act.put, List.getElem_toArray, List.getElem_cons_zero, List.getElem_cons_succ, List.setIfInBounds_toArray, List.set_cons_zero, List.set_cons_succ]
    refine wpAnyH_take (i := 4) (v := ?_) rfl (by kernel_rfl) (by kernel_rfl) (by kernel_rfl) (fun _ _ _ h => h) (Or.inl ⟨by rfl, ?_⟩) (by assumption) ?_
    rotate_left
    · (intro w hSw; (try dsimp only at hSw); go_simp; (try with_reducible rfl))
    simp only [Act.put, List.getElem_toArray, List.getElem_cons_zero, List.getElem_cons_succ, List.setIfInBounds_toArray, List.set_cons_zero, List.set_cons_succ]
    refine wpAnyH_take (i := 5) (v := ?_) rfl (by kernel_rfl) (by kernel_rfl) (by kernel_rfl) (fun _ _ _ h => h) (Or.inl ⟨by rfl, ?_⟩) (by assumption) ?_
    rotate_left
    · (intro w hSw; (try dsimp only at hSw); go_simp; (try with_reducible rfl))
    simp only [Act.put, List.getElem_toArray, List.getElem_cons_zero, List.getElem_cons_succ, List.setIfInBounds_toArray, List.set_cons_zero, List.set_cons_succ]
    refine wpAnyH_take (i := 6) (v := ?_) rfl (by kernel_rfl) (by kernel_rfl) (by kernel_rfl) (fun _ _ _ h => h) (Or.inl ⟨by rfl, ?_⟩) (by assumption) ?_
    rotate_left
    · (intro w hSw; (try dsimp only at hSw); go_simp; (try with_reducible rfl))
    simp only [Act.put, List.getElem_toArray, List.getElem_cons_zero, List.getElem_cons_succ, List.setIfInBounds_toArray, List.set_cons_zero, List.set_cons_succ]
    refine wpAnyH_take (i := 7) (v := ?_) rfl (by kernel_rfl) (by kernel_rfl) (by kernel_rfl) (fun _ _ _ h => h) (Or.inl ⟨by rfl, ?_⟩) (by assumption) ?_
    rotate_left
    · (intro w hSw; (try dsimp only at hSw); go_simp; (try with_reducible rfl))
    simp only [Act.put, List.getElem_toArray, List.getElem_cons_zero, List.getElem_cons_succ, List.setIfInBounds_toArray, List.set_cons_zero, List.set_cons_succ]
    refine wpAnyH_ready (rs := [8]) (by kernel_rfl) (by simp) ?_
    refine AllReadyH.cons rfl (fun K hK => ?_) AllReadyH.nil
    refine step_copy6 rfl _ _ rfl _ _ rfl rfl (hcp2 _ _ _ _ _ _ _ (by omega) (by omega) (by have := HL.out; simp only [Nat.min_def]; split <;> omega)) ?_
    refine hK.out _ _ trivial (fun hHeld2 => ?_)
    clear hK K hHeld
    have hHeld := hHeld2; clear hHeld2
    refine wpAnyH_done (by kernel_rfl) ?_ _
    refine NoPanic.normal ?_
    go_wp2_with fail
    go_ret
    exact ⟨_, rfl, HF.out, HG.out⟩
end Go.Proofs.Ytgckoihangccbaa
