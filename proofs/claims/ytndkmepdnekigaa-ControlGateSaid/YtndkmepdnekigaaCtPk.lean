import Derived.Test.YtndkmepdnekigaaCtPi
import Derived.Laws.MakeOwn
import Derived.Laws.EntriesVeiled
/-
  The contracts of slices.Repeat of one place, of the program's own New and Join (stage 18).
-/
namespace Go.Proofs.Ytndkmepdnekigaa
open Go.RowKit Go.Lib
set_option linter.unusedVariables false
set_option linter.unusedSimpArgs false

set_option maxRecDepth 100000 in
set_option maxHeartbeats 8000000 in
theorem mul64_any (k : Nat) (hk : 1 ≤ k ∧ k ≤ 8) (w : World) : Calls Try.prog 74 #[.int .u64 1, .int .u64 k] w fun e w' => e = .returned (.tuple #[.int .u64 0, .int .u64 k]) ∧ w = w' := by
  rcases (by omega : k = 1 ∨ k = 2 ∨ k = 3 ∨ k = 4 ∨ k = 5 ∨ k = 6 ∨ k = 7 ∨ k = 8) with rfl | rfl | rfl | rfl | rfl | rfl | rfl | rfl
  all_goals
    go_enter Try.func74, Try.ntmps74
    go_wp2_with fail
    go_ret2
    exact ⟨rfl, rfl⟩
set_option maxRecDepth 100000 in
set_option maxHeartbeats 8000000 in
theorem mulB_any (k : Nat) (hk : 1 ≤ k ∧ k ≤ 8) (w : World) : Calls Try.prog 61 #[.int .u64 1, .int .u64 k] w fun e w' => e = .returned (.tuple #[.int .u64 0, .int .u64 k]) ∧ w = w' := by
  have q := fun W => mul64_any k hk W
  have e1 : IntKind.u64.wrap (k : Int) = (k : Int) := by rw [IntKind.wrap_u64]; omega
  go_enter Try.func61, Try.ntmps61
  go_wp2_with fail
  ((with_reducible refine (q _).mono ?_); rintro e W1 ⟨rfl, rfl⟩)
  go_wp2_with fail
  go_ret2
  exact ⟨rfl, rfl⟩
/-- 'copy(d, x)' of places, both in blocks whose cells are known. -/
theorem run_copyP (w : World) (ty : TypeId) (b o dLen dCap : Nat) (a : Addr) (sLen sCap k : Nat) (cs : List Value) (hk : Nat.min sLen dLen = k) (hn : cs.length = k * 3)
    (hsrc : ∀ j v, cs[j]? = some v → w.cell? (a.add j) = some v) (hc : ∀ j, j < cs.length → (w.cell? ⟨b, o + j, none⟩).isSome = true) (hf : ∀ j, j < cs.length → w.frozen? ⟨b, o + j, none⟩ = false) (h1 : ∀ v ∈ cs, v.oneCell' = true) :
    (Builtin.copy_ #[24, 24] ty #[.slice (some ⟨b, o, none⟩) dLen dCap, .slice (some a) sLen sCap]).run Try.prog w = .ok (.int .i64 k) (w.setCells b o cs) := by
  obtain ⟨i0, hi, _, hz1, _⟩ := info_parts infoP9
  have hl := run_loadCells_list (P := Try.prog) w a cs hsrc
  have hst := run_storeCells_cells (P := Try.prog) b o cs 0 w (by simpa using hc) (by simpa using hf) h1
  rw [hn] at hl
  simp [Builtin.copy_, run_underlying Try.underlying24, Builtin.lenOf, Builtin.firstCells, sizeOf, typeInfo, hi, hz1, hk, hl, hst, goInt]
/-- A builtin's call whose run is known. -/
theorem wpList_copyP {w : World} {ops : Array Oper} {rest : List Oper} {o : Oper} {a : Act} {Q : Exit → Act → World → Prop} (hgd : o.guard = none) (d x : Operand)
    (ho : o.op = .call { callee := .builtin .copy, args := #[d, x], argTypes := #[24, 24] }) (v u : Value) (hd : a.eval d = v) (hx : a.eval x = u) {v1 : Value} {w1 : World}
    (hr : (Builtin.copy_ #[24, 24] o.type #[v, u]).run Try.prog w = .ok v1 w1) (h : wpList Try.prog ops Q rest (a.put o.dst v1) w1) : wpList Try.prog ops Q (o :: rest) a w := by
  refine wpList_plain hgd fun K hK => ?_
  unfold Oper.wp execOp
  simp only [ho, resolve, invoke, builtin, Sem.run_bind, Sem.run_pure, Result.andThen_ok, List.map_toArray, List.map_cons, List.map_nil, hd, hx, hr]
  exact hK _ _ h
theorem step_copyP {w : World} {ops : Array Oper} {o : Oper} {a : Act} {K : Act → World → Prop} {Q : Exit → Act → World → Prop} {E : Prop} (hgd : o.guard = none) (d x : Operand)
    (ho : o.op = .call { callee := .builtin .copy, args := #[d, x], argTypes := #[24, 24] }) (v u : Value) (hd : a.eval d = v) (hx : a.eval x = u) {v1 : Value} {w1 : World}
    (hr : (Builtin.copy_ #[24, 24] o.type #[v, u]).run Try.prog w = .ok v1 w1) (h : K (a.put o.dst v1) w1) :
    if Region.wanted o (yielded ops a.tmps) = true then Oper.wp Try.prog o a w K Q else E := by
  have hw : Region.wanted o (yielded ops a.tmps) = true := by simp [Region.wanted, hgd]
  rw [if_pos hw]
  unfold Oper.wp execOp
  simp only [ho, resolve, invoke, builtin, Sem.run_bind, Sem.run_pure, Result.andThen_ok, List.map_toArray, List.map_cons, List.map_nil, hd, hx, hr]
  exact h
theorem rowG_kept9 {α : Type} {S : Shp α} {T : TypeId} {w w' : World} {base : Nat} {v : Value} {l : List α} {row : Option Nat} (h : RowG S T w base v l) (hg : w.grownBy w' row) (hne : ∀ g, v.ownBlock = some g → row ≠ some g) : RowG S T w' base v l := by
  refine ⟨h.1, h.2.imp id ?_⟩
  rintro ⟨g, cap, cur, h1, h2, h3, h4⟩
  exact ⟨g, cap, cur, h1, h2, Blk.kept h3 hg (fun e => hne g (by rw [h1]; rfl) e.symm), h4⟩
theorem repl_cells (p : PlR) (n : Nat) : cellsG s3 (List.replicate (n + 1) p) = cellsG s3 (List.replicate n p) ++ s3.f p := by
  rw [List.replicate_succ', cellsG_append]
  unfold cellsG; simp
theorem repl_cells2 (p : PlR) (n j : Nat) : cellsG s3 (List.replicate (n + j) p) = cellsG s3 (List.replicate n p) ++ cellsG s3 (List.replicate j p) := by
  rw [← List.replicate_append_replicate, cellsG_append]
theorem repl_len (p : PlR) (n : Nat) : (cellsG s3 (List.replicate n p)).length = n * 3 := by rw [cellsG_len, List.length_replicate]; rfl
theorem repl_take (p : PlR) {n j : Nat} (h : j ≤ n) : (cellsG s3 (List.replicate n p)).take (j * 3) = cellsG s3 (List.replicate j p) := by
  obtain ⟨d, rfl⟩ : ∃ d, n = j + d := ⟨n - j, by omega⟩
  rw [repl_cells2, List.take_left' (repl_len p j)]
/-- A block whose first cells are those of so many places. -/
def RepB (W : World) (g k n : Nat) (p : PlR) : Prop := ∃ cur : Array Value, Blk W g (.cells cur 48 (0, 0)) ∧ cur.size = k * 3 ∧ cur.toList.take (n * 3) = cellsG s3 (List.replicate n p)
theorem repB_is {W : World} {g k n : Nat} {p : PlR} (h : RepB W g k n p) (hn : n ≤ 8) : IsG s3 W (some ⟨g, 0, none⟩) n (List.replicate n p) := by
  obtain ⟨cur, hb, hs, ht⟩ := h
  refine ⟨by simp, by unfold maxLen; omega, fun h0 => ⟨g, 0, rfl, Blk.lt hb, fun i x hi j v hv => ?_⟩⟩
  have hl := (List.getElem?_eq_some_iff.1 hi).1
  rw [List.length_replicate] at hl
  have hj : j < 3 := (List.getElem?_eq_some_iff.1 hv).1
  have hc := cellsG_at (S := s3) hi j hj
  rw [← ht, List.getElem?_take, if_pos (by show i * 3 + j < _; omega), Array.getElem?_toList] at hc
  rw [Blk.cell hb, Nat.zero_add, ← hv]
  exact hc
/-- Both steps: the first place, and as many as there are again. -/
theorem repB_sets {W : World} {g k n j : Nat} {p : PlR} (h : RepB W g k n p) (hj : n + j ≤ k) : RepB (W.setCells g (n * 3) (cellsG s3 (List.replicate j p))) g k (n + j) p := by
  obtain ⟨cur, hb, hs, ht⟩ := h
  have hl := repl_len p j
  refine ⟨_, blk_sets _ _ _ _ hb, by rw [setsA_size]; exact hs, ?_⟩
  rw [setsA_list _ _ _ (by rw [hl]; omega), ht, repl_cells2, ← List.append_assoc, List.take_left' (by rw [List.length_append, repl_len, hl]; omega)]
theorem repB_new {W : World} {g k : Nat} {p : PlR} {cur : Array Value} (hb : Blk W g (.cells cur 48 (0, 0))) (hs : cur.size = k * 3) : RepB W g k 0 p := ⟨cur, hb, hs, by simp [cellsG]⟩
theorem repB_src {W : World} {g k n j : Nat} {p : PlR} (h : RepB W g k n p) (hj : j ≤ n) : ∀ i v, (cellsG s3 (List.replicate j p))[i]? = some v → W.cell? ((⟨g, 0, none⟩ : Addr).add i) = some v := by
  obtain ⟨cur, hb, hs, ht⟩ := h
  refine blk_cells hb ?_
  rw [List.drop_zero, repl_len, ← repl_take p hj, ← ht, List.take_take, Nat.min_eq_left (by omega)]
theorem repB_dst {W : World} {g k n : Nat} {p : PlR} (h : RepB W g k n p) (o : Nat) (m : Nat) (hm : o + m ≤ k * 3) : (∀ i, i < m → (W.cell? ⟨g, o + i, none⟩).isSome = true) ∧ ∀ i, i < m → W.frozen? ⟨g, o + i, none⟩ = false := by
  obtain ⟨cur, hb, hs, ht⟩ := h
  exact ⟨fun i hi => blk_some hb (by omega), fun i hi => Blk.frozen hb _⟩
set_option maxRecDepth 100000 in
set_option maxHeartbeats 8000000 in
theorem repeat9_any (p : PlR) (gb k : Nat) (hk : 1 ≤ k ∧ k ≤ 8) (w : World) (hg : Blk w gb (.cells #[.int .i64 p.1, .int .i64 p.2.1, .int .i64 p.2.2] 48 (0, 0))) :
    Calls Try.prog 34 #[.slice (some ⟨gb, 0, none⟩) 1 1, .int .i64 k] w fun e w' => ∃ A cap, e = .returned (.slice A k cap) ∧ k ≤ cap ∧ IsG s3 w' A k (List.replicate k p) ∧ Below w.heap.size w w' := by
  have q := fun W => mulB_any k hk W
  have e1 : IntKind.u64.wrap (k : Int) = (k : Int) := by rw [IntKind.wrap_u64]; omega
  have e2 : IntKind.i64.wrap (k : Int) = (k : Int) := IntWalk.i64_in _ (by omega)
  have k0 : ¬ (k : Int) < 0 := by omega
  have k1 : decide ((9223372036854775807 : Int) < (k : Int)) = false := decide_eq_false (by omega)
  obtain ⟨i0, hi, hz0, hz1, hz2⟩ := info_parts infoP9
  have hmk := run_makeSlice (P := Try.prog) (w := w) 24 48 i0 _ Try.underlying24 hi hz0 .i64 .i64 (k : Int) (k : Int) (by omega) (Int.le_refl _) (by rw [hz1]; omega) (by rw [hz2]; omega) (by omega)
  simp only [Int.toNat_natCast] at hmk
  have hzs : (madeCells (Value.agg #[.int .i64 0, .int .i64 0, .int .i64 0]).cells (k * i0.size)).size = k * 3 := by rw [size_madeCells, hz1]
  generalize madeCells (Value.agg #[.int .i64 0, .int .i64 0, .int .i64 0]).cells (k * i0.size) = Z at *
  clear hi hz0 hz1 hz2 i0
  have hbw := ba9 w (.cells Z 48)
  have hr0 : RepB (w.alloc (.cells Z 48)) w.heap.size k 0 p := repB_new (Blk.new w _) hzs
  have hg1 := Blk.below hg hbw
  have hne : gb ≠ w.heap.size := by have := Blk.lt hg; omega
  obtain ⟨W1, hW1⟩ : ∃ X, w.alloc (.cells Z 48) = X := ⟨_, rfl⟩
  rw [hW1] at hmk hbw hr0 hg1
  have hd1 := repB_dst hr0 0 3 (by omega)
  have hcp1 : ∀ (ty : TypeId), (Builtin.copy_ #[24, 24] ty #[.slice (some ⟨w.heap.size, 0, none⟩) k k, .slice (some ⟨gb, 0, none⟩) 1 1]).run Try.prog W1 = .ok (.int .i64 (1 : Nat)) (W1.setCells w.heap.size 0 (cellsG s3 (List.replicate 1 p))) := fun ty =>
    run_copyP W1 ty w.heap.size 0 k k ⟨gb, 0, none⟩ 1 1 1 (cellsG s3 (List.replicate 1 p)) (by simp only [Nat.min_def]; split <;> omega) (by rw [repl_len]) (blk_cells hg1 (by rfl)) (fun j hj => hd1.1 j (by rw [repl_len] at hj; omega)) (fun j hj => hd1.2 j (by rw [repl_len] at hj; omega)) (cellsG_one _)
  have hr1 := repB_sets (j := 1) hr0 (by omega)
  rw [Nat.zero_mul, Nat.zero_add] at hr1
  have hb1 : Below w.heap.size w (W1.setCells w.heap.size 0 (cellsG s3 (List.replicate 1 p))) := hbw.grown (gb_sets w.heap.size _ 0 W1) hbw.size (fun g e => by cases e; exact Nat.le_refl _)
  obtain ⟨W2, hW2⟩ : ∃ X, W1.setCells w.heap.size 0 (cellsG s3 (List.replicate 1 p)) = X := ⟨_, rfl⟩
  rw [hW2] at hcp1 hr1 hb1
  clear hd1 hr0 hg1 hW1 hW2 hzs hbw hg
  have HR1 := Lib.hid hr1; clear hr1
  have HB1 := Lib.hid hb1; clear hb1
  have HK := Lib.hid hk
  clear hk
  go_enter Try.func34, Try.ntmps34
  go_wp2_with fail
  ((with_reducible refine (q _).mono ?_); rintro e V ⟨rfl, rfl⟩)
  clear q
  go_wp2_with fail
  clear hmk hcp1 k1
  generalize hgs : w.heap.size = g at *
  have HGS := Lib.hid hgs; clear hgs
  go_loopw [8] (fun i wy => ∃ (n : Nat) (wr : World), wr = wy ∧ 1 ≤ n ∧ n ≤ k ∧ i = .int .i64 n ∧ Hid (RepB wr g k n p) ∧ Hid (Below g w wr)) (fun i _ => k - (intOf i).toNat)
  case atStart => exact ⟨1, _, rfl, Nat.le_refl _, HK.out.1, rfl, HR1, HB1⟩
  case round =>
    obtain ⟨n, wr, rfl, hn1, hnk, rfl, HR, HB⟩ := hrel
    by_cases hlt : n < k
    · have hne2 : ¬ (k = n) := by omega
      have HJ : Hid (1 ≤ Nat.min n (k - n) ∧ Nat.min n (k - n) ≤ n ∧ n + Nat.min n (k - n) ≤ k) := by
        show _ ∧ _
        simp only [Nat.min_def]
        split <;> omega
      have HJD : Hid (Nat.min n (k - n) = Nat.min n (k - n)) := rfl
      have HMIN : Hid (∀ x y, x = n → y = k - n → Nat.min x y = Nat.min n (k - n)) := fun x y h1 h2 => by rw [h1, h2]
      obtain ⟨j, hj⟩ : ∃ j, Nat.min n (k - n) = j := ⟨_, rfl⟩
      rw [hj] at HJ HMIN
      clear hj HJD
      have hd := fun V (h : RepB V g k n p) => repB_dst h (n * 3) (j * 3) (by have := HJ.out; omega)
      have hcp : ∀ (ty : TypeId) (o2 dl dc sl sc : Nat), o2 = n * 3 → Nat.min sl dl = j → (Builtin.copy_ #[24, 24] ty #[.slice (some ⟨g, o2, none⟩) dl dc, .slice (some ⟨g, 0, none⟩) sl sc]).run Try.prog wr.drew = .ok (.int .i64 (j : Nat)) (wr.drew.setCells g (n * 3) (cellsG s3 (List.replicate j p))) := fun ty o2 dl dc sl sc h2 hm => by
        subst h2
        have hR : RepB wr.drew g k n p := by obtain ⟨cur, h1, h2⟩ := HR.out; exact ⟨cur, Blk.drew h1, h2⟩
        exact run_copyP wr.drew ty g (n * 3) dl dc ⟨g, 0, none⟩ sl sc j (cellsG s3 (List.replicate j p)) hm (by rw [repl_len]) (repB_src hR HJ.out.2.1) (fun i hi => (hd _ hR).1 i (by rw [repl_len] at hi; exact hi)) (fun i hi => (hd _ hR).2 i (by rw [repl_len] at hi; exact hi)) (cellsG_one _)
      have hr2 : RepB (wr.drew.setCells g (n * 3) (cellsG s3 (List.replicate j p))) g k (n + j) p := repB_sets (by obtain ⟨cur, h1, h2⟩ := HR.out; exact ⟨cur, Blk.drew h1, h2⟩) HJ.out.2.2
      have hb2 : Below g w (wr.drew.setCells g (n * 3) (cellsG s3 (List.replicate j p))) := HB.out.drew.grown (gb_sets g _ _ _) (by have := Nat.lt_of_lt_of_le (Nat.lt_succ_self _) (Nat.succ_le_of_lt (by obtain ⟨cur, h1, _⟩ := HR.out; exact Blk.lt h1)); exact Nat.le_of_lt this) (fun g2 e => by cases e; exact Nat.le_refl _)
      have HR2 := Lib.hid hr2; clear hr2
      have HB2 := Lib.hid hb2; clear hb2 hd
      have HL : Hid (n < k) := hlt
      have hnk1 : (n : Int) < (k : Int) := by omega
      have hnk2 : (n : Int) ≤ (k : Int) := by omega
      have hn0 : (0 : Int) ≤ (n : Int) := by omega
      have hwj : IntKind.i64.wrap ((n : Int) + (j : Int)) = (n : Int) + (j : Int) := IntWalk.i64_in _ (by have := HJ.out; have := HK.out; omega)
      go_upto_region 9 with fail
      refine wp_region_noPanic ?_
      refine wp_region_held_drew (S := (fun _ => True)) (by kernel_rfl) (trivial) (fun hHeld => ?_)
      refine wpAnyH_take (i := 0) (v := ?_) rfl (by kernel_rfl) (by kernel_rfl) (by kernel_rfl) (fun _ _ _ h => h) (Or.inl ⟨by rfl, ?_⟩) (by assumption) ?_
      rotate_left
      · (intro w hSw; (try dsimp only at hSw); go_simp; (try with_reducible rfl))
      simp only [Act.put, List.getElem_toArray, List.getElem_cons_zero, List.setIfInBounds_toArray, List.set_cons_zero, List.set_cons_succ]
      refine wpAnyH_take (i := 1) (v := ?_) rfl (by kernel_rfl) (by kernel_rfl) (by kernel_rfl) (fun _ _ _ h => h) (Or.inl ⟨by rfl, ?_⟩) (by assumption) ?_
      rotate_left
      · (intro w hSw; (try dsimp only at hSw); go_simp; (try with_reducible rfl))
      simp only [Act.put, List.getElem_toArray, List.getElem_cons_zero, List.getElem_cons_succ, List.setIfInBounds_toArray, List.set_cons_zero, List.set_cons_succ]
      refine wpAnyH_take (i := 2) (v := ?_) rfl (by kernel_rfl) (by kernel_rfl) (by kernel_rfl) (fun _ _ _ h => h) (Or.inl ⟨by rfl, ?_⟩) (by assumption) ?_
      rotate_left
      · (intro w hSw; (try dsimp only at hSw); go_simp; (try with_reducible rfl))
      simp only [Act.put, List.getElem_toArray, List.getElem_cons_zero, List.getElem_cons_succ, List.setIfInBounds_toArray, List.set_cons_zero, List.set_cons_succ]
      refine wpAnyH_take (i := 3) (v := ?_) rfl (by kernel_rfl) (by kernel_rfl) (by kernel_rfl) (fun _ _ _ h => h) (Or.inl ⟨by rfl, ?_⟩) (by assumption) ?_
      rotate_left
      · (intro w hSw; (try dsimp only at hSw); go_simp; (try with_reducible rfl))
      simp only [Act.put, List.getElem_toArray, List.getElem_cons_zero, List.getElem_cons_succ, List.setIfInBounds_toArray, List.set_cons_zero, List.set_cons_succ]
      refine wpAnyH_take (i := 4) (v := ?_) rfl (by kernel_rfl) (by kernel_rfl) (by kernel_rfl) (fun _ _ _ h => h) (Or.inl ⟨by rfl, ?_⟩) (by assumption) ?_
      rotate_left
      · (intro w hSw; (try dsimp only at hSw); go_simp; (try with_reducible rfl))
      simp only [Act.put, List.getElem_toArray, List.getElem_cons_zero, List.getElem_cons_succ, List.setIfInBounds_toArray, List.set_cons_zero, List.set_cons_succ]
      refine wpAnyH_take (i := 5) (v := ?_) rfl (by kernel_rfl) (by kernel_rfl) (by kernel_rfl) (fun _ _ _ h => h) (Or.inl ⟨by rfl, ?_⟩) (by assumption) ?_
      rotate_left
      · (intro w hSw; (try dsimp only at hSw); go_simp; (try with_reducible rfl))
      simp only [Act.put, List.getElem_toArray, List.getElem_cons_zero, List.getElem_cons_succ, List.setIfInBounds_toArray, List.set_cons_zero, List.set_cons_succ]
      refine wpAnyH_take (i := 6) (v := ?_) rfl (by kernel_rfl) (by kernel_rfl) (by kernel_rfl) (fun _ _ _ h => h) (Or.inl ⟨by rfl, ?_⟩) (by assumption) ?_
      rotate_left
      · (intro w hSw; (try dsimp only at hSw); go_simp; (try with_reducible rfl))
      simp only [Act.put, List.getElem_toArray, List.getElem_cons_zero, List.getElem_cons_succ, List.setIfInBounds_toArray, List.set_cons_zero, List.set_cons_succ]
      refine wpAnyH_ready (rs := [7]) (by kernel_rfl) (by simp) ?_
      refine AllReadyH.cons rfl (fun K hK => ?_) AllReadyH.nil
      refine step_copyP rfl _ _ rfl _ _ rfl rfl (hcp _ (n * 3) (k - n) (k - n) n k rfl (HMIN.out _ _ rfl rfl)) ?_
      refine hK.out _ _ trivial (fun hHeld2 => ?_)
      clear hK K hHeld
      have hHeld := hHeld2; clear hHeld2
      refine wpAnyH_take (i := 8) (v := ?_) rfl (by kernel_rfl) (by kernel_rfl) (by kernel_rfl) (fun _ _ _ h => h) (Or.inl ⟨by rfl, ?_⟩) (by assumption) ?_
      rotate_left
      · (intro w hSw; (try dsimp only at hSw); go_simp; (try with_reducible rfl))
      simp only [Act.put, List.getElem_toArray, List.getElem_cons_zero, List.getElem_cons_succ, List.setIfInBounds_toArray, List.set_cons_zero, List.set_cons_succ]
      refine wpAnyH_take (i := 9) (v := ?_) rfl (by kernel_rfl) (by kernel_rfl) (by kernel_rfl) (fun _ _ _ h => h) (Or.inl ⟨by rfl, ?_⟩) (by assumption) ?_
      rotate_left
      · (intro w hSw; (try dsimp only at hSw); go_simp; (try with_reducible rfl))
      simp only [Act.put, List.getElem_toArray, List.getElem_cons_zero, List.getElem_cons_succ, List.setIfInBounds_toArray, List.set_cons_zero, List.set_cons_succ]
      refine wpAnyH_done (by kernel_rfl) ?_ _
      refine NoPanic.normal ?_
      skip
      go_wp2_with fail
      go_roundw
      case rel => exact ⟨n + j, _, rfl, by omega, HJ.out.2.2, by go_num, HR2, HB2⟩
      case measure => have := HJ.out; have := HL.out; simp [intOf]; omega
    · have hke : n = k := by omega
      subst hke
      clear hlt
      go_wp2_with fail
      go_ret
      exact ⟨_, _, rfl, Nat.le_refl _, repB_is HR.out HK.out.2, by rw [HGS.out]; exact HB.out⟩
set_option maxRecDepth 100000 in
set_option maxHeartbeats 8000000 in
theorem joinC9_any : JoinC9 := by
  intro c A B n cap m cm x b w harg hwx hwb
  have h := harg.1
  have HX := Blk.below (Blk.new w (ctB c A n cap B m cm)) (ba9 (w.alloc (ctB c A n cap B m cm)) (.cells #[.int .i64 0, .slice none 0 0, .slice none 0 0] 26))
  have HZ := Blk.new (w.alloc (ctB c A n cap B m cm)) (.cells #[.int .i64 0, .slice none 0 0, .slice none 0 0] 26)
  rw [World.size_alloc] at HZ
  have HB := (ba9 w (ctB c A n cap B m cm)).alloc (ba9 w (ctB c A n cap B m cm)).size (.cells #[.int .i64 0, .slice none 0 0, .slice none 0 0] 26)
  have HI : IsG s2 _ A n c.mem ∧ IsG s3 _ B m c.pl := h.below HB
  have HAP : ApartN (w.heap.size + 1) A n ∧ ApartN (w.heap.size + 1) B m := ⟨h.1.apart (Nat.le_succ _), h.2.apart (Nat.le_succ _)⟩
  obtain ⟨W, hW⟩ : ∃ W, (w.alloc (ctB c A n cap B m cm)).alloc (.cells #[.int .i64 0, .slice none 0 0, .slice none 0 0] 26) = W := ⟨_, rfl⟩
  rw [hW] at HX HZ HB HI
  have HXX := Lib.hid HX; clear HX
  have HZZ := Lib.hid HZ; clear HZ
  have HBB := Lib.hid HB; clear HB
  have HII := Lib.hid HI; clear HI
  have HAPP := Lib.hid HAP; clear HAP
  have HC : Hid (n ≤ cap ∧ m ≤ cm) := ⟨harg.2.2.1, harg.2.2.2.1⟩
  have HARG := Lib.hid harg.2; clear harg
  have HNM : Hid (n = c.mem.length ∧ m = c.pl.length) := ⟨h.1.1, h.2.1⟩
  have hnm := h.1.2.1
  have hmm := h.2.2.1
  unfold maxLen at hnm hmm
  clear h
  have qr := fun V (hb : Below W.heap.size W V) => rightC9_any c A B n cap m cm V ⟨IsCt.below HII.out hb, HARG.out⟩
  have z0 := Blk.cell HXX.out 0
  have z1 := Blk.cell HXX.out 1
  have z2 := Blk.cell HXX.out 2
  simp only [List.getElem?_toArray, List.getElem?_cons_zero, List.getElem?_cons_succ] at z0 z1 z2
  go_enter Try.func22, Try.ntmps22
  go_upto_region 1 with fail
  try rw [hW]
  clear hW
  have HNO : Hid (rightC c = false ∨ wi9 x 1 100 = false ∨ ver9 b = false ∨ (rightC c = true ∧ isMem c.mem x) → joinC c x b = (c, 1)) := fun h => by
    unfold joinC
    rw [if_pos]
    rcases h with h | h | h | h
    · exact .inl (by unfold rightC at h; exact of_decide_eq_false h)
    · have := of_decide_eq_false h
      by_cases h2 : x < 1
      · exact .inr (.inl h2)
      · exact .inr (.inr (.inl (by omega)))
    · refine .inr (.inr (.inr (.inl ?_)))
      unfold ver9 at h
      simpa using h
    · exact .inr (.inr (.inr (.inr h.2)))
  have HGO : Hid (rightC c = true → wi9 x 1 100 = true → ver9 b = true → ¬ isMem c.mem x → RightC c ∧ (b = 1 ∨ b = 2) ∧ joinC c x b = if binB c.level b = false then (c, 22) else if 8 ≤ c.mem.length then (c, 50) else (⟨c.level, insM c.mem (x, b), c.pl⟩, 0)) := fun h h1 h2 h4 => by
    unfold rightC at h
    have h := of_decide_eq_true h
    have h1 := of_decide_eq_true h1
    have h3 : b = 1 ∨ b = 2 := by unfold ver9 at h2; simpa using h2
    refine ⟨h, h3, ?_⟩
    unfold joinC
    rw [if_neg (fun e => by rcases e with e | e | e | e | e; exact e h; omega; omega; omega; exact h4 e)]
  have HRC : Hid (rightC c = true → RightC c) := fun h => by unfold rightC at h; exact of_decide_eq_true h
  have qn := fun V => isName9_any x V
  have qv := fun V => isVersion9_any b V
  have qf := fun V (hb : Below W.heap.size W V) (h : RightC c) => find9_any A n cap c.mem x V (HII.out.1.below hb) h.2.2.2.1.1 (by have h1 := h.2.1.2; have h2 := HNM.out.1; omega)
  have q := qr W (Below.refl _ _)
  clear qr
  go_wp2_with fail
  ((with_reducible refine (q).mono ?_); rintro e V ⟨rfl, b1⟩)
  clear q z0 z1 z2
  cases hr : rightC c with
  | false =>
    have HE := Lib.hid (HNO.out (.inl hr))
    have HB := Lib.hid (bch HBB.out b1)
    have HZ := Lib.hid (Blk.below HZZ.out b1)
    have HI : Hid (IsG s2 V A n c.mem ∧ IsG s3 V B m c.pl) := ⟨HII.out.1.below b1, HII.out.2.below b1⟩
    have HAP := HAPP
    have hx_ := Blk.below HXX.out b1
    have z0 := Blk.cell hx_ 0
    have z1 := Blk.cell hx_ 1
    have z2 := Blk.cell hx_ 2
    simp only [List.getElem?_toArray, List.getElem?_cons_zero, List.getElem?_cons_succ] at z0 z1 z2
    clear hx_
    have x0 := Blk.cell HZ.out 0
    have x1 := Blk.cell HZ.out 1
    have x2 := Blk.cell HZ.out 2
    simp only [List.getElem?_toArray, List.getElem?_cons_zero, List.getElem?_cons_succ] at x0 x1 x2
    have f0 := Blk.frozen HZ.out 0
    have f1 := Blk.frozen HZ.out 1
    have f2 := Blk.frozen HZ.out 2
    have hz3 := Blk.set (Blk.set (Blk.set HZ.out 0 (.int .i64 c.level) #[.int .i64 c.level, .slice none 0 0, .slice none 0 0] rfl) 1 (.slice A n cap) #[.int .i64 c.level, .slice A n cap, .slice none 0 0] rfl) 2 (.slice B m cm) #[.int .i64 c.level, .slice A n cap, .slice B m cm] rfl
    have hb3 := ((HB.out.setCell (p := ⟨w.heap.size + 1, 0, none⟩) (Nat.le_succ _) (.int .i64 c.level)).setCell (p := ⟨w.heap.size + 1, 1, none⟩) (Nat.le_succ _) (.slice A n cap)).setCell (p := ⟨w.heap.size + 1, 2, none⟩) (Nat.le_succ _) (.slice B m cm)
    have hi3 := ((HI.out.1.far (j := 0) (u := .int .i64 c.level) HAP.out.1).far (j := 1) (u := .slice A n cap) HAP.out.1).far (j := 2) (u := .slice B m cm) HAP.out.1
    have hj3 := ((HI.out.2.far (j := 0) (u := .int .i64 c.level) HAP.out.2).far (j := 1) (u := .slice A n cap) HAP.out.2).far (j := 2) (u := .slice B m cm) HAP.out.2
    have HZ3 := Lib.hid hz3; clear hz3
    have HB3 := Lib.hid hb3; clear hb3
    have HI3 := Lib.hid hi3; clear hi3
    have HJ3 := Lib.hid hj3; clear hj3
    clear HZ HB HI HAP
    go_wp2_with fail
    have e0 := Blk.cell HZ3.out 0
    have e1 := Blk.cell HZ3.out 1
    have e2 := Blk.cell HZ3.out 2
    simp only [List.getElem?_toArray, List.getElem?_cons_zero, List.getElem?_cons_succ] at e0 e1 e2
    refine bodyPost_ret (v := .tuple #[.agg #[.int .i64 c.level, .slice A n cap, .slice B m cm], .int .i64 1]) (by simp [results, Try.results22, go_sem, e0, e1, e2]) rfl ?_
    rw [HE.out]
    exact ⟨_, _, _, _, _, _, rfl, HC.out.1, HC.out.2, ⟨HI3.out, HJ3.out⟩, HB3.out⟩
  | true =>
    have hrc := HRC.out hr
    have qf := qf V b1 hrc
    cases hn : wi9 x 1 100 with
    | false =>
      rw [hn] at qn
      have HE := Lib.hid (HNO.out (.inr (.inl hn)))
      go_wp2_with fail
      ((with_reducible refine (qn _).mono ?_); rintro e V2 ⟨rfl, rfl⟩)
      have HB := Lib.hid (bch HBB.out b1)
      have HZ := Lib.hid (Blk.below HZZ.out b1)
      have HI : Hid (IsG s2 V A n c.mem ∧ IsG s3 V B m c.pl) := ⟨HII.out.1.below b1, HII.out.2.below b1⟩
      have HAP := HAPP
      have hx_ := Blk.below HXX.out b1
      have z0 := Blk.cell hx_ 0
      have z1 := Blk.cell hx_ 1
      have z2 := Blk.cell hx_ 2
      simp only [List.getElem?_toArray, List.getElem?_cons_zero, List.getElem?_cons_succ] at z0 z1 z2
      clear hx_
      have x0 := Blk.cell HZ.out 0
      have x1 := Blk.cell HZ.out 1
      have x2 := Blk.cell HZ.out 2
      simp only [List.getElem?_toArray, List.getElem?_cons_zero, List.getElem?_cons_succ] at x0 x1 x2
      have f0 := Blk.frozen HZ.out 0
      have f1 := Blk.frozen HZ.out 1
      have f2 := Blk.frozen HZ.out 2
      have hz3 := Blk.set (Blk.set (Blk.set HZ.out 0 (.int .i64 c.level) #[.int .i64 c.level, .slice none 0 0, .slice none 0 0] rfl) 1 (.slice A n cap) #[.int .i64 c.level, .slice A n cap, .slice none 0 0] rfl) 2 (.slice B m cm) #[.int .i64 c.level, .slice A n cap, .slice B m cm] rfl
      have hb3 := ((HB.out.setCell (p := ⟨w.heap.size + 1, 0, none⟩) (Nat.le_succ _) (.int .i64 c.level)).setCell (p := ⟨w.heap.size + 1, 1, none⟩) (Nat.le_succ _) (.slice A n cap)).setCell (p := ⟨w.heap.size + 1, 2, none⟩) (Nat.le_succ _) (.slice B m cm)
      have hi3 := ((HI.out.1.far (j := 0) (u := .int .i64 c.level) HAP.out.1).far (j := 1) (u := .slice A n cap) HAP.out.1).far (j := 2) (u := .slice B m cm) HAP.out.1
      have hj3 := ((HI.out.2.far (j := 0) (u := .int .i64 c.level) HAP.out.2).far (j := 1) (u := .slice A n cap) HAP.out.2).far (j := 2) (u := .slice B m cm) HAP.out.2
      have HZ3 := Lib.hid hz3; clear hz3
      have HB3 := Lib.hid hb3; clear hb3
      have HI3 := Lib.hid hi3; clear hi3
      have HJ3 := Lib.hid hj3; clear hj3
      clear HZ HB HI HAP
      go_wp2_with fail
      have e0 := Blk.cell HZ3.out 0
      have e1 := Blk.cell HZ3.out 1
      have e2 := Blk.cell HZ3.out 2
      simp only [List.getElem?_toArray, List.getElem?_cons_zero, List.getElem?_cons_succ] at e0 e1 e2
      refine bodyPost_ret (v := .tuple #[.agg #[.int .i64 c.level, .slice A n cap, .slice B m cm], .int .i64 1]) (by simp [results, Try.results22, go_sem, e0, e1, e2]) rfl ?_
      rw [HE.out]
      exact ⟨_, _, _, _, _, _, rfl, HC.out.1, HC.out.2, ⟨HI3.out, HJ3.out⟩, HB3.out⟩
    | true =>
      rw [hn] at qn
      cases hv : ver9 b with
      | false =>
        rw [hv] at qv
        have HE := Lib.hid (HNO.out (.inr (.inr (.inl hv))))
        go_wp2_with fail
        ((with_reducible refine (qn _).mono ?_); rintro e V2 ⟨rfl, rfl⟩)
        go_wp2_with fail
        ((with_reducible refine (qv _).mono ?_); rintro e V3 ⟨rfl, rfl⟩)
        have HB := Lib.hid (bch HBB.out b1)
        have HZ := Lib.hid (Blk.below HZZ.out b1)
        have HI : Hid (IsG s2 V A n c.mem ∧ IsG s3 V B m c.pl) := ⟨HII.out.1.below b1, HII.out.2.below b1⟩
        have HAP := HAPP
        have hx_ := Blk.below HXX.out b1
        have z0 := Blk.cell hx_ 0
        have z1 := Blk.cell hx_ 1
        have z2 := Blk.cell hx_ 2
        simp only [List.getElem?_toArray, List.getElem?_cons_zero, List.getElem?_cons_succ] at z0 z1 z2
        clear hx_
        have x0 := Blk.cell HZ.out 0
        have x1 := Blk.cell HZ.out 1
        have x2 := Blk.cell HZ.out 2
        simp only [List.getElem?_toArray, List.getElem?_cons_zero, List.getElem?_cons_succ] at x0 x1 x2
        have f0 := Blk.frozen HZ.out 0
        have f1 := Blk.frozen HZ.out 1
        have f2 := Blk.frozen HZ.out 2
        have hz3 := Blk.set (Blk.set (Blk.set HZ.out 0 (.int .i64 c.level) #[.int .i64 c.level, .slice none 0 0, .slice none 0 0] rfl) 1 (.slice A n cap) #[.int .i64 c.level, .slice A n cap, .slice none 0 0] rfl) 2 (.slice B m cm) #[.int .i64 c.level, .slice A n cap, .slice B m cm] rfl
        have hb3 := ((HB.out.setCell (p := ⟨w.heap.size + 1, 0, none⟩) (Nat.le_succ _) (.int .i64 c.level)).setCell (p := ⟨w.heap.size + 1, 1, none⟩) (Nat.le_succ _) (.slice A n cap)).setCell (p := ⟨w.heap.size + 1, 2, none⟩) (Nat.le_succ _) (.slice B m cm)
        have hi3 := ((HI.out.1.far (j := 0) (u := .int .i64 c.level) HAP.out.1).far (j := 1) (u := .slice A n cap) HAP.out.1).far (j := 2) (u := .slice B m cm) HAP.out.1
        have hj3 := ((HI.out.2.far (j := 0) (u := .int .i64 c.level) HAP.out.2).far (j := 1) (u := .slice A n cap) HAP.out.2).far (j := 2) (u := .slice B m cm) HAP.out.2
        have HZ3 := Lib.hid hz3; clear hz3
        have HB3 := Lib.hid hb3; clear hb3
        have HI3 := Lib.hid hi3; clear hi3
        have HJ3 := Lib.hid hj3; clear hj3
        clear HZ HB HI HAP
        go_wp2_with fail
        have e0 := Blk.cell HZ3.out 0
        have e1 := Blk.cell HZ3.out 1
        have e2 := Blk.cell HZ3.out 2
        simp only [List.getElem?_toArray, List.getElem?_cons_zero, List.getElem?_cons_succ] at e0 e1 e2
        refine bodyPost_ret (v := .tuple #[.agg #[.int .i64 c.level, .slice A n cap, .slice B m cm], .int .i64 1]) (by simp [results, Try.results22, go_sem, e0, e1, e2]) rfl ?_
        rw [HE.out]
        exact ⟨_, _, _, _, _, _, rfl, HC.out.1, HC.out.2, ⟨HI3.out, HJ3.out⟩, HB3.out⟩
      | true =>
        rw [hv] at qv
        have HR1 := Lib.hid hrc
        have HGO2 := Lib.hid (HGO.out hr hn hv)
        have HNO2 := Lib.hid (fun h => HNO.out (.inr (.inr (.inr ⟨hr, h⟩))))
        clear hr hn hv hrc HNO HGO HRC
        have hx_ := Blk.below HXX.out b1
        have z0 := Blk.cell hx_ 0
        have z1 := Blk.cell hx_ 1
        have z2 := Blk.cell hx_ 2
        simp only [List.getElem?_toArray, List.getElem?_cons_zero, List.getElem?_cons_succ] at z0 z1 z2
        clear hx_
        go_wp2_with fail
        ((with_reducible refine (qn _).mono ?_); rintro e V2 ⟨rfl, rfl⟩)
        go_wp2_with fail
        ((with_reducible refine (qv _).mono ?_); rintro e V3 ⟨rfl, rfl⟩)
        go_wp2_with fail
        ((with_reducible refine (qf).mono ?_); rintro e V4 ⟨⟨i, th, hp, rfl⟩, b2⟩)
        have hb12 := bch b1 b2
        clear qn qv qf z0 z1 z2 b1 b2
        cases th with
        | true =>
          have HE : Hid (joinC c x b = (c, 1)) := HNO2.out (placeM_yes hp).2.2.2
          clear hp
          have HB := Lib.hid (bch HBB.out hb12)
          have HZ := Lib.hid (Blk.below HZZ.out hb12)
          have HI : Hid (IsG s2 V4 A n c.mem ∧ IsG s3 V4 B m c.pl) := ⟨HII.out.1.below hb12, HII.out.2.below hb12⟩
          have HAP := HAPP
          have hx_ := Blk.below HXX.out hb12
          have z0 := Blk.cell hx_ 0
          have z1 := Blk.cell hx_ 1
          have z2 := Blk.cell hx_ 2
          simp only [List.getElem?_toArray, List.getElem?_cons_zero, List.getElem?_cons_succ] at z0 z1 z2
          clear hx_
          have x0 := Blk.cell HZ.out 0
          have x1 := Blk.cell HZ.out 1
          have x2 := Blk.cell HZ.out 2
          simp only [List.getElem?_toArray, List.getElem?_cons_zero, List.getElem?_cons_succ] at x0 x1 x2
          have f0 := Blk.frozen HZ.out 0
          have f1 := Blk.frozen HZ.out 1
          have f2 := Blk.frozen HZ.out 2
          have hz3 := Blk.set (Blk.set (Blk.set HZ.out 0 (.int .i64 c.level) #[.int .i64 c.level, .slice none 0 0, .slice none 0 0] rfl) 1 (.slice A n cap) #[.int .i64 c.level, .slice A n cap, .slice none 0 0] rfl) 2 (.slice B m cm) #[.int .i64 c.level, .slice A n cap, .slice B m cm] rfl
          have hb3 := ((HB.out.setCell (p := ⟨w.heap.size + 1, 0, none⟩) (Nat.le_succ _) (.int .i64 c.level)).setCell (p := ⟨w.heap.size + 1, 1, none⟩) (Nat.le_succ _) (.slice A n cap)).setCell (p := ⟨w.heap.size + 1, 2, none⟩) (Nat.le_succ _) (.slice B m cm)
          have hi3 := ((HI.out.1.far (j := 0) (u := .int .i64 c.level) HAP.out.1).far (j := 1) (u := .slice A n cap) HAP.out.1).far (j := 2) (u := .slice B m cm) HAP.out.1
          have hj3 := ((HI.out.2.far (j := 0) (u := .int .i64 c.level) HAP.out.2).far (j := 1) (u := .slice A n cap) HAP.out.2).far (j := 2) (u := .slice B m cm) HAP.out.2
          have HZ3 := Lib.hid hz3; clear hz3
          have HB3 := Lib.hid hb3; clear hb3
          have HI3 := Lib.hid hi3; clear hi3
          have HJ3 := Lib.hid hj3; clear hj3
          clear HZ HB HI HAP
          go_wp2_with fail
          have e0 := Blk.cell HZ3.out 0
          have e1 := Blk.cell HZ3.out 1
          have e2 := Blk.cell HZ3.out 2
          simp only [List.getElem?_toArray, List.getElem?_cons_zero, List.getElem?_cons_succ] at e0 e1 e2
          refine bodyPost_ret (v := .tuple #[.agg #[.int .i64 c.level, .slice A n cap, .slice B m cm], .int .i64 1]) (by simp [results, Try.results22, go_sem, e0, e1, e2]) rfl ?_
          rw [HE.out]
          exact ⟨_, _, _, _, _, _, rfl, HC.out.1, HC.out.2, ⟨HI3.out, HJ3.out⟩, HB3.out⟩
        | false =>
          obtain ⟨hrc, hb2, hgo⟩ := HGO2.out (placeM_no HR1.out.2.2.2.1.1 hp)
          have HPL := Lib.hid hp; clear hp
          have HGO3 := Lib.hid hgo; clear hgo
          have hx_ := Blk.below HXX.out hb12
          have z0 := Blk.cell hx_ 0
          have z1 := Blk.cell hx_ 1
          have z2 := Blk.cell hx_ 2
          simp only [List.getElem?_toArray, List.getElem?_cons_zero, List.getElem?_cons_succ] at z0 z1 z2
          clear hx_
          by_cases hlv : b < c.level
          · have HE : Hid (joinC c x b = (c, 22)) := by
              show _ = _
              rw [HGO3.out, if_pos]
              rw [Bool.eq_false_iff]
              intro e
              have h1 := binB_iff.1 e
              have h2 := hrc.1
              omega
            have e1 : decide (b < c.level) = true := decide_eq_true hlv
            clear hrc hb2
            go_upto_region 7 with fail
            clear hlv e1
            have HB := Lib.hid (bch HBB.out hb12)
            have HZ := Lib.hid (Blk.below HZZ.out hb12)
            have HI : Hid (IsG s2 V4 A n c.mem ∧ IsG s3 V4 B m c.pl) := ⟨HII.out.1.below hb12, HII.out.2.below hb12⟩
            have HAP := HAPP
            have hx_ := Blk.below HXX.out hb12
            have z0 := Blk.cell hx_ 0
            have z1 := Blk.cell hx_ 1
            have z2 := Blk.cell hx_ 2
            simp only [List.getElem?_toArray, List.getElem?_cons_zero, List.getElem?_cons_succ] at z0 z1 z2
            clear hx_
            have x0 := Blk.cell HZ.out 0
            have x1 := Blk.cell HZ.out 1
            have x2 := Blk.cell HZ.out 2
            simp only [List.getElem?_toArray, List.getElem?_cons_zero, List.getElem?_cons_succ] at x0 x1 x2
            have f0 := Blk.frozen HZ.out 0
            have f1 := Blk.frozen HZ.out 1
            have f2 := Blk.frozen HZ.out 2
            have hz3 := Blk.set (Blk.set (Blk.set HZ.out 0 (.int .i64 c.level) #[.int .i64 c.level, .slice none 0 0, .slice none 0 0] rfl) 1 (.slice A n cap) #[.int .i64 c.level, .slice A n cap, .slice none 0 0] rfl) 2 (.slice B m cm) #[.int .i64 c.level, .slice A n cap, .slice B m cm] rfl
            have hb3 := ((HB.out.setCell (p := ⟨w.heap.size + 1, 0, none⟩) (Nat.le_succ _) (.int .i64 c.level)).setCell (p := ⟨w.heap.size + 1, 1, none⟩) (Nat.le_succ _) (.slice A n cap)).setCell (p := ⟨w.heap.size + 1, 2, none⟩) (Nat.le_succ _) (.slice B m cm)
            have hi3 := ((HI.out.1.far (j := 0) (u := .int .i64 c.level) HAP.out.1).far (j := 1) (u := .slice A n cap) HAP.out.1).far (j := 2) (u := .slice B m cm) HAP.out.1
            have hj3 := ((HI.out.2.far (j := 0) (u := .int .i64 c.level) HAP.out.2).far (j := 1) (u := .slice A n cap) HAP.out.2).far (j := 2) (u := .slice B m cm) HAP.out.2
            have HZ3 := Lib.hid hz3; clear hz3
            have HB3 := Lib.hid hb3; clear hb3
            have HI3 := Lib.hid hi3; clear hi3
            have HJ3 := Lib.hid hj3; clear hj3
            clear HZ HB HI HAP
            go_wp2_with fail
            have e0 := Blk.cell HZ3.out 0
            have e1 := Blk.cell HZ3.out 1
            have e2 := Blk.cell HZ3.out 2
            simp only [List.getElem?_toArray, List.getElem?_cons_zero, List.getElem?_cons_succ] at e0 e1 e2
            refine bodyPost_ret (v := .tuple #[.agg #[.int .i64 c.level, .slice A n cap, .slice B m cm], .int .i64 22]) (by simp [results, Try.results22, go_sem, e0, e1, e2]) rfl ?_
            rw [HE.out]
            exact ⟨_, _, _, _, _, _, rfl, HC.out.1, HC.out.2, ⟨HI3.out, HJ3.out⟩, HB3.out⟩
          have e1 : decide (b < c.level) = false := decide_eq_false hlv
          have HGO4 : Hid (joinC c x b = if 8 ≤ c.mem.length then (c, 50) else (⟨c.level, insM c.mem (x, b), c.pl⟩, 0)) := by
            show _ = _
            rw [HGO3.out, if_neg]
            rw [binB_iff.2 (by have h2 := hrc.1; omega)]; simp
          have HN8 : Hid (n ≤ 8) := by have h1 := hrc.2.1.2; have h2 := HNM.out.1; show _ ≤ _; omega
          clear hrc hb2 HGO3 HGO2 HNO2
          by_cases h8 : n = 8
          · have HE : Hid (joinC c x b = (c, 50)) := by show _ = _; rw [HGO4.out, if_pos (by have := HNM.out.1; omega)]
            have e2 : ((n : Int) == 8) = true := by simp; omega
            go_upto_region 9 with fail
            clear hlv e1 h8 e2
            have HB := Lib.hid (bch HBB.out hb12)
            have HZ := Lib.hid (Blk.below HZZ.out hb12)
            have HI : Hid (IsG s2 V4 A n c.mem ∧ IsG s3 V4 B m c.pl) := ⟨HII.out.1.below hb12, HII.out.2.below hb12⟩
            have HAP := HAPP
            have hx_ := Blk.below HXX.out hb12
            have z0 := Blk.cell hx_ 0
            have z1 := Blk.cell hx_ 1
            have z2 := Blk.cell hx_ 2
            simp only [List.getElem?_toArray, List.getElem?_cons_zero, List.getElem?_cons_succ] at z0 z1 z2
            clear hx_
            have x0 := Blk.cell HZ.out 0
            have x1 := Blk.cell HZ.out 1
            have x2 := Blk.cell HZ.out 2
            simp only [List.getElem?_toArray, List.getElem?_cons_zero, List.getElem?_cons_succ] at x0 x1 x2
            have f0 := Blk.frozen HZ.out 0
            have f1 := Blk.frozen HZ.out 1
            have f2 := Blk.frozen HZ.out 2
            have hz3 := Blk.set (Blk.set (Blk.set HZ.out 0 (.int .i64 c.level) #[.int .i64 c.level, .slice none 0 0, .slice none 0 0] rfl) 1 (.slice A n cap) #[.int .i64 c.level, .slice A n cap, .slice none 0 0] rfl) 2 (.slice B m cm) #[.int .i64 c.level, .slice A n cap, .slice B m cm] rfl
            have hb3 := ((HB.out.setCell (p := ⟨w.heap.size + 1, 0, none⟩) (Nat.le_succ _) (.int .i64 c.level)).setCell (p := ⟨w.heap.size + 1, 1, none⟩) (Nat.le_succ _) (.slice A n cap)).setCell (p := ⟨w.heap.size + 1, 2, none⟩) (Nat.le_succ _) (.slice B m cm)
            have hi3 := ((HI.out.1.far (j := 0) (u := .int .i64 c.level) HAP.out.1).far (j := 1) (u := .slice A n cap) HAP.out.1).far (j := 2) (u := .slice B m cm) HAP.out.1
            have hj3 := ((HI.out.2.far (j := 0) (u := .int .i64 c.level) HAP.out.2).far (j := 1) (u := .slice A n cap) HAP.out.2).far (j := 2) (u := .slice B m cm) HAP.out.2
            have HZ3 := Lib.hid hz3; clear hz3
            have HB3 := Lib.hid hb3; clear hb3
            have HI3 := Lib.hid hi3; clear hi3
            have HJ3 := Lib.hid hj3; clear hj3
            clear HZ HB HI HAP
            go_wp2_with fail
            have e0 := Blk.cell HZ3.out 0
            have e1 := Blk.cell HZ3.out 1
            have e2 := Blk.cell HZ3.out 2
            simp only [List.getElem?_toArray, List.getElem?_cons_zero, List.getElem?_cons_succ] at e0 e1 e2
            refine bodyPost_ret (v := .tuple #[.agg #[.int .i64 c.level, .slice A n cap, .slice B m cm], .int .i64 50]) (by simp [results, Try.results22, go_sem, e0, e1, e2]) rfl ?_
            rw [HE.out]
            exact ⟨_, _, _, _, _, _, rfl, HC.out.1, HC.out.2, ⟨HI3.out, HJ3.out⟩, HB3.out⟩
          have HIN : Hid (insM c.mem (x, b) = c.mem.take i ++ (x, b) :: c.mem.drop i) := placeM_ins HPL.out.1 HPL.out.2.1 HPL.out.2.2.1 (placeM_no HR1.out.2.2.2.1.1 HPL.out)
          have HE : Hid (joinC c x b = (⟨c.level, c.mem.take i ++ (x, b) :: c.mem.drop i, c.pl⟩, 0)) := by show _ = _; rw [HGO4.out, if_neg (by have := HNM.out.1; have := HN8.out; omega), HIN.out]
          obtain ⟨L9, hl9⟩ : ∃ l, c.mem.take i ++ (x, b) :: c.mem.drop i = l := ⟨_, rfl⟩
          rw [hl9] at HE
          have HL9 := Lib.hid hl9; clear hl9
          have e2 : ((n : Int) == 8) = false := by rw [beq_eq_false_iff_ne]; omega
          have HIL : Hid (i ≤ c.mem.length) := HPL.out.1
          go_upto_region 10 with fail
          clear hlv e1 h8 e2 z0 z1 z2
          have hx_ := Blk.below HXX.out hb12
          have z0 := Blk.cell hx_ 0
          have z1 := Blk.cell hx_ 1
          have z2 := Blk.cell hx_ 2
          simp only [List.getElem?_toArray, List.getElem?_cons_zero, List.getElem?_cons_succ] at z0 z1 z2
          have qo := owned9_any c A B n cap m cm V4 (IsCt.below HII.out hb12) HARG.out.2.2.2.1 HARG.out.2.2.2.2
          have hg_ : w.heap.size < V4.heap.size := Nat.lt_of_lt_of_le (Blk.lt HXX.out) (hb12).size
          have hg2_ : w.heap.size + 1 < V4.heap.size := Nat.lt_of_lt_of_le (Blk.lt HZZ.out) (hb12).size
          have HG_ := Lib.hid hg_; clear hg_
          have HG2_ := Lib.hid hg2_; clear hg2_
          go_wp2_with fail
          ((with_reducible refine qo.mono ?_); rintro e X1 ⟨Am, capm, Bp, capp, rfl, hrm, hrp, hne, b9⟩)
          clear qo z0 z1 z2
          have hx9 := Blk.below hx_ b9
          have z0 := Blk.cell hx9 0
          have z1 := Blk.cell hx9 1
          have z2 := Blk.cell hx9 2
          simp only [List.getElem?_toArray, List.getElem?_cons_zero, List.getElem?_cons_succ] at z0 z1 z2
          have f0 := Blk.frozen hx9 0
          have f1 := Blk.frozen hx9 1
          have f2 := Blk.frozen hx9 2
          go_upto_region 11 with fail
          have hx2 := Blk.set (Blk.set (Blk.set hx9 0 (.int .i64 c.level) #[.int .i64 c.level, .slice A n cap, .slice B m cm] rfl) 1 (.slice Am c.mem.length capm) #[.int .i64 c.level, .slice Am c.mem.length capm, .slice B m cm] rfl) 2 (.slice Bp c.pl.length capp) #[.int .i64 c.level, .slice Am c.mem.length capm, .slice Bp c.pl.length capp] rfl
          have hz2 := Blk.far (Blk.far (Blk.far (Blk.below (Blk.below HZZ.out hb12) b9) (show w.heap.size + 1 ≠ w.heap.size by omega) 0 (.int .i64 c.level)) (show w.heap.size + 1 ≠ w.heap.size by omega) 1 (.slice Am c.mem.length capm)) (show w.heap.size + 1 ≠ w.heap.size by omega) 2 (.slice Bp c.pl.length capp)
          have hb2 := (((bch HBB.out (bch hb12 b9)).setCell (p := ⟨w.heap.size, 0, none⟩) (Nat.le_refl _) (.int .i64 c.level)).setCell (p := ⟨w.heap.size, 1, none⟩) (Nat.le_refl _) (.slice Am c.mem.length capm)).setCell (p := ⟨w.heap.size, 2, none⟩) (Nat.le_refl _) (.slice Bp c.pl.length capp)
          have hp2 := ((hrm.farB (j := 0) HG_.out (.int .i64 c.level)).farB (j := 1) HG_.out (.slice Am c.mem.length capm)).farB (j := 2) HG_.out (.slice Bp c.pl.length capp)
          have hq2 := ((hrp.farB (j := 0) HG_.out (.int .i64 c.level)).farB (j := 1) HG_.out (.slice Am c.mem.length capm)).farB (j := 2) HG_.out (.slice Bp c.pl.length capp)
          have hvx2 : V4.heap.size ≤ (((X1.setCell ⟨w.heap.size, 0, none⟩ (.int .i64 c.level)).setCell ⟨w.heap.size, 1, none⟩ (.slice Am c.mem.length capm)).setCell ⟨w.heap.size, 2, none⟩ (.slice Bp c.pl.length capp)).heap.size := by simpa using b9.size
          obtain ⟨X2, hX2⟩ : ∃ X, ((X1.setCell ⟨w.heap.size, 0, none⟩ (.int .i64 c.level)).setCell ⟨w.heap.size, 1, none⟩ (.slice Am c.mem.length capm)).setCell ⟨w.heap.size, 2, none⟩ (.slice Bp c.pl.length capp) = X := ⟨_, rfl⟩
          rw [hX2] at hx2 hz2 hb2 hp2 hq2 hvx2 ⊢
          clear hX2 z0 z1 z2 f0 f1 f2 hx_ hx9 hrm hrp b9
          have HB9V : Hid (V4.heap.size ≤ X2.heap.size) := hvx2; clear hvx2
          have HX2 := Lib.hid hx2; clear hx2
          have HZ2 := Lib.hid hz2; clear hz2
          have HB2 := Lib.hid hb2; clear hb2
          have HP2 := Lib.hid hp2; clear hp2
          have HQ2 := Lib.hid hq2; clear hq2
          have HNE := Lib.hid hne; clear hne
          have hq2 := Blk.new X2 (.cells #[.int .i64 x, .int .i64 b] 45)
          have hx3 := Blk.below HX2.out (ba9 X2 (.cells #[.int .i64 x, .int .i64 b] 45))
          have hz3 := Blk.below HZ2.out (ba9 X2 (.cells #[.int .i64 x, .int .i64 b] 45))
          have hb3 := HB2.out.alloc HB2.out.size (.cells #[.int .i64 x, .int .i64 b] 45)
          have hp3 := RowG.below HP2.out (ba9 X2 (.cells #[.int .i64 x, .int .i64 b] 45))
          have hq3 := RowG.below HQ2.out (ba9 X2 (.cells #[.int .i64 x, .int .i64 b] 45))
          have hlp := fun g h => (HP2.out.lt g h).2
          have hov : (Value.slice Am c.mem.length capm).ownBlock ≠ some X2.heap.size := fun e => by have := hlp _ e; omega
          have hgp := fun g h => (HP2.out.lt g h).1
          have g1 := Blk.cell hx3 1
          simp only [List.getElem?_toArray, List.getElem?_cons_zero, List.getElem?_cons_succ] at g1
          have h20 : c.mem.length ≤ 8 := HR1.out.2.1.2
          have hVX : V4.heap.size ≤ X2.heap.size := HB9V.out
          have qi := insertM_any c.mem (x, b) Am c.mem.length capm i V4.heap.size X2.heap.size _ hp3 rfl HIL.out (by omega) (Nat.le_trans hVX (ba9 X2 (.cells #[.int .i64 x, .int .i64 b] 45)).size) hq2 hov
          have HX3 := Lib.hid hx3; clear hx3
          have HZ3 := Lib.hid hz3; clear hz3
          have HB3 := Lib.hid hb3; clear hb3
          have HQ3 := Lib.hid hq3; clear hq3
          have HGP := Lib.hid hgp; clear hgp
          clear hp3 hlp hov hq2 hVX
          have g1x := Blk.cell HX2.out 1
          simp only [List.getElem?_toArray, List.getElem?_cons_zero, List.getElem?_cons_succ] at g1x
          go_wp2_with fail
          ((with_reducible refine qi.mono ?_); rintro e X4 ⟨v9, rfl, hr4, hg4⟩)
          clear qi g1 g1x
          have hr4 : RowM X4 V4.heap.size v9 (c.mem.take i ++ (x, b) :: c.mem.drop i) := hr4
          rw [HL9.out] at hr4
          obtain ⟨A9, c9, rfl, hc9, _⟩ := hr4.parts
          have hx4 := Blk.kept HX3.out hg4 (fun e => by have := HGP.out _ e.symm; have := HG_.out; omega)
          have hz4 := Blk.kept HZ3.out hg4 (fun e => by have := HGP.out _ e.symm; have := HG2_.out; omega)
          have hb4 := HB3.out.grown hg4 HB3.out.size (fun g e => by have := HGP.out _ e; have := HG_.out; omega)
          have hq4 := rowG_kept9 HQ3.out hg4 (fun g e1 e2 => HNE.out g e2 e1)
          have y1 := Blk.cell hx4 1
          have f1 := Blk.frozen hx4 1
          simp only [List.getElem?_toArray, List.getElem?_cons_zero, List.getElem?_cons_succ] at y1
          go_upto_region 12 with fail
          have hx5 := Blk.set hx4 1 (.slice A9 L9.length c9) #[.int .i64 c.level, .slice A9 L9.length c9, .slice Bp c.pl.length capp] rfl
          have hz5 := Blk.far hz4 (show w.heap.size + 1 ≠ w.heap.size by omega) 1 (.slice A9 L9.length c9)
          have hb5 := hb4.setCell (p := ⟨w.heap.size, 1, none⟩) (Nat.le_refl _) (.slice A9 L9.length c9)
          have hp5 := hr4.farB (j := 1) HG_.out (.slice A9 L9.length c9)
          have hq5 := hq4.farB (j := 1) HG_.out (.slice A9 L9.length c9)
          obtain ⟨X5, hX5⟩ : ∃ X, X4.setCell ⟨w.heap.size, 1, none⟩ (.slice A9 L9.length c9) = X := ⟨_, rfl⟩
          rw [hX5] at hx5 hz5 hb5 hp5 hq5 ⊢
          clear hX5 y1 f1 hx4 hz4 hb4 hr4 hq4 hg4 HX2 HZ2 HB2 HP2 HQ2 HX3 HZ3 HB3 HQ3
          have HZ := Lib.hid hz5
          have HB := Lib.hid hb5
          obtain ⟨_, _, hv1, hc1, hi1⟩ := hp5.parts
          obtain ⟨_, _, hv2, hc2, hi2⟩ := hq5.parts
          obtain ⟨rfl, hl1, rfl⟩ := slice_eqG hv1
          obtain ⟨rfl, hl2, rfl⟩ := slice_eqG hv2
          have HI : Hid (IsG s2 X5 A9 L9.length L9 ∧ IsG s3 X5 Bp c.pl.length c.pl) := ⟨by rw [hl1]; exact hi1, by rw [hl2]; exact hi2⟩
          clear HC
          have HC : Hid (L9.length ≤ c9 ∧ c.pl.length ≤ capp) := ⟨by rw [hl1]; exact hc1, by rw [hl2]; exact hc2⟩
          have HAP : Hid (ApartN (w.heap.size + 1) A9 L9.length ∧ ApartN (w.heap.size + 1) Bp c.pl.length) := ⟨fun _ b off e => by have := (hp5.lt b (by rw [e]; rfl)).1; have := HG2_.out; omega, fun _ b off e => by have := (hq5.lt b (by rw [e]; rfl)).1; have := HG2_.out; omega⟩
          clear hv1 hc1 hi1 hl1 hv2 hc2 hi2 hl2
          have hx_ := hx5
          have z0 := Blk.cell hx_ 0
          have z1 := Blk.cell hx_ 1
          have z2 := Blk.cell hx_ 2
          simp only [List.getElem?_toArray, List.getElem?_cons_zero, List.getElem?_cons_succ] at z0 z1 z2
          clear hx_
          have x0 := Blk.cell HZ.out 0
          have x1 := Blk.cell HZ.out 1
          have x2 := Blk.cell HZ.out 2
          simp only [List.getElem?_toArray, List.getElem?_cons_zero, List.getElem?_cons_succ] at x0 x1 x2
          have f0 := Blk.frozen HZ.out 0
          have f1 := Blk.frozen HZ.out 1
          have f2 := Blk.frozen HZ.out 2
          have hz3 := Blk.set (Blk.set (Blk.set HZ.out 0 (.int .i64 c.level) #[.int .i64 c.level, .slice none 0 0, .slice none 0 0] rfl) 1 (.slice A9 L9.length c9) #[.int .i64 c.level, .slice A9 L9.length c9, .slice none 0 0] rfl) 2 (.slice Bp c.pl.length capp) #[.int .i64 c.level, .slice A9 L9.length c9, .slice Bp c.pl.length capp] rfl
          have hb3 := ((HB.out.setCell (p := ⟨w.heap.size + 1, 0, none⟩) (Nat.le_succ _) (.int .i64 c.level)).setCell (p := ⟨w.heap.size + 1, 1, none⟩) (Nat.le_succ _) (.slice A9 L9.length c9)).setCell (p := ⟨w.heap.size + 1, 2, none⟩) (Nat.le_succ _) (.slice Bp c.pl.length capp)
          have hi3 := ((HI.out.1.far (j := 0) (u := .int .i64 c.level) HAP.out.1).far (j := 1) (u := .slice A9 L9.length c9) HAP.out.1).far (j := 2) (u := .slice Bp c.pl.length capp) HAP.out.1
          have hj3 := ((HI.out.2.far (j := 0) (u := .int .i64 c.level) HAP.out.2).far (j := 1) (u := .slice A9 L9.length c9) HAP.out.2).far (j := 2) (u := .slice Bp c.pl.length capp) HAP.out.2
          have HZ3 := Lib.hid hz3; clear hz3
          have HB3 := Lib.hid hb3; clear hb3
          have HI3 := Lib.hid hi3; clear hi3
          have HJ3 := Lib.hid hj3; clear hj3
          clear HZ HB HI HAP
          go_wp2_with fail
          have e0 := Blk.cell HZ3.out 0
          have e1 := Blk.cell HZ3.out 1
          have e2 := Blk.cell HZ3.out 2
          simp only [List.getElem?_toArray, List.getElem?_cons_zero, List.getElem?_cons_succ] at e0 e1 e2
          refine bodyPost_ret (v := .tuple #[.agg #[.int .i64 c.level, .slice A9 L9.length c9, .slice Bp c.pl.length capp], .int .i64 0]) (by simp [results, Try.results22, go_sem, e0, e1, e2]) rfl ?_
          rw [HE.out]
          exact ⟨_, _, _, _, _, _, rfl, HC.out.1, HC.out.2, ⟨HI3.out, HJ3.out⟩, HB3.out⟩
end Go.Proofs.Ytndkmepdnekigaa
