import Derived.Test.YtndkmepdnekigaaInts
/-
  Slices of structs, whatever their cells: read as a list, own rows, append, one element set.
-/
namespace Go.Proofs.Ytndkmepdnekigaa
open Go.RowKit
set_option linter.unusedVariables false

/-- A shape: how a thing lies in cells. -/
structure Shp (α : Type) where
  k : Nat
  f : α → List Value
  len : ∀ x, (f x).length = k
  one : ∀ x, ∀ u ∈ f x, u.oneCell' = true
  pos : 0 < k
section
variable {α : Type} {S : Shp α}
def cellsG (S : Shp α) (l : List α) : List Value := l.flatMap S.f
theorem cellsG_append (a b : List α) : cellsG S (a ++ b) = cellsG S a ++ cellsG S b := by simp [cellsG]
theorem cellsG_len (l : List α) : (cellsG S l).length = l.length * S.k := by
  induction l with
  | nil => simp [cellsG]
  | cons x l ih => rw [show cellsG S (x :: l) = S.f x ++ cellsG S l from rfl, List.length_append, ih, S.len, List.length_cons, Nat.succ_mul]; omega
theorem cellsG_one (l : List α) : ∀ u ∈ cellsG S l, u.oneCell' = true := by
  intro u hu
  obtain ⟨x, _, hx⟩ := List.mem_flatMap.1 hu
  exact S.one x u hx
theorem cellsG_at {l : List α} : ∀ {i : Nat} {x : α}, l[i]? = some x → ∀ j, j < S.k → (cellsG S l)[i * S.k + j]? = (S.f x)[j]? := by
  induction l with
  | nil => intro i x h; simp at h
  | cons y l ih =>
    intro i x h j hj
    rw [show cellsG S (y :: l) = S.f y ++ cellsG S l from rfl]
    cases i with
    | zero =>
      simp only [List.getElem?_cons_zero, Option.some.injEq] at h
      subst h
      rw [Nat.zero_mul, Nat.zero_add, List.getElem?_append_left (by rw [S.len]; exact hj)]
    | succ i =>
      rw [List.getElem?_cons_succ] at h
      rw [List.getElem?_append_right (by rw [S.len, Nat.succ_mul]; omega), S.len, show (i + 1) * S.k + j - S.k = i * S.k + j by rw [Nat.succ_mul]; omega]
      exact ih h j hj
theorem cellsG_set {l : List α} {i : Nat} {x y : α} {j : Nat} {u : Value} (h : l[i]? = some x) (hj : j < S.k) (hy : S.f y = (S.f x).set j u) : (cellsG S l).set (i * S.k + j) u = cellsG S (l.set i y) := by
  induction l generalizing i with
  | nil => simp at h
  | cons z l ih =>
    cases i with
    | zero =>
      simp only [List.getElem?_cons_zero, Option.some.injEq] at h
      subst h
      rw [show cellsG S (z :: l) = S.f z ++ cellsG S l from rfl, List.set_cons_zero, show cellsG S (y :: l) = S.f y ++ cellsG S l from rfl, hy, Nat.zero_mul, Nat.zero_add, List.set_append_left _ _ (by rw [S.len]; exact hj)]
    | succ i =>
      rw [List.getElem?_cons_succ] at h
      rw [show cellsG S (z :: l) = S.f z ++ cellsG S l from rfl, List.set_cons_succ, show cellsG S (z :: l.set i y) = S.f z ++ cellsG S (l.set i y) from rfl, ← ih h, List.set_append_right _ _ (by rw [S.len, Nat.succ_mul]; omega), S.len, show (i + 1) * S.k + j - S.k = i * S.k + j by rw [Nat.succ_mul]; omega]
/-- A slice that reads as 'l'. -/
def IsG (S : Shp α) (w : World) (A : Option Addr) (n : Nat) (l : List α) : Prop :=
  n = l.length ∧ n ≤ maxLen ∧ (0 < n → ∃ b off, A = some ⟨b, off, none⟩ ∧ b < w.heap.size ∧ ∀ i x, l[i]? = some x → ∀ j v, (S.f x)[j]? = some v → w.cell? ⟨b, off + i * S.k + j, none⟩ = some v)
theorem IsG.below {w w' : World} {A : Option Addr} {n : Nat} {l : List α} (h : IsG S w A n l) (hb : Below w.heap.size w w') : IsG S w' A n l := by
  obtain ⟨h1, h2, h4⟩ := h
  refine ⟨h1, h2, fun hn => ?_⟩
  obtain ⟨b, off, rfl, hlt, hc⟩ := h4 hn
  exact ⟨b, off, rfl, Nat.lt_of_lt_of_le hlt hb.size, fun i x hi j v hv => (hb.cell (p := ⟨b, off + i * S.k + j, none⟩) hlt).trans (hc i x hi j v hv)⟩
theorem IsG.drew {w : World} {A : Option Addr} {n : Nat} {l : List α} (h : IsG S w A n l) : IsG S w.drew A n l := h
theorem isG_nil (w : World) (A : Option Addr) : IsG S w A 0 [] := ⟨rfl, by unfold maxLen; omega, fun h => by omega⟩
theorem IsG.same {W W' : World} {A : Option Addr} {n : Nat} {l : List α} (h : IsG S W A n l) (hz : W.heap.size ≤ W'.heap.size) (hk : ∀ b off, 0 < n → A = some ⟨b, off, none⟩ → W'.heap[b]? = W.heap[b]?) : IsG S W' A n l := by
  obtain ⟨h1, h2, h4⟩ := h
  refine ⟨h1, h2, fun hn => ?_⟩
  obtain ⟨b, off, rfl, hlt, hc⟩ := h4 hn
  refine ⟨b, off, rfl, Nat.lt_of_lt_of_le hlt hz, fun i x hi j v hv => ?_⟩
  have := hc i x hi j v hv
  unfold World.cell? at this ⊢
  rw [show (⟨b, off + i * S.k + j, none⟩ : Addr).block = b from rfl] at *
  rw [hk b off hn rfl]
  exact this
theorem IsG.far {W : World} {A : Option Addr} {n g j : Nat} {l : List α} {u : Value} (h : IsG S W A n l) (hne : ApartN g A n) : IsG S (W.setCell ⟨g, j, none⟩ u) A n l :=
  h.same (by simp) fun b off hn e => heap_setCell_other W ⟨g, j, none⟩ b u (hne hn b off e)
theorem IsG.kept {w w' : World} {A : Option Addr} {n : Nat} {l : List α} {row : Option Nat} (h : IsG S w A n l) (hg : w.grownBy w' row) (hne : 0 < n → ∀ b off, A = some ⟨b, off, none⟩ → some b ≠ row) : IsG S w' A n l := by
  refine h.same hg.size fun b off hn e => ?_
  obtain ⟨b2, o2, e2, hlt, _⟩ := h.2.2 hn
  rw [e] at e2
  simp only [Option.some.injEq, Addr.mk.injEq, and_true] at e2
  exact hg.block b (e2.1 ▸ hlt) (hne hn b off e)
theorem IsG.apart {w : World} {A : Option Addr} {n g : Nat} {l : List α} (h : IsG S w A n l) (hg : w.heap.size ≤ g) : ApartN g A n := fun hn b off e => by
  obtain ⟨b2, o2, e2, hlt, _⟩ := h.2.2 hn
  rw [e] at e2
  simp only [Option.some.injEq, Addr.mk.injEq, and_true] at e2
  omega
/-- A row of a call's own. -/
def RowG (S : Shp α) (T : TypeId) (w : World) (base : Nat) (v : Value) (l : List α) : Prop := w.ownsRow base T S.k v l.length (cellsG S l)
variable {T : TypeId}
theorem rowG_nil (w : World) (base : Nat) : RowG S T w base (.slice none 0 0) [] := World.ownsRow_nil _ _ _ _
theorem RowG.below {w w' : World} {base : Nat} {v : Value} {l : List α} (h : RowG S T w base v l) (hb : Below w.heap.size w w') : RowG S T w' base v l := ownsI_below h hb
theorem RowG.parts {w : World} {base : Nat} {v : Value} {l : List α} (h : RowG S T w base v l) : ∃ A cap, v = .slice A l.length cap ∧ l.length ≤ cap ∧ IsG S w A l.length l := by
  rcases h.2 with ⟨rfl, hv⟩ | ⟨g, cap, cur, hv, hg, hh, hnc, hcm, hcs, htk⟩
  · have : l.length = 0 := by
      have h2 := cellsG_len (S := S) l
      rw [hv] at h2
      have := S.pos
      rcases Nat.eq_zero_or_pos l.length with h3 | h3
      · exact h3
      · have := Nat.mul_le_mul h3 this; simp at h2; omega
    exact ⟨none, 0, by simp_all, by omega, rfl, by unfold maxLen; omega, fun h => by omega⟩
  · subst hv
    refine ⟨_, cap, rfl, hnc, rfl, Nat.le_trans hnc hcm, fun _ => ⟨g, 0, rfl, lt_of_blk hh, fun i x hi j u hu => ?_⟩⟩
    have hj : j < S.k := by rw [← S.len x]; exact (List.getElem?_eq_some_iff.1 hu).1
    have hl : i < l.length := (List.getElem?_eq_some_iff.1 hi).1
    have c := h.cellAt (i * S.k + j) (Nat.lt_of_lt_of_le (Nat.add_lt_add_left hj _) (by rw [← Nat.succ_mul]; exact Nat.mul_le_mul_right _ hl))
    rw [cellsG_at hi j hj, hu] at c
    rw [Nat.zero_add]
    exact c
theorem RowG.own {w : World} {base : Nat} {v : Value} {l : List α} (h : RowG S T w base v l) (hl : 0 < l.length) : ∃ g cap, v = .slice (some ⟨g, 0, none⟩) l.length cap ∧ base ≤ g ∧ g < w.heap.size ∧ l.length ≤ cap := by
  obtain ⟨A, cap, rfl, hc, hi⟩ := h.parts
  rcases h.2 with ⟨h', _⟩ | ⟨g', cap', cur, h', hg, hh, _⟩
  · simp only [Value.slice.injEq] at h'; omega
  · simp only [Value.slice.injEq] at h'
    obtain ⟨rfl, _, rfl⟩ := h'
    exact ⟨g', cap, rfl, hg, lt_of_blk hh, hc⟩
theorem RowG.new {w : World} {base n cap : Nat} {A : Option Addr} {l : List α} (h : RowG S T w base (.slice A n cap) l) : NewN base A n := fun _ b off hA => by
  subst hA
  exact (h.lt b rfl).1
/-- One cell of an element set. -/
theorem RowG.set {w : World} {base g n cap : Nat} {l : List α} (h : RowG S T w base (.slice (some ⟨g, 0, none⟩) n cap) l) {i j : Nat} {u : Value} {x y : α} (hi : l[i]? = some x) (hj : j < S.k) (hy : S.f y = (S.f x).set j u) :
    RowG S T (w.setCell ⟨g, i * S.k + j, none⟩ u) base (.slice (some ⟨g, 0, none⟩) n cap) (l.set i y) ∧ w.grownBy (w.setCell ⟨g, i * S.k + j, none⟩ u) (some g) := by
  have hn : n = l.length := by
    rcases h.2 with ⟨h', _⟩ | ⟨g', cap', cur, h', _⟩
    · simp at h'
    · simp only [Value.slice.injEq] at h'; exact h'.2.1
  subst hn
  obtain ⟨h1, h2⟩ := World.ownsRow.stored h (i * S.k + j) u
  refine ⟨?_, h2⟩
  unfold RowG
  rw [List.length_set, ← cellsG_set hi hj hy]
  exact h1
theorem RowG.cell {w : World} {base g n cap i j : Nat} {l : List α} {x : α} {u : Value} (h : RowG S T w base (.slice (some ⟨g, 0, none⟩) n cap) l) (hi : l[i]? = some x) (hu : (S.f x)[j]? = some u) : w.cell? ⟨g, i * S.k + j, none⟩ = some u := by
  have hj : j < S.k := by rw [← S.len x]; exact (List.getElem?_eq_some_iff.1 hu).1
  have hl : i < l.length := (List.getElem?_eq_some_iff.1 hi).1
  have hn : n = l.length := by
    rcases h.2 with ⟨h', _⟩ | ⟨g', cap', cur, h', _⟩
    · simp at h'
    · simp only [Value.slice.injEq] at h'; exact h'.2.1
  subst hn
  have c := h.cellAt (i * S.k + j) (Nat.lt_of_lt_of_le (Nat.add_lt_add_left hj _) (by rw [← Nat.succ_mul]; exact Nat.mul_le_mul_right _ hl))
  rw [cellsG_at hi j hj, hu] at c
  exact c
theorem RowG.frozen {w : World} {base g n cap : Nat} {l : List α} (h : RowG S T w base (.slice (some ⟨g, 0, none⟩) n cap) l) (i : Nat) : w.frozen? ⟨g, i, none⟩ = false := by
  rcases h.2 with ⟨h', _⟩ | ⟨g', cap', cur, h', _, hh, _⟩
  · simp at h'
  · simp only [Value.slice.injEq, Option.some.injEq, Addr.mk.injEq] at h'
    obtain ⟨⟨rfl, _⟩, _⟩ := h'
    exact frozen_blk hh i
theorem g_cells {w : World} {b off : Nat} {l : List α} (h : ∀ i x, l[i]? = some x → ∀ j v, (S.f x)[j]? = some v → w.cell? ⟨b, off + i * S.k + j, none⟩ = some v) : ∀ j u, (cellsG S l)[j]? = some u → w.cell? ((⟨b, off, none⟩ : Addr).add j) = some u := by
  intro j u hj
  have hl : j < l.length * S.k := by rw [← cellsG_len]; exact (List.getElem?_eq_some_iff.1 hj).1
  have hp := S.pos
  have h1 : j / S.k < l.length := Nat.div_lt_of_lt_mul (by rw [Nat.mul_comm]; exact hl)
  have h2 : j % S.k < S.k := Nat.mod_lt _ hp
  have h3 : j / S.k * S.k + j % S.k = j := by rw [Nat.mul_comm]; exact Nat.div_add_mod j S.k
  have e : ((⟨b, off, none⟩ : Addr).add j) = ⟨b, off + j, none⟩ := by
    by_cases h0 : j = 0
    · subst h0; simp [Addr.add]
    · simp [Addr.add, h0]
  have hx : l[j / S.k]? = some l[j / S.k] := List.getElem?_eq_getElem h1
  have h4 := cellsG_at (S := S) hx _ h2
  rw [h3, hj] at h4
  have := h _ _ hx _ u h4.symm
  rw [Nat.add_assoc, h3] at this
  rw [e]; exact this
theorem RowG.mono {w : World} {base base2 : Nat} {v : Value} {l : List α} (h : RowG S T w base v l) (hb : base2 ≤ base) : RowG S T w base2 v l :=
  ⟨h.1, h.2.imp id fun ⟨g, cap, cur, h1, h2, h3⟩ => ⟨g, cap, cur, h1, Nat.le_trans hb h2, h3⟩⟩
theorem RowG.far {w : World} {base g j : Nat} {v : Value} {l : List α} (h : RowG S T w base v l) (hg : v.ownBlock ≠ some g) (u : Value) : RowG S T (w.setCell ⟨g, j, none⟩ u) base v l := ownsRow_setCell_other (a := ⟨g, j, none⟩) h hg u
theorem RowG.farB {w : World} {base g j : Nat} {v : Value} {l : List α} (h : RowG S T w base v l) (hg : g < base) (u : Value) : RowG S T (w.setCell ⟨g, j, none⟩ u) base v l := ownsRow_setCell_below (a := ⟨g, j, none⟩) h hg u
/-- 'append(l, x...)', l the call's own, x things that lie anywhere: the operation. -/
theorem wp_append_g {ts : TypeId} {z : Value} {by_ : Nat} (hu : Try.prog.underlying ts = some (.slice T)) (hinfo : (Try.prog.info? T).map (fun i => (i.zero, i.size, i.bytes)) = some (some z, S.k, by_)) (hzs : z.cells.size = S.k)
    {w : World} {o : Oper} {a : Act} {K : Act → World → Prop} {Q : Exit → Act → World → Prop} (s x : Operand)
    (ho : o.op = .call { callee := .builtin .append, args := #[s, x], argTypes := #[ts, ts] })
    (base : Nat) (v : Value) (l : List α) (hs : a.eval s = v) (hown : RowG S T w base v l)
    (A : Option Addr) (m c : Nat) (k : List α) (hx : a.eval x = .slice A m c) (hf : IsG S w A m k)
    (hm63 : l.length + m ≤ maxLen) (h63 : (l.length + m) * by_ ≤ 140737488355328) (hbase : base ≤ w.heap.size)
    (h : ∀ v' w', RowG S T w' base v' (l ++ k) → w.grownBy w' v.ownBlock → (v'.ownBlock = v.ownBlock ∨ v'.ownBlock = some w.heap.size) → K (a.put o.dst v') w') :
    Oper.wp Try.prog o a w K Q := by
  obtain ⟨i0, hi, hz0, hz1, hz2⟩ := info_parts hinfo
  obtain ⟨hm, _, hat⟩ := hf
  rcases Nat.eq_zero_or_pos m with rfl | hp
  · have hg : k = [] := List.eq_nil_of_length_eq_zero hm.symm
    subst hg
    have hrun := run_append_zeroI (P := Try.prog) (w := w) base ts o.type T i0 S.k hu hi v l.length _ hown A c
    unfold Oper.wp
    simp [execOp, ho, resolve, invoke, builtin, hs, hx, hrun, Result.andThen]
    refine h v w (by simpa using hown) ?_ (.inl rfl)
    exact ⟨rfl, rfl, rfl, Nat.le_refl _, fun _ _ _ => rfl⟩
  · obtain ⟨b, off, rfl, hb, hat⟩ := hat hp
    obtain ⟨v', w', hr, h2, h3, h4, h5⟩ := run_append_own_at (P := Try.prog) w base ts o.type T i0 z S.k by_ hu hi hz0 hz1 hz2 hzs S.pos v l.length _ hown ⟨b, off, none⟩ m c (cellsG S k) (by rw [cellsG_len, hm]) (g_cells hat) (cellsG_one k) hm63 h63 hbase
    unfold Oper.wp execOp
    simp only [ho, resolve, invoke, builtin, Sem.run_bind, Sem.run_pure, Result.andThen_ok, List.map_toArray, List.map_cons, List.map_nil, hs, hx, hr]
    refine h v' w' ?_ h3 h5
    unfold RowG
    rw [cellsG_append, List.length_append, ← hm]; exact h2
/-- The same, in a region in its order. -/
theorem wpList_append_g {ts : TypeId} {z : Value} {by_ : Nat} (hu : Try.prog.underlying ts = some (.slice T)) (hinfo : (Try.prog.info? T).map (fun i => (i.zero, i.size, i.bytes)) = some (some z, S.k, by_)) (hzs : z.cells.size = S.k)
    {w : World} {ops : Array Oper} {rest : List Oper} {o : Oper} {a : Act} {Q : Exit → Act → World → Prop} (hgd : o.guard = none) (s x : Operand)
    (ho : o.op = .call { callee := .builtin .append, args := #[s, x], argTypes := #[ts, ts] })
    (base : Nat) (v : Value) (l : List α) (hs : a.eval s = v) (hown : RowG S T w base v l)
    (A : Option Addr) (m c : Nat) (k : List α) (hx : a.eval x = .slice A m c) (hf : IsG S w A m k)
    (hm63 : l.length + m ≤ maxLen) (h63 : (l.length + m) * by_ ≤ 140737488355328) (hbase : base ≤ w.heap.size)
    (h : ∀ v' w', RowG S T w' base v' (l ++ k) → w.grownBy w' v.ownBlock → (v'.ownBlock = v.ownBlock ∨ v'.ownBlock = some w.heap.size) → wpList Try.prog ops Q rest (a.put o.dst v') w') :
    wpList Try.prog ops Q (o :: rest) a w :=
  wpList_plain hgd fun K hK => wp_append_g hu hinfo hzs s x ho base v l hs hown A m c k hx hf hm63 h63 hbase fun v' w' h1 h2 h3 => hK _ _ (h v' w' h1 h2 h3)
/-- One new thing's block, as a slice. -/
theorem isG_one (w : World) (x : α) (t : TypeId) : IsG S (w.alloc (.cells (S.f x).toArray t)) (some ⟨w.heap.size, 0, none⟩) 1 [x] := by
  have hx := World.alloc_heap_new w (.cells (S.f x).toArray t)
  refine ⟨rfl, by unfold maxLen; omega, fun _ => ⟨w.heap.size, 0, rfl, by simp, fun i y hi j v hv => ?_⟩⟩
  have hi' : i < 1 := (List.getElem?_eq_some_iff.1 hi).1
  have : i = 0 := by omega
  subst this
  simp only [List.getElem?_cons_zero, Option.some.injEq] at hi
  subst hi
  have := cell_blk hx j
  rw [Nat.zero_mul, Nat.add_zero, Nat.zero_add, this]
  simpa using hv
end
theorem below_grownG {w w' : World} {v : Value} (hg : w.grownBy w' v.ownBlock) (hv : ∀ g, v.ownBlock = some g → w.heap.size ≤ g) : Below w.heap.size w w' := (Below.refl _ _).grown hg (Nat.le_refl _) hv
theorem slice_eqG {A B : Option Addr} {n m c d : Nat} (h : Value.slice A n c = .slice B m d) : A = B ∧ n = m ∧ c = d := by cases h; exact ⟨rfl, rfl, rfl⟩
/-- Two numbers; three. -/
def s2 : Shp (Int × Int) := ⟨2, fun x => [.int .i64 x.1, .int .i64 x.2], fun _ => rfl, fun x u hu => by simp at hu; rcases hu with rfl | rfl <;> rfl, by decide⟩
def s3 : Shp (Int × Int × Int) := ⟨3, fun x => [.int .i64 x.1, .int .i64 x.2.1, .int .i64 x.2.2], fun _ => rfl, fun x u hu => by simp at hu; rcases hu with rfl | rfl | rfl <;> rfl, by decide⟩
theorem is2_at {w : World} {A : Option Addr} {n i : Nat} {l : List (Int × Int)} {x : Int × Int} (h : IsG s2 w A n l) (hx : l[i]? = some x) : ∃ b off, A = some ⟨b, off, none⟩ ∧ b < w.heap.size ∧ w.cell? ⟨b, off + i * 2, none⟩ = some (.int .i64 x.1) ∧ w.cell? ⟨b, off + i * 2 + 1, none⟩ = some (.int .i64 x.2) := by
  obtain ⟨h1, _, h2⟩ := h
  obtain ⟨b, off, rfl, hlt, hc⟩ := h2 (by have := (List.getElem?_eq_some_iff.1 hx).1; omega)
  exact ⟨b, off, rfl, hlt, hc i x hx 0 _ rfl, hc i x hx 1 _ rfl⟩
theorem is3_at {w : World} {A : Option Addr} {n i : Nat} {l : List (Int × Int × Int)} {x : Int × Int × Int} (h : IsG s3 w A n l) (hx : l[i]? = some x) : ∃ b off, A = some ⟨b, off, none⟩ ∧ b < w.heap.size ∧ w.cell? ⟨b, off + i * 3, none⟩ = some (.int .i64 x.1) ∧ w.cell? ⟨b, off + i * 3 + 1, none⟩ = some (.int .i64 x.2.1) ∧ w.cell? ⟨b, off + i * 3 + 2, none⟩ = some (.int .i64 x.2.2) := by
  obtain ⟨h1, _, h2⟩ := h
  obtain ⟨b, off, rfl, hlt, hc⟩ := h2 (by have := (List.getElem?_eq_some_iff.1 hx).1; omega)
  exact ⟨b, off, rfl, hlt, hc i x hx 0 _ rfl, hc i x hx 1 _ rfl, hc i x hx 2 _ rfl⟩
end Go.Proofs.Ytndkmepdnekigaa
