import Derived.Test.YtpnkkiokkhmjpaaTabWith
/-
  The contract of the document's own 'put' of tables (stage 12).
-/
namespace Go.Proofs.Ytpnkkiokkhmjpaa
open Go.RowKit
set_option linter.unusedVariables false
set_option linter.unusedSimpArgs false

theorem rp_put {W : World} {g : Nat} {a b c d : Value} {T : TypeId} (h : Blk W g (.cells #[a, b, c, d] T (0, 0))) (x y z u : Value) :
    Blk (((((W).setCell ⟨g, 0, none⟩ x).setCell ⟨g, 1, none⟩ y).setCell ⟨g, 2, none⟩ z).setCell ⟨g, 3, none⟩ u) g (.cells #[x, y, z, u] T (0, 0)) :=
  Blk.set (Blk.set (Blk.set (Blk.set h 0 x #[x, b, c, d] rfl) 1 y #[x, y, c, d] rfl) 2 z #[x, y, z, d] rfl) 3 u #[x, y, z, u] rfl
theorem rowT_far {W : World} {base g j : Nat} {v : Value} {l : List (Rcd × Value)} {u : Value} (h : RowT W base v l) (hne : some g ≠ v.ownBlock) : RowT (W.setCell ⟨g, j, none⟩ u) base v l :=
  World.ownsRow.kept h (gb_set W g j u) (.inr fun e => hne e.symm)
theorem rowT_four {W : World} {base g : Nat} {v : Value} {l : List (Rcd × Value)} (h : RowT W base v l) (hne : some g ≠ v.ownBlock) (x y z u : Value) :
    RowT (((((W).setCell ⟨g, 0, none⟩ x).setCell ⟨g, 1, none⟩ y).setCell ⟨g, 2, none⟩ z).setCell ⟨g, 3, none⟩ u) base v l := rowT_far (rowT_far (rowT_far (rowT_far h hne) hne) hne) hne
theorem exT_far {W : World} {g j : Nat} {l : List (Rcd × Value)} {u : Value} {cs : Array Value} {T : TypeId} {fr : Nat × Nat} (h : ExT W l) (hb : Blk W g (.cells cs T fr)) (hT : T ≠ 57) : ExT (W.setCell ⟨g, j, none⟩ u) l :=
  h.kept2 (gb_set W g j u) fun k e => by cases e; exact ⟨cs, T, fr, hb, hT⟩
theorem exT_four {W : World} {g : Nat} {l : List (Rcd × Value)} {a b c d : Value} {T : TypeId} (h : ExT W l) (hb : Blk W g (.cells #[a, b, c, d] T (0, 0))) (hT : T ≠ 57) (x y z u : Value) :
    ExT (((((W).setCell ⟨g, 0, none⟩ x).setCell ⟨g, 1, none⟩ y).setCell ⟨g, 2, none⟩ z).setCell ⟨g, 3, none⟩ u) l := by
  have h1 := Blk.set hb 0 x #[x, b, c, d] rfl
  have h2 := Blk.set h1 1 y #[x, y, c, d] rfl
  have h3 := Blk.set h2 2 z #[x, y, z, d] rfl
  exact exT_far (exT_far (exT_far (exT_far h hb hT) h1 hT) h2 hT) h3 hT
theorem below_four {w W : World} {B g : Nat} (h : Below B w W) (hg : B ≤ g) (x y z u : Value) : Below B w (((((W).setCell ⟨g, 0, none⟩ x).setCell ⟨g, 1, none⟩ y).setCell ⟨g, 2, none⟩ z).setCell ⟨g, 3, none⟩ u) :=
  (((h.setCell (p := ⟨g, 0, none⟩) hg _).setCell (p := ⟨g, 1, none⟩) hg _).setCell (p := ⟨g, 2, none⟩) hg _).setCell (p := ⟨g, 3, none⟩) hg _
theorem row_lt_ne {W : World} {base g : Nat} {v : Value} {l : List (Rcd × Value)} {cs : Array Value} {T : TypeId} {fr : Nat × Nat} (h : RowT W base v l) (hb : Blk W g (.cells cs T fr)) (hT : T ≠ 47) : some g ≠ v.ownBlock := fun e => by
  obtain ⟨cs2, fr2, h2⟩ := h.block g e.symm
  rw [show W.heap[g]? = _ from hb] at h2
  simp only [Option.some.injEq, Obj.cells.injEq] at h2
  exact hT h2.2.1
theorem newR_wf {o : OpR} (h : OpWf o) : RcW (newR o) := ⟨⟨h.2.1, h.2.2.1, by show ByteArray.empty.size ≤ _; decide⟩, by show (Lit.int .i64 1).wf = true; decide, by show (Lit.int .i64 0).wf = true; decide, by show 0 * 24 ≤ _; omega⟩
theorem RowT.frozen {W : World} {base g n cap j : Nat} {l : List (Rcd × Value)} (h : RowT W base (.slice (some ⟨g, 0, none⟩) n cap) l) : W.frozen? ⟨g, j, none⟩ = false := by
  rcases h.2 with ⟨h1, _⟩ | ⟨g2, _, cur, h1, _, hh, _⟩
  · simp at h1
  · simp only [Value.slice.injEq, Option.some.injEq, Addr.mk.injEq, and_true, true_and] at h1
    rw [h1.1]; exact frozen_blk hh j
theorem RowT.six {W : World} {base g n cap i : Nat} {l : List (Rcd × Value)} (h : RowT W base (.slice (some ⟨g, 0, none⟩) n cap) l) (hi : i < l.length) : RcAt W g (i * 6) (atP l i).1 (atP l i).2 := by
  obtain ⟨A0, cap0, hv0, _, hps⟩ := h.parts
  simp only [Value.slice.injEq] at hv0
  obtain ⟨rfl, _, _⟩ := hv0
  have := hps.at hi (Below.refl _ _)
  rw [Nat.zero_add] at this
  exact this
theorem atP_set {l : List (Rcd × Value)} {i : Nat} {q : Rcd × Value} (h : i < l.length) : atP (l.set i q) i = q := by
  rw [atP_get (by simpa using h), List.getElem_set_self]
theorem RowT.at0 {W : World} {base n cap i : Nat} {A : Option Addr} {l : List (Rcd × Value)} (h : RowT W base (.slice A n cap) l) (hi : i < l.length) : ∃ g, A = some ⟨g, 0, none⟩ ∧ base ≤ g := by
  rcases h.2 with ⟨h1, h2⟩ | ⟨g, _, _, h1, hb, _⟩
  · omega
  · simp only [Value.slice.injEq] at h1; exact ⟨g, h1.1, hb⟩
/-- One record of a row turned: what it carries is as it was. -/
theorem exT_set {W : World} {l : List (Rcd × Value)} {i : Nat} {r : Rcd} (h : ExT W l) (hi : i < l.length) (hr : RcW r) (he : r.extra = (atP l i).1.extra) : ExT W (l.set i (r, (atP l i).2)) := fun p hp => by
  rcases List.mem_or_eq_of_mem_set hp with h1 | rfl
  · exact h p h1
  · obtain ⟨E, m, c, e, hc, hf, ht⟩ := (h _ (atP_mem hi)).2
    exact ⟨hr, E, m, c, e, hc, by simp only; rw [he]; exact hf, ht⟩
/-- What put leaves. -/
def PutT (base : Nat) (w : World) (t : List Rcd) (k : Option Nat) (o : OpR) (e : Ending) (w' : World) : Prop :=
  ∃ v l, e = .returned (.tuple #[v, rpV (putT t k o).2 (.slice none 0 0)]) ∧ RowT w' base v l ∧ l.map Prod.fst = (putT t k o).1 ∧ ExT w' l ∧ Below base w w'
theorem map_setP (l : List (Rcd × Value)) (i : Nat) (q : Rcd × Value) : (l.set i q).map Prod.fst = (l.map Prod.fst).set i q.1 := List.map_set

set_option maxRecDepth 100000 in
set_option maxHeartbeats 8000000 in
theorem refput_any (l : List (Rcd × Value)) (k : Option Nat) (o : OpR) (A : Option Addr) (n cap base : Nat) (w : World) (hrow : RowT w base (.slice A n cap) l) (hex : ExT w l) (hbase : base ≤ w.heap.size) (hlen : l.length ≤ 20) (ho : OpWf o) (hk : ∀ i, k = some i → i < l.length ∧ 0 ≤ (atP l i).1.rev ∧ (atP l i).1.rev ≤ maxN) (hn : n = l.length) :
    Calls Try.prog 36 #[.slice A n cap, .int .i64 (plcT k), opV o] w (PutT base w (l.map Prod.fst) k o) := by
  unfold opV
  have hbw : Below base w ((w.alloc (.cells #[.int .i64 o.kind, .string o.key, .string o.value, .int .i64 o.rev, .string o.upto, .int .i64 o.life, .string o.note] 26)).alloc (.cells #[.int .i64 0, .int .i64 0, .string ⟨#[]⟩, .slice none 0 0] 37)) := ((Below.refl _ _).alloc hbase _).alloc (by simp; omega) _
  have hbw2 : Below w.heap.size w ((w.alloc (.cells #[.int .i64 o.kind, .string o.key, .string o.value, .int .i64 o.rev, .string o.upto, .int .i64 o.life, .string o.note] 26)).alloc (.cells #[.int .i64 0, .int .i64 0, .string ⟨#[]⟩, .slice none 0 0] 37)) := ((Below.refl _ _).alloc (Nat.le_refl _) _).alloc (by simp) _
  have hob : OpBlk ((w.alloc (.cells #[.int .i64 o.kind, .string o.key, .string o.value, .int .i64 o.rev, .string o.upto, .int .i64 o.life, .string o.note] 26)).alloc (.cells #[.int .i64 0, .int .i64 0, .string ⟨#[]⟩, .slice none 0 0] 37)) w.heap.size o := (OpBlk.new w o).below ((Below.refl _ _).alloc (Nat.le_refl _) _)
  have hzb : Blk ((w.alloc (.cells #[.int .i64 o.kind, .string o.key, .string o.value, .int .i64 o.rev, .string o.upto, .int .i64 o.life, .string o.note] 26)).alloc (.cells #[.int .i64 0, .int .i64 0, .string ⟨#[]⟩, .slice none 0 0] 37)) (w.heap.size + 1) (.cells #[.int .i64 0, .int .i64 0, .string ⟨#[]⟩, .slice none 0 0] 37 (0, 0)) := by have h := Blk.new (w.alloc (.cells #[.int .i64 o.kind, .string o.key, .string o.value, .int .i64 o.rev, .string o.upto, .int .i64 o.life, .string o.note] 26)) (.cells #[.int .i64 0, .int .i64 0, .string ⟨#[]⟩, .slice none 0 0] 37); rw [World.size_alloc] at h; exact h
  obtain ⟨W0, hW0⟩ : ∃ W, (w.alloc (.cells #[.int .i64 o.kind, .string o.key, .string o.value, .int .i64 o.rev, .string o.upto, .int .i64 o.life, .string o.note] 26)).alloc (.cells #[.int .i64 0, .int .i64 0, .string ⟨#[]⟩, .slice none 0 0] 37) = W := ⟨_, rfl⟩
  rw [hW0] at hbw hbw2 hob hzb
  have HOB := Lib.hid hob; clear hob
  have HZB := Lib.hid hzb; clear hzb
  have HBW := Lib.hid hbw; clear hbw
  have HR0 := Lib.hid (hrow.below hbw2)
  have HX0 := Lib.hid (hex.below hbw2)
  have HBW2 := Lib.hid hbw2; clear hbw2
  obtain ⟨c0, c1, c2, c3, c4, c5, c6⟩ := HOB.out.cells
  have HS1 : Hid (w.heap.size + 1 < W0.heap.size) := Blk.lt HZB.out
  have HO := Lib.hid ho; clear ho
  have HN := Lib.hid hn
  have HLEN := Lib.hid hlen
  clear hrow hex hn
  cases k with
  | none =>
    clear hk
    unfold plcT
    have hlen2 : n ≤ 20 := by rw [HN.out]; exact hlen
    clear hlen
    by_cases h20 : 20 ≤ n
    · have HE : Hid (putT (l.map Prod.fst) none o = (l.map Prod.fst, faultR 50)) := by show putT _ none o = _; unfold putT; simp only; rw [if_pos (by rw [List.length_map, ← HN.out]; exact h20)]
      have d1 : (20 : Int) ≤ (n : Int) := by omega
      have qf := fun W => reffault_num 50 50 rfl W
      clear h20
      go_enter Try.func36, Try.ntmps36
      go_wp2_with fail
      ((with_reducible refine (qf _).mono ?_); rintro e W1 ⟨rfl, b1⟩)
      have hz1 := Blk.below HZB.out b1
      have hr1 := HR0.out.below b1
      have hx1 := HX0.out.below b1
      have hb1 : Below base w W1 := by have h1 := HBW.out; have h2 := bch HBW2.out b1; exact ⟨h2.os, h2.tape, h2.output, h2.size, fun i hi => h2.block i (by omega)⟩
      have hne := row_lt_ne hr1 hz1 (by decide)
      have z0 := Blk.cell hz1 0
      have z1 := Blk.cell hz1 1
      have z2 := Blk.cell hz1 2
      have z3 := Blk.cell hz1 3
      simp only [List.getElem?_toArray, List.getElem?_cons_zero, List.getElem?_cons_succ] at z0 z1 z2 z3
      have f0 := Blk.frozen hz1 0
      have f1 := Blk.frozen hz1 1
      have f2 := Blk.frozen hz1 2
      have f3 := Blk.frozen hz1 3
      have hfin := rp_put hz1 (.int .i64 50) (.int .i64 0) (.string ByteArray.empty) (.slice none 0 0)
      have e0 := Blk.cell hfin 0
      have e1 := Blk.cell hfin 1
      have e2 := Blk.cell hfin 2
      have e3 := Blk.cell hfin 3
      simp only [List.getElem?_toArray, List.getElem?_cons_zero, List.getElem?_cons_succ] at e0 e1 e2 e3
      have HRF := Lib.hid (rowT_four hr1 hne (.int .i64 50) (.int .i64 0) (.string ByteArray.empty) (.slice none 0 0))
      have HXF := Lib.hid (exT_four hx1 hz1 (by decide) (.int .i64 50) (.int .i64 0) (.string ByteArray.empty) (.slice none 0 0))
      have HBF := Lib.hid (below_four (g := (w.heap.size + 1)) hb1 (by omega) (.int .i64 50) (.int .i64 0) (.string ByteArray.empty) (.slice none 0 0))
      clear hfin
      go_wp2_with fail
      refine bodyPost_ret (v := .tuple #[.slice A n cap, .agg #[(.int .i64 50), (.int .i64 0), (.string ByteArray.empty), (.slice none 0 0)]]) (by simp [results, Try.results36, go_sem, e0, e1, e2, e3]) rfl ⟨_, l, by rw [HE.out]; rfl, HRF.out, by rw [HE.out], HXF.out, HBF.out⟩
    · have h20n : n < 20 := by omega
      have HE : Hid (putT (l.map Prod.fst) none o = (insT (l.map Prod.fst) (newR o), ⟨0, 1, ByteArray.empty, []⟩)) := by show putT _ none o = _; unfold putT; simp only; rw [if_neg (by rw [List.length_map, ← HN.out]; omega)]
      have d1 : ¬ ((20 : Int) ≤ (n : Int)) := by omega
      obtain ⟨A0, cap0, hv0, hc0, hps0⟩ := HR0.out.parts
      rw [← HN.out] at hv0 hps0
      obtain ⟨rfl, rfl⟩ : A = A0 ∧ cap = cap0 := by simp only [Value.slice.injEq, true_and] at hv0; exact hv0
      have HQW : Hid (RcW (newR o)) := newR_wf HO.out
      have hsq : SlP [(newR o, Value.slice none 0 0)] := fun p hp => by rw [List.mem_singleton] at hp; rw [hp]; exact ⟨_, _, _, rfl⟩
      have qw : Calls Try.prog 52 #[.slice A n cap, .agg #[.string o.key, .string o.value, .int .i64 1, .int .i64 0, .string ⟨#[]⟩, .slice none 0 0]] W0 (fun e w' => ∃ v, e = .returned v ∧ RowT w' W0.heap.size v (insP l (newR o, .slice none 0 0)) ∧ Below W0.heap.size W0 w') := refwith_any l (newR o, .slice none 0 0) A n cap W0 hps0 HX0.out.sl hsq (by omega)
      clear hv0 hps0 hsq h20
      go_enter Try.func36, Try.ntmps36
      go_wp2_with fail
      ((with_reducible refine qw.mono ?_); rintro e W1 ⟨v1, rfl, hr1, b1⟩)
      clear qw
      have hz1 := Blk.below HZB.out b1
      have hx1 : ExT W1 (insP l (newR o, .slice none 0 0)) := fun p hp => by
        rcases insP_mem hp with rfl | h
        · exact ⟨HQW.out, none, 0, 0, rfl, Nat.le_refl _, isFs_nil _ _, fun h => by omega⟩
        · exact (HX0.out.below b1) p h
      have hr1' := hr1.base (b := base) (by have := HS1.out; omega)
      have hb1 : Below base w W1 := by have h1 := HBW.out; have h2 := bch HBW2.out b1; exact ⟨h2.os, h2.tape, h2.output, h2.size, fun i hi => h2.block i (by omega)⟩
      have hne := row_lt_ne hr1' hz1 (by decide)
      have hmp := insP_map l (newR o, .slice none 0 0)
      have HMP := Lib.hid hmp; clear hmp hr1
      have z0 := Blk.cell hz1 0
      have z1 := Blk.cell hz1 1
      have z2 := Blk.cell hz1 2
      have z3 := Blk.cell hz1 3
      simp only [List.getElem?_toArray, List.getElem?_cons_zero, List.getElem?_cons_succ] at z0 z1 z2 z3
      have f0 := Blk.frozen hz1 0
      have f1 := Blk.frozen hz1 1
      have f2 := Blk.frozen hz1 2
      have f3 := Blk.frozen hz1 3
      have hfin := rp_put hz1 (.int .i64 0) (.int .i64 1) (.string ⟨#[]⟩) (.slice none 0 0)
      have e0 := Blk.cell hfin 0
      have e1 := Blk.cell hfin 1
      have e2 := Blk.cell hfin 2
      have e3 := Blk.cell hfin 3
      simp only [List.getElem?_toArray, List.getElem?_cons_zero, List.getElem?_cons_succ] at e0 e1 e2 e3
      have HRF := Lib.hid (rowT_four hr1' hne (.int .i64 0) (.int .i64 1) (.string ⟨#[]⟩) (.slice none 0 0))
      have HXF := Lib.hid (exT_four hx1 hz1 (by decide) (.int .i64 0) (.int .i64 1) (.string ⟨#[]⟩) (.slice none 0 0))
      have HBF := Lib.hid (below_four (g := (w.heap.size + 1)) hb1 (by omega) (.int .i64 0) (.int .i64 1) (.string ⟨#[]⟩) (.slice none 0 0))
      clear hfin
      go_wp2_with fail
      refine bodyPost_ret (v := .tuple #[v1, .agg #[(.int .i64 0), (.int .i64 1), (.string ⟨#[]⟩), (.slice none 0 0)]]) (by simp [results, Try.results36, go_sem, e0, e1, e2, e3]) rfl ⟨_, insP l (newR o, .slice none 0 0), by rw [HE.out]; rfl, HRF.out, by rw [HE.out, HMP.out], HXF.out, HBF.out⟩
  | some i =>
    obtain ⟨hil, hrv0, hrv1⟩ := hk i rfl
    clear hk
    unfold maxN at hrv1
    have hin : i < n := by rw [HN.out]; exact hil
    have hlen2 : n ≤ 20 := by rw [HN.out]; exact hlen
    clear hlen
    have HIL := Lib.hid hil
    unfold plcT
    simp only
    obtain ⟨g, hA, hbg⟩ := HR0.out.at0 HIL.out
    subst hA
    have hx0 := HR0.out.six HIL.out
    have hmR : Hid (atR (l.map Prod.fst) i = (atP l i).1) := (atP_map l HIL.out).symm
    have hii0 : (0 : Int) ≤ (i : Int) := by omega
    have hii1 : (i : Int) < (n : Int) := by omega
    have hii2 : ¬ ((i : Int) < 0) := by omega
    have hgw : g ≠ w.heap.size + 1 := fun e => by
      obtain ⟨cs, fr, h2⟩ := HR0.out.block g (by simp [Value.ownBlock])
      rw [e, show W0.heap[w.heap.size + 1]? = _ from HZB.out] at h2
      simp only [Option.some.injEq, Obj.cells.injEq] at h2
      exact absurd h2.2.1 (by decide)
    have HPW : Hid (RcW (atP l i).1) := (HX0.out _ (atP_mem HIL.out)).1
    by_cases hm : (atP l i).1.rev = 9007199254740992
    · have HE : Hid (putT (l.map Prod.fst) (some i) o = (l.map Prod.fst, faultR 50)) := by show putT _ (some i) o = _; unfold putT; simp only; rw [if_pos (by rw [hmR.out]; exact hm)]
      have d1 : ((atP l i).1.rev == 9007199254740992) = true := by simpa using hm
      clear hm hrv0 hrv1
      generalize atP l i = p at *
      obtain ⟨x0, x1, x2, x3, x4, x5⟩ := hx0
      have qf := fun W => reffault_num 50 50 rfl W
      go_enter Try.func36, Try.ntmps36
      go_wp2_with fail
      ((with_reducible refine (qf _).mono ?_); rintro e W1 ⟨rfl, b1⟩)
      have hz1 := Blk.below HZB.out b1
      have hr1 := HR0.out.below b1
      have hx1 := HX0.out.below b1
      have hb1 : Below base w W1 := by have h1 := HBW.out; have h2 := bch HBW2.out b1; exact ⟨h2.os, h2.tape, h2.output, h2.size, fun i hi => h2.block i (by omega)⟩
      have hne := row_lt_ne hr1 hz1 (by decide)
      clear x0 x1 x2 x3 x4 x5
      have z0 := Blk.cell hz1 0
      have z1 := Blk.cell hz1 1
      have z2 := Blk.cell hz1 2
      have z3 := Blk.cell hz1 3
      simp only [List.getElem?_toArray, List.getElem?_cons_zero, List.getElem?_cons_succ] at z0 z1 z2 z3
      have f0 := Blk.frozen hz1 0
      have f1 := Blk.frozen hz1 1
      have f2 := Blk.frozen hz1 2
      have f3 := Blk.frozen hz1 3
      have hfin := rp_put hz1 (.int .i64 50) (.int .i64 0) (.string ByteArray.empty) (.slice none 0 0)
      have e0 := Blk.cell hfin 0
      have e1 := Blk.cell hfin 1
      have e2 := Blk.cell hfin 2
      have e3 := Blk.cell hfin 3
      simp only [List.getElem?_toArray, List.getElem?_cons_zero, List.getElem?_cons_succ] at e0 e1 e2 e3
      have HRF := Lib.hid (rowT_four hr1 hne (.int .i64 50) (.int .i64 0) (.string ByteArray.empty) (.slice none 0 0))
      have HXF := Lib.hid (exT_four hx1 hz1 (by decide) (.int .i64 50) (.int .i64 0) (.string ByteArray.empty) (.slice none 0 0))
      have HBF := Lib.hid (below_four (g := (w.heap.size + 1)) hb1 (by omega) (.int .i64 50) (.int .i64 0) (.string ByteArray.empty) (.slice none 0 0))
      clear hfin
      go_wp2_with fail
      refine bodyPost_ret (v := .tuple #[.slice (some ⟨g, 0, none⟩) n cap, .agg #[(.int .i64 50), (.int .i64 0), (.string ByteArray.empty), (.slice none 0 0)]]) (by simp [results, Try.results36, go_sem, e0, e1, e2, e3]) rfl ⟨_, l, by rw [HE.out]; rfl, HRF.out, by rw [HE.out], HXF.out, HBF.out⟩
    · have HE : Hid (putT (l.map Prod.fst) (some i) o = ((l.map Prod.fst).set i (putR (atP l i).1 o), ⟨0, (atP l i).1.rev + 1, ByteArray.empty, []⟩)) := by show putT _ (some i) o = _; unfold putT; simp only; rw [if_neg (by rw [hmR.out]; exact hm), hmR.out]
      have d1 : ((atP l i).1.rev == 9007199254740992) = false := by simpa using hm
      have hwr : IntKind.i64.wrap ((atP l i).1.rev + 1) = (atP l i).1.rev + 1 := IntWalk.i64_in _ (by omega)
      have HREV : Hid ((Lit.int .i64 ((atP l i).1.rev + 1)).wf = true) := wf_within (by omega) (by omega)
      clear hm hrv0 hrv1
      have hr1 := (RowT.set HR0.out i 1 (.string o.value) ({ (atP l i).1 with value := o.value }, (atP l i).2) HIL.out (by omega) rfl).1
      have hil1 : i < (l.set i ({ (atP l i).1 with value := o.value }, (atP l i).2)).length := by rw [List.length_set]; exact HIL.out
      have hx1 := hr1.six hil1
      have hr2 := (RowT.set hr1 i 2 (.int .i64 ((atP l i).1.rev + 1)) (putR (atP l i).1 o, (atP l i).2) hil1 (by omega) (by rw [atP_set HIL.out]; rfl)).1
      rw [List.set_set] at hr2
      have hil2 : i < (l.set i (putR (atP l i).1 o, (atP l i).2)).length := by rw [List.length_set]; exact HIL.out
      have hx2 := hr2.six hil2
      rw [atP_set HIL.out] at hx1 hx2
      have hE1 := HX0.out.kept (gb_set W0 g (i * 6 + 1) (.string o.value)) (fun k e => by cases e; exact HR0.out.block g (by simp [Value.ownBlock]))
      have hE2 := hE1.kept (gb_set _ g (i * 6 + 2) (.int .i64 ((atP l i).1.rev + 1))) (fun k e => by cases e; exact hr1.block g (by simp [Value.ownBlock]))
      have hE3 := exT_set hE2 HIL.out (r := putR (atP l i).1 o) ⟨⟨HPW.out.1.1, HO.out.2.2.1, HPW.out.1.2.2⟩, HREV.out, HPW.out.2.2⟩ rfl
      have hz2 := Blk.far (Blk.far HZB.out hgw.symm (i * 6 + 1) (.string o.value)) hgw.symm (i * 6 + 2) (.int .i64 ((atP l i).1.rev + 1))
      have ho1 : OpBlk (W0.setCell ⟨g, i * 6 + 1, none⟩ (.string o.value)) w.heap.size o := Blk.far HOB.out (fun e => by
        obtain ⟨cs, fr, h2⟩ := HR0.out.block g (by simp [Value.ownBlock])
        rw [← e, show W0.heap[w.heap.size]? = _ from HOB.out] at h2
        simp only [Option.some.injEq, Obj.cells.injEq] at h2
        exact absurd h2.2.1 (by decide)) _ _
      have hb2 := (HBW.out.setCell (p := ⟨g, i * 6 + 1, none⟩) hbg (.string o.value)).setCell (p := ⟨g, i * 6 + 2, none⟩) hbg (.int .i64 ((atP l i).1.rev + 1))
      have HMP : Hid ((l.set i (putR (atP l i).1 o, (atP l i).2)).map Prod.fst = (l.map Prod.fst).set i (putR (atP l i).1 o)) := map_setP l i _
      obtain ⟨l2, hl2⟩ : ∃ l2, l.set i (putR (atP l i).1 o, (atP l i).2) = l2 := ⟨_, rfl⟩
      rw [hl2] at hr2 hE3 HMP
      clear hl2 hil1 hil2 hE1 hE2
      have g1 : W0.frozen? ⟨g, i * 6 + 1, none⟩ = false := HR0.out.frozen
      have g2 : (W0.setCell ⟨g, i * 6 + 1, none⟩ (.string o.value)).frozen? ⟨g, i * 6 + 2, none⟩ = false := hr1.frozen
      obtain ⟨x0, x1, x2, x3, x4, x5⟩ := hx0
      obtain ⟨_, _, y2, _, _, _⟩ := hx1
      obtain ⟨_, _, u2, _, _, _⟩ := hx2
      clear hr1
      generalize atP l i = p at *
      simp only [putR] at y2 u2
      have HR2 := Lib.hid hr2; clear hr2
      have HE3 := Lib.hid hE3; clear hE3
      have HZ2 := Lib.hid hz2; clear hz2
      have HB2 := Lib.hid hb2; clear hb2
      have HO1 := Lib.hid ho1; clear ho1
      go_enter Try.func36, Try.ntmps36
      go_upto_region 7 with fail
      obtain ⟨V, hV⟩ : ∃ V, (W0.setCell ⟨g, i * 6 + 1, none⟩ (.string o.value)).setCell ⟨g, i * 6 + 2, none⟩ (.int .i64 (p.1.rev + 1)) = V := ⟨_, rfl⟩
      rw [hV] at u2 HR2 HE3 HZ2 HB2 ⊢
      clear hV x0 x1 x2 x3 x4 x5 y2 g1 g2 c0 c1 c2 c3 c4 c5 c6
      have z0 := Blk.cell HZ2.out 0
      have z1 := Blk.cell HZ2.out 1
      have z2 := Blk.cell HZ2.out 2
      have z3 := Blk.cell HZ2.out 3
      simp only [List.getElem?_toArray, List.getElem?_cons_zero, List.getElem?_cons_succ] at z0 z1 z2 z3
      have f0 := Blk.frozen HZ2.out 0
      have f1 := Blk.frozen HZ2.out 1
      have f2 := Blk.frozen HZ2.out 2
      have f3 := Blk.frozen HZ2.out 3
      have hne := row_lt_ne HR2.out HZ2.out (by decide)
      have HNE := Lib.hid hne; clear hne
      go_region
      have hfin := rp_put HZ2.out (.int .i64 0) (.int .i64 (p.1.rev + 1)) (.string ⟨#[]⟩) (.slice none 0 0)
      have e0 := Blk.cell hfin 0
      have e1 := Blk.cell hfin 1
      have e2 := Blk.cell hfin 2
      have e3 := Blk.cell hfin 3
      simp only [List.getElem?_toArray, List.getElem?_cons_zero, List.getElem?_cons_succ] at e0 e1 e2 e3
      have HRF := Lib.hid (rowT_four HR2.out HNE.out (.int .i64 0) (.int .i64 (p.1.rev + 1)) (.string ⟨#[]⟩) (.slice none 0 0))
      have HXF := Lib.hid (exT_four HE3.out HZ2.out (by decide) (.int .i64 0) (.int .i64 (p.1.rev + 1)) (.string ⟨#[]⟩) (.slice none 0 0))
      have HBF := Lib.hid (below_four (g := (w.heap.size + 1)) HB2.out (by omega) (.int .i64 0) (.int .i64 (p.1.rev + 1)) (.string ⟨#[]⟩) (.slice none 0 0))
      clear hfin
      go_wp2_with fail
      refine bodyPost_ret (v := .tuple #[.slice (some ⟨g, 0, none⟩) n cap, .agg #[(.int .i64 0), (.int .i64 (p.1.rev + 1)), (.string ⟨#[]⟩), (.slice none 0 0)]]) (by simp [results, Try.results36, go_sem, e0, e1, e2, e3]) rfl ⟨_, l2, by rw [HE.out]; rfl, HRF.out.drew, by rw [HE.out, HMP.out], HXF.out.drew, HBF.out.drew⟩
end Go.Proofs.Ytpnkkiokkhmjpaa
