import Derived.Test.YtgckoihangccbaaRpKeep
import Derived.Lib.SliceRun
/-
  The contracts of slices.Clone of texts and of clients' last calls, and of the program's own copied and copiedAll (stage 13).
-/
namespace Go.Proofs.Ytgckoihangccbaa
open Go.RowKit
set_option linter.unusedVariables false
set_option linter.unusedSimpArgs false

theorem RowD.frozen {W : World} {base g n cap j : Nat} {l : List (DnR × Value)} (h : RowD W base (.slice (some ⟨g, 0, none⟩) n cap) l) : W.frozen? ⟨g, j, none⟩ = false := by
  rcases h.2 with ⟨h1, _⟩ | ⟨g2, _, cur, h1, _, hh, _⟩
  · simp at h1
  · simp only [Value.slice.injEq, Option.some.injEq, Addr.mk.injEq, and_true, true_and] at h1
    rw [h1.1]; exact frozen_blk hh j
theorem RowD.six {W : World} {base g n cap i : Nat} {l : List (DnR × Value)} (h : RowD W base (.slice (some ⟨g, 0, none⟩) n cap) l) (hi : i < l.length) : DnAt W g (i * 6) (atQ l i).1 (atQ l i).2 := by
  obtain ⟨A0, cap0, hv0, _, hps⟩ := h.parts
  simp only [Value.slice.injEq] at hv0
  obtain ⟨rfl, _, _⟩ := hv0
  have := hps.at hi (Below.refl _ _)
  rw [Nat.zero_add] at this
  exact this
theorem atQ_set {l : List (DnR × Value)} {i : Nat} {q : DnR × Value} (h : i < l.length) : atQ (l.set i q) i = q := by
  rw [atQ_get (by simpa using h), List.getElem_set_self]
theorem RowD.at0 {W : World} {base n cap i : Nat} {A : Option Addr} {l : List (DnR × Value)} (h : RowD W base (.slice A n cap) l) (hi : i < l.length) : ∃ g, A = some ⟨g, 0, none⟩ ∧ base ≤ g := by
  rcases h.2 with ⟨h1, h2⟩ | ⟨g, _, _, h1, hb, _⟩
  · omega
  · simp only [Value.slice.injEq] at h1; exact ⟨g, h1.1, hb⟩
theorem map_setQ (l : List (DnR × Value)) (i : Nat) (q : DnR × Value) : (l.set i q).map Prod.fst = (l.map Prod.fst).set i q.1 := List.map_set
/-- A call of a row gets another reply. -/
def setRep (W : World) (g i : Nat) (r : RepR) (u : Value) : World := (((W.setCell ⟨g, i * 6 + 2, none⟩ (.int .i64 r.errno)).setCell ⟨g, i * 6 + 3, none⟩ (.int .i64 r.rev)).setCell ⟨g, i * 6 + 4, none⟩ (.string r.value)).setCell ⟨g, i * 6 + 5, none⟩ u
theorem RowD.setRep {W : World} {base g n cap i : Nat} {l : List (DnR × Value)} (h : RowD W base (.slice (some ⟨g, 0, none⟩) n cap) l) (hi : i < l.length) (r : RepR) (u : Value) :
    RowD (setRep W g i r u) base (.slice (some ⟨g, 0, none⟩) n cap) (l.set i (⟨(atQ l i).1.client, (atQ l i).1.id, r⟩, u)) := by
  have h1 := (RowD.set h i 2 (.int .i64 r.errno) (⟨(atQ l i).1.client, (atQ l i).1.id, ⟨r.errno, (atQ l i).1.rep.rev, (atQ l i).1.rep.value, r.keys⟩⟩, (atQ l i).2) hi (by omega) rfl).1
  have h2 := (RowD.set h1 i 3 (.int .i64 r.rev) (⟨(atQ l i).1.client, (atQ l i).1.id, ⟨r.errno, r.rev, (atQ l i).1.rep.value, r.keys⟩⟩, (atQ l i).2) (by rw [List.length_set]; exact hi) (by omega) (by rw [atQ_set hi]; rfl)).1
  rw [List.set_set] at h2
  have h3 := (RowD.set h2 i 4 (.string r.value) (⟨(atQ l i).1.client, (atQ l i).1.id, r⟩, (atQ l i).2) (by rw [List.length_set]; exact hi) (by omega) (by rw [atQ_set hi]; rfl)).1
  rw [List.set_set] at h3
  have h4 := (RowD.set h3 i 5 u (⟨(atQ l i).1.client, (atQ l i).1.id, r⟩, u) (by rw [List.length_set]; exact hi) (by omega) (by rw [atQ_set hi]; rfl)).1
  rw [List.set_set] at h4
  exact h4
theorem gb_rep (W : World) (g i : Nat) (r : RepR) (u : Value) : W.grownBy (setRep W g i r u) (some g) :=
  (((gb_set13 W g (i * 6 + 2) (.int .i64 r.errno)).trans (gb_set13 _ g (i * 6 + 3) (.int .i64 r.rev))).trans (gb_set13 _ g (i * 6 + 4) (.string r.value))).trans (gb_set13 _ g (i * 6 + 5) u)
/-- Calls that lie anywhere, with what each has. -/
def Ky0 (w : World) (l : List (DnR × Value)) : Prop := ∀ p ∈ l, DnW p.1 ∧ ∃ E m c, p.2 = .slice E m c ∧ m ≤ c ∧ IsSs w E m p.1.rep.keys
theorem Ky0.sl {w : World} {l : List (DnR × Value)} (h : Ky0 w l) : SlD l := fun p hp => by
  obtain ⟨_, E, m, c, e, _⟩ := h p hp
  exact ⟨E, m, c, e⟩
theorem IsDs.pairs {w : World} {A : Option Addr} {n : Nat} {t : List DnR} (h : IsDs w A n t) : ∃ l : List (DnR × Value), l.map Prod.fst = t ∧ IsQs w A n l ∧ Ky0 w l := by
  obtain ⟨hn, hm, hw, hc⟩ := h
  rcases Nat.eq_zero_or_pos n with h0 | hp
  · have ht : t = [] := List.eq_nil_of_length_eq_zero (by omega)
    subst ht
    exact ⟨[], rfl, ⟨by simpa using h0, hm, fun h => by omega⟩, fun p hp => nomatch hp⟩
  · obtain ⟨b, off, hA, hb, hat⟩ := hc hp
    have hch : ∀ i : Nat, ∃ x : Value, i < t.length → ∃ E m c, x = .slice E m c ∧ DnAt w b (off + i * 6) (atD t i) x ∧ m ≤ c ∧ IsSs w E m (atD t i).rep.keys := fun i => by
      by_cases hi : i < t.length
      · obtain ⟨E, m, c, h1, h2, h3⟩ := hat i hi
        exact ⟨_, fun _ => ⟨E, m, c, rfl, h1, h2, h3⟩⟩
      · exact ⟨undef, fun h => absurd h hi⟩
    obtain ⟨f, hf⟩ := Classical.axiomOfChoice hch
    have hlen : ((List.range t.length).map fun i => (atD t i, f i)).length = t.length := by simp
    have hat2 : ∀ i, i < t.length → atQ ((List.range t.length).map fun i => (atD t i, f i)) i = (atD t i, f i) := fun i hi => by
      rw [atQ_get (by rw [hlen]; exact hi)]; simp
    refine ⟨(List.range t.length).map fun i => (atD t i, f i), ?_, ⟨by rw [hlen, hn], hm, fun _ => ⟨b, off, hA, hb, fun i hi => ?_⟩⟩, fun p hp => ?_⟩
    · refine List.ext_getElem (by simp) fun i h1 h2 => ?_
      simp only [List.getElem_map, List.getElem_range]
      exact atD_get h2
    · rw [hlen] at hi
      rw [hat2 i hi]
      obtain ⟨E, m, c, _, h1, _⟩ := hf i hi
      exact h1
    · obtain ⟨i, hi, rfl⟩ := List.mem_map.1 hp
      have hi2 : i < t.length := by simpa using hi
      obtain ⟨E, m, c, e, _, h2, h3⟩ := hf i hi2
      exact ⟨hw _ (atD_mem hi2), E, m, c, e, h2, h3⟩
set_option maxRecDepth 100000 in
set_option maxHeartbeats 8000000 in
theorem cloneD_any (A : Option Addr) (n cap : Nat) (l : List (DnR × Value)) (w : World) (h : IsQs w A n l) (hs : SlD l) (h20 : n ≤ 1000) :
    Calls Try.prog 35 #[.slice A n cap] w fun e w' => ∃ v, e = .returned v ∧ RowD w' w.heap.size v l ∧ Below w.heap.size w w' := by
  have q22 : ∀ (w : World) (a : Option Addr) (n c n' c' : Nat), (binOp .eql 25 (.slice a n c) (.slice none n' c')).run Try.prog w = .ok (.bool a.isNone) w := fun w a n c n' c' => Lib.run_eql_slice_nil w _ _ a n c n' c' Try.underlying25
  have HN := Lib.hid h.1
  have HPS := Lib.hid h; clear h
  have HSL := Lib.hid hs; clear hs
  go_enter Try.func35, Try.ntmps35
  cases A with
  | none =>
    have hn0 : n = 0 := by
      rcases Nat.eq_zero_or_pos n with h | h
      · exact h
      · obtain ⟨b, off, e, _⟩ := HPS.out.2.2 h; cases e
    have hl : l = [] := List.eq_nil_of_length_eq_zero (by rw [← HN.out, hn0])
    subst hl
    clear hn0
    go_wp2_with fail
    go_ret
    exact ⟨_, rfl, rowD_nil _ _, Below.refl _ _⟩
  | some a =>
    go_wp2_with (at_builtin; refine wpList_append_dn rfl _ _ rfl w.heap.size _ [] rfl (World.ownsRow_made w #[] 0 (Nat.le_refl _) (Nat.zero_le _) rfl) (some a) n cap l rfl (HPS.out.below ((Below.refl _ w).alloc (Nat.le_refl _) _)) HSL.out (by simp; omega) (by simp) ?_)
    intro v1 w1 hrow hgrow
    have hb : Below w.heap.size w w1 := ((Below.refl _ w).alloc (Nat.le_refl _) _).grown hgrow (by simp) (by intro k hk; simp [Value.ownBlock] at hk; omega)
    have HR : Hid (RowD w1 w.heap.size v1 l) := hrow
    clear hrow hgrow
    go_wp2_with fail
    go_ret
    exact ⟨_, rfl, HR.out, hb⟩
/-- What a clone of texts leaves. -/
def CloS (w : World) (ks : List ByteArray) (e : Ending) (w' : World) : Prop :=
  ∃ E m c, e = .returned (.slice E m c) ∧ m ≤ c ∧ IsSs w' E m ks ∧ StrT w' E m ∧ Below w.heap.size w w'
set_option maxRecDepth 100000 in
set_option maxHeartbeats 8000000 in
theorem cloneS_any (A : Option Addr) (n cap : Nat) (ks : List ByteArray) (w : World) (h : IsSs w A n ks) (h16 : n * 16 ≤ 140737488351232) :
    Calls Try.prog 38 #[.slice A n cap] w (CloS w ks) := by
  have q22 : ∀ (w : World) (a : Option Addr) (n c n' c' : Nat), (binOp .eql 29 (.slice a n c) (.slice none n' c')).run Try.prog w = .ok (.bool a.isNone) w := fun w a n c n' c' => Lib.run_eql_slice_nil w _ _ a n c n' c' Try.underlying29
  have HN := Lib.hid h.1
  have HFS := Lib.hid h; clear h
  have H16 := Lib.hid h16; clear h16
  go_enter Try.func38, Try.ntmps38
  cases A with
  | none =>
    have hn0 : n = 0 := by
      rcases Nat.eq_zero_or_pos n with h | h
      · exact h
      · obtain ⟨b, off, e, _⟩ := HFS.out.2.2.2 h; cases e
    have hl : ks = [] := List.eq_nil_of_length_eq_zero (by rw [← HN.out, hn0])
    subst hl
    clear hn0
    go_wp2_with fail
    go_ret
    exact ⟨none, 0, 0, rfl, Nat.le_refl _, isSs_nil _ _, fun h => by omega, Below.refl _ _⟩
  | some a =>
    go_wp2_with (at_builtin; refine wpList_append_sl rfl _ _ rfl w.heap.size _ [] rfl (World.ownsRow_made w #[] 0 (Nat.le_refl _) (Nat.zero_le _) rfl) (some a) n cap ks rfl (HFS.out.below ((Below.refl _ w).alloc (Nat.le_refl _) _)) (by have := H16.out; simp; omega) (by simp) ?_)
    intro v1 w1 hrow hgrow
    have hrow1 : RowK w1 w.heap.size v1 ks := hrow
    obtain ⟨A2, cap2, hv2, hcap2, hss2⟩ := hrow1.isSs HFS.out.2.2.1
    subst hv2
    have hft2 := hrow1.strT
    have hb : Below w.heap.size w w1 := ((Below.refl _ w).alloc (Nat.le_refl _) _).grown hgrow (by simp) (by intro k hk; simp [Value.ownBlock] at hk; omega)
    have HR : Hid (CloS w ks (.returned (.slice A2 ks.length cap2)) w1) := ⟨A2, _, cap2, rfl, hcap2, hss2, hft2, hb⟩
    clear hrow hrow1 hgrow hft2 hss2 hb
    go_wp2_with fail
    go_ret
    exact HR.out
/-- What copied leaves: the same reply, its keys in new memory. -/
def CopP (w : World) (r : RepR) (e : Ending) (w' : World) : Prop :=
  ∃ E m c, e = .returned (rpV r (.slice E m c)) ∧ m ≤ c ∧ IsSs w' E m r.keys ∧ StrT w' E m ∧ Below w.heap.size w w'
theorem StrT.far13 {W : World} {g j m : Nat} {E : Option Addr} {u : Value} {cs : Array Value} {T : TypeId} {fr : Nat × Nat} (h : StrT W E m) (hb : Blk W g (.cells cs T fr)) (hT : T ≠ 9) : StrT (W.setCell ⟨g, j, none⟩ u) E m := fun hm => by
  obtain ⟨b, off, cs2, fr2, e, hh⟩ := h hm
  refine ⟨b, off, cs2, fr2, e, ?_⟩
  rw [heap_setCell_other W ⟨g, j, none⟩ b u (fun e2 => ?_)]
  · exact hh
  · have e3 : g = b := by simpa using e2.symm
    subst e3
    rw [show W.heap[g]? = _ from hb] at hh
    simp only [Option.some.injEq, Obj.cells.injEq] at hh
    exact hT hh.2.1
/-- Keys in new memory, in a block of texts: a store elsewhere turns nothing of them. -/
def KeyS (W : World) (E : Option Addr) (m : Nat) (ks : List ByteArray) : Prop := IsSs W E m ks ∧ StrT W E m
theorem KeyS.far {W : World} {g j m : Nat} {E : Option Addr} {u : Value} {cs : Array Value} {T : TypeId} {fr : Nat × Nat} {ks : List ByteArray} (h : KeyS W E m ks) (hb : Blk W g (.cells cs T fr)) (hT : T ≠ 9) : KeyS (W.setCell ⟨g, j, none⟩ u) E m ks := by
  obtain ⟨r, hr⟩ : ∃ r : RepR, r = ⟨0, 0, ByteArray.empty, ks⟩ := ⟨_, rfl⟩
  have hk : KyAt W (⟨0, 0, r⟩, .slice E m m) := ⟨E, m, m, rfl, Nat.le_refl _, by rw [hr]; exact h.1, h.2⟩
  have h2 := hk.kept2 (gb_set13 W g j u) (fun k e => by cases e; exact ⟨cs, T, fr, hb, hT⟩)
  obtain ⟨E2, m2, c2, e, _, h3, h4⟩ := h2
  simp only [Value.slice.injEq] at e
  obtain ⟨rfl, rfl, _⟩ := e
  exact ⟨by rw [hr] at h3; exact h3, h4⟩
set_option maxRecDepth 100000 in
set_option maxHeartbeats 8000000 in
theorem copiedR_any (r : RepR) (K : Option Addr) (k kc : Nat) (w : World) (h : IsSs w K k r.keys) (h16 : k * 16 ≤ 140737488351232) :
    Calls Try.prog 23 #[rpV r (.slice K k kc)] w (CopP w r) := by
  have hb1 : Below w.heap.size w (w.alloc (.cells #[.int .i64 r.errno, .int .i64 r.rev, .string r.value, .slice K k kc] 31)) := (Below.refl _ _).alloc (Nat.le_refl _) _
  have hb2 : Below w.heap.size w ((w.alloc (.cells #[.int .i64 r.errno, .int .i64 r.rev, .string r.value, .slice K k kc] 31)).alloc (.cells #[.int .i64 0, .int .i64 0, .string ⟨#[]⟩, .slice none 0 0] 31)) := hb1.alloc (by simp) _
  have hx := Blk.below (Blk.new w (.cells #[.int .i64 r.errno, .int .i64 r.rev, .string r.value, .slice K k kc] 31)) ((Below.refl _ _).alloc (Nat.le_refl _) (.cells #[.int .i64 0, .int .i64 0, .string ⟨#[]⟩, .slice none 0 0] 31))
  have hz : Blk ((w.alloc (.cells #[.int .i64 r.errno, .int .i64 r.rev, .string r.value, .slice K k kc] 31)).alloc (.cells #[.int .i64 0, .int .i64 0, .string ⟨#[]⟩, .slice none 0 0] 31)) (w.heap.size + 1) (.cells #[.int .i64 0, .int .i64 0, .string ⟨#[]⟩, .slice none 0 0] 31 (0, 0)) := by
    have h := Blk.new (w.alloc (.cells #[.int .i64 r.errno, .int .i64 r.rev, .string r.value, .slice K k kc] 31)) (.cells #[.int .i64 0, .int .i64 0, .string ⟨#[]⟩, .slice none 0 0] 31); rw [World.size_alloc] at h; exact h
  obtain ⟨W0, hW0⟩ : ∃ W, (w.alloc (.cells #[.int .i64 r.errno, .int .i64 r.rev, .string r.value, .slice K k kc] 31)).alloc (.cells #[.int .i64 0, .int .i64 0, .string ⟨#[]⟩, .slice none 0 0] 31) = W := ⟨_, rfl⟩
  rw [hW0] at hb2 hx hz
  have q := cloneS_any K k kc r.keys W0 (h.below hb2) h16
  clear hb1 h h16
  have HB := Lib.hid hb2; clear hb2
  have q3 := Blk.cell hx 3
  simp only [List.getElem?_toArray, List.getElem?_cons_zero, List.getElem?_cons_succ] at q3
  have HX := Lib.hid hx; clear hx
  have HZ := Lib.hid hz; clear hz
  have HS : Hid (w.heap.size + 1 < W0.heap.size) := Blk.lt HZ.out
  unfold rpV
  go_enter Try.func23, Try.ntmps23
  go_wp2_with fail
  ((with_reducible refine q.mono ?_); rintro e W1 ⟨A1, m1, c1, rfl, hc1, hss1, hst1, b1⟩)
  clear q q3
  have hx1 := Blk.below HX.out b1
  have hz1 := Blk.below HZ.out b1
  have HC1 := Lib.hid hc1; clear hc1
  have hk1 : KeyS W1 A1 m1 r.keys := ⟨hss1, hst1⟩
  have HB1 := Lib.hid (bch HB.out b1); clear b1 hss1 hst1
  have hx2 := Blk.set hx1 3 (.slice A1 m1 c1) #[.int .i64 r.errno, .int .i64 r.rev, .string r.value, .slice A1 m1 c1] rfl
  have hz2 := Blk.far hz1 (show w.heap.size + 1 ≠ w.heap.size by omega) 3 (.slice A1 m1 c1)
  have hk2 := hk1.far (j := 3) (u := .slice A1 m1 c1) hx1 (by decide)
  have hb2 := HB1.out.setCell (p := ⟨w.heap.size, 3, none⟩) (Nat.le_refl _) (.slice A1 m1 c1)
  have l3 := Blk.cell hx1 3
  have lf3 := Blk.frozen hx1 3
  simp only [List.getElem?_toArray, List.getElem?_cons_zero, List.getElem?_cons_succ] at l3
  have HX2 := Lib.hid hx2; clear hx2
  have HZ2 := Lib.hid hz2; clear hz2
  have HK2 := Lib.hid hk2; clear hk2
  have HB2 := Lib.hid hb2; clear hb2 hk1 hz1 hx1
  go_upto_region 2 with fail
  obtain ⟨W2, hW2⟩ : ∃ W, W1.setCell ⟨w.heap.size, 3, none⟩ (.slice A1 m1 c1) = W := ⟨_, rfl⟩
  rw [hW2] at HX2 HZ2 HK2 HB2 ⊢
  clear hW2 l3 lf3
  have l0 := Blk.cell HX2.out 0
  have l1 := Blk.cell HX2.out 1
  have l2 := Blk.cell HX2.out 2
  have l3 := Blk.cell HX2.out 3
  have z0 := Blk.cell HZ2.out 0
  have z1 := Blk.cell HZ2.out 1
  have z2 := Blk.cell HZ2.out 2
  have z3 := Blk.cell HZ2.out 3
  simp only [List.getElem?_toArray, List.getElem?_cons_zero, List.getElem?_cons_succ] at l0 l1 l2 l3 z0 z1 z2 z3
  have f0 := Blk.frozen HZ2.out 0
  have f1 := Blk.frozen HZ2.out 1
  have f2 := Blk.frozen HZ2.out 2
  have f3 := Blk.frozen HZ2.out 3
  have hfin := rp_put13 HZ2.out (.int .i64 r.errno) (.int .i64 r.rev) (.string r.value) (.slice A1 m1 c1)
  have e0 := Blk.cell hfin 0
  have e1 := Blk.cell hfin 1
  have e2 := Blk.cell hfin 2
  have e3 := Blk.cell hfin 3
  simp only [List.getElem?_toArray, List.getElem?_cons_zero, List.getElem?_cons_succ] at e0 e1 e2 e3
  have hs1 := Blk.set HZ2.out 0 (.int .i64 r.errno) #[.int .i64 r.errno, .int .i64 0, .string ⟨#[]⟩, .slice none 0 0] rfl
  have hs2 := Blk.set hs1 1 (.int .i64 r.rev) #[.int .i64 r.errno, .int .i64 r.rev, .string ⟨#[]⟩, .slice none 0 0] rfl
  have hs3 := Blk.set hs2 2 (.string r.value) #[.int .i64 r.errno, .int .i64 r.rev, .string r.value, .slice none 0 0] rfl
  have HKF := Lib.hid ((((HK2.out.far (j := 0) (u := .int .i64 r.errno) HZ2.out (by decide)).far (j := 1) (u := .int .i64 r.rev) hs1 (by decide)).far (j := 2) (u := .string r.value) hs2 (by decide)).far (j := 3) (u := .slice A1 m1 c1) hs3 (by decide))
  have HBF := Lib.hid (below_four13 (g := w.heap.size + 1) HB2.out (Nat.le_succ _) (.int .i64 r.errno) (.int .i64 r.rev) (.string r.value) (.slice A1 m1 c1))
  clear hfin hs1 hs2 hs3
  go_wp2_with fail
  refine bodyPost_ret (v := rpV r (.slice A1 m1 c1)) (by simp [rpV, results, Try.results23, go_sem, e0, e1, e2, e3]) rfl ⟨A1, m1, c1, rfl, HC1.out, HKF.out.1, HKF.out.2, HBF.out⟩
/-- A cache in new memory, all its own. -/
def OwnD13 (w : World) (t : List DnR) (e : Ending) (w' : World) : Prop :=
  ∃ v l, e = .returned v ∧ RowD w' w.heap.size v l ∧ l.map Prod.fst = t ∧ KyT w' l ∧ Below w.heap.size w w'
set_option maxRecDepth 100000 in
set_option maxHeartbeats 8000000 in
theorem copiedAll_any (t : List DnR) (A : Option Addr) (n cap : Nat) (w : World) (h : IsDs w A n t) (h20 : n ≤ 1000) :
    Calls Try.prog 21 #[.slice A n cap] w (OwnD13 w t) := by
  obtain ⟨l, hlm, hps, hex⟩ := h.pairs
  have HN : Hid (n = l.length) := hps.1
  have q := cloneD_any A n cap l w hps hex.sl h20
  have HLM := Lib.hid hlm; clear hlm hps h
  have HE0 := Lib.hid hex; clear hex
  go_enter Try.func21, Try.ntmps21
  go_wp2_with fail
  ((with_reducible refine q.mono ?_); rintro e W1 ⟨v, rfl, hrow, b1⟩)
  clear q
  obtain ⟨A1, cap1, hv, hc1, _⟩ := hrow.parts
  rw [← HN.out] at hv
  subst hv
  have HR1 := Lib.hid hrow; clear hrow
  have HB1 := Lib.hid b1; clear b1
  go_wp2_with fail
  go_loopw [9] (fun i wy => ∃ (k : Nat) (wr : World) (lk : List (DnR × Value)), wr = wy ∧ k ≤ n ∧ i = .int .i64 k ∧ RowD wr w.heap.size (.slice A1 n cap1) lk ∧ lk.map Prod.fst = l.map Prod.fst ∧ (∀ j, j < k → KyAt wr (atQ lk j)) ∧ (∀ j, k ≤ j → atQ lk j = atQ l j) ∧ Below w.heap.size w wr) (fun i _ => n - (intOf i).toNat)
  case atStart => exact ⟨0, _, l, rfl, by omega, rfl, HR1.out, rfl, (fun j hj => by omega), (fun j hj => rfl), HB1.out⟩
  case round =>
    clear HR1 HB1
    obtain ⟨k, wr, lk, rfl, hk, rfl, hrow, hmap, hdone, hrest, hb⟩ := hrel
    have HROW := Lib.hid hrow; clear hrow
    have HMAP := Lib.hid hmap; clear hmap
    have HDONE := Lib.hid hdone; clear hdone
    have HREST := Lib.hid hrest; clear hrest
    have HB := Lib.hid hb; clear hb
    have HLK : Hid (lk.length = n) := by have := congrArg List.length HMAP.out; simp only [List.length_map] at this; show _ = _; have := HN.out; omega
    by_cases hlt : k < n
    · have hki : (k : Int) < (n : Int) := by omega
      have hk0 : (0 : Int) ≤ (k : Int) := by omega
      have HKL : Hid (k < lk.length) := by have := HLK.out; show k < _; omega
      have HKO : Hid (k < l.length) := by have := HN.out; show k < _; omega
      obtain ⟨g, hA, hbg⟩ := HROW.out.at0 HKL.out
      subst hA
      obtain ⟨hrw, E, m, c, he, hmc, hfs⟩ := HE0.out _ (atQ_mem HKO.out)
      have hx := HROW.out.six HKL.out
      rw [HREST.out k (Nat.le_refl _), he] at hx
      obtain ⟨x0, x1, x2, x3, x4, x5⟩ := hx
      have HRW := Lib.hid hrw; clear hrw
      have HKK : Hid ((atQ lk k).1 = (atQ l k).1) := by show _ = _; rw [HREST.out k (Nat.le_refl _)]
      have q := copiedR_any (atQ l k).1.rep E m c wr (hfs.below HB.out) (by have h1 := HRW.out.2.2.2; have h2 := hfs.1; omega)
      unfold rpV at q
      clear hfs he x0 x1
      have hf2 : wr.frozen? ⟨g, k * 6 + 2, none⟩ = false := HROW.out.frozen
      have hf3 : wr.frozen? ⟨g, k * 6 + 3, none⟩ = false := HROW.out.frozen
      have hf4 : wr.frozen? ⟨g, k * 6 + 4, none⟩ = false := HROW.out.frozen
      have hf5 : wr.frozen? ⟨g, k * 6 + 5, none⟩ = false := HROW.out.frozen
      have HRS : Hid (∀ (W : World) (u : Value), RowD W w.heap.size (.slice (some ⟨g, 0, none⟩) n cap1) lk → RowD (setRep W g k (atQ l k).1.rep u) w.heap.size (.slice (some ⟨g, 0, none⟩) n cap1) (lk.set k ((atQ l k).1, u))) := fun W u h => by
        have := h.setRep HKL.out (atQ l k).1.rep u
        rw [HKK.out] at this; exact this
      have HBLK : Hid (∀ (W : World), RowD W w.heap.size (.slice (some ⟨g, 0, none⟩) n cap1) lk → ∃ cs fr, W.heap[g]? = some (.cells cs 45 fr)) := fun W h => h.block g (by simp [Value.ownBlock])
      have HM2 : Hid (∀ u, (lk.set k ((atQ l k).1, u)).map Prod.fst = l.map Prod.fst) := fun u => by
        rw [map_setQ, HMAP.out]
        refine List.ext_getElem (by simp) fun i h1 h2 => ?_
        rw [List.getElem_set]
        split
        · rename_i e; subst e; rw [List.getElem_map, atQ_get HKO.out]
        · rfl
      have HQE : Hid (∀ E2 m2 c2 (W : World), m2 ≤ c2 → IsSs W E2 m2 (atQ l k).1.rep.keys → StrT W E2 m2 → KyAt W ((atQ l k).1, .slice E2 m2 c2)) := fun E2 m2 c2 W h1 h2 h3 => ⟨E2, m2, c2, rfl, h1, h2, h3⟩
      have hlt6 : g < wr.heap.size := by obtain ⟨cs, fr, h2⟩ := HBLK.out wr HROW.out; exact lt_of_blk h2
      generalize (atQ l k).1 = d at *
      go_wp2_with fail
      ((with_reducible refine q.mono ?_); rintro e W2 ⟨E2, m2, c2, rfl, hmc2, hfs2, hft2, b2⟩)
      clear q
      unfold rpV
      have y2 := (b2.cell (p := ⟨g, k * 6 + 2, none⟩) hlt6).trans x2
      have y3 := (b2.cell (p := ⟨g, k * 6 + 3, none⟩) hlt6).trans x3
      have y4 := (b2.cell (p := ⟨g, k * 6 + 4, none⟩) hlt6).trans x4
      have y5 := (b2.cell (p := ⟨g, k * 6 + 5, none⟩) hlt6).trans x5
      have g2 := (b2.frozen (p := ⟨g, k * 6 + 2, none⟩) hlt6).trans hf2
      have g3 := (b2.frozen (p := ⟨g, k * 6 + 3, none⟩) hlt6).trans hf3
      have g4 := (b2.frozen (p := ⟨g, k * 6 + 4, none⟩) hlt6).trans hf4
      have g5 := (b2.frozen (p := ⟨g, k * 6 + 5, none⟩) hlt6).trans hf5
      have hrow2 := HROW.out.below b2
      have HR3 := Lib.hid (HRS.out W2 (.slice E2 m2 c2) hrow2)
      obtain ⟨cs2, fr2, hblk2⟩ := HBLK.out W2 hrow2
      have hkeep := gb_rep W2 g k d.rep (.slice E2 m2 c2)
      have HX3 : Hid (KyAt (setRep W2 g k d.rep (.slice E2 m2 c2)) (d, .slice E2 m2 c2)) := (HQE.out E2 m2 c2 W2 hmc2 hfs2 hft2).kept hkeep (fun q hq => by cases hq; exact ⟨_, _, hblk2⟩)
      have HD3 : Hid (∀ j, j < k → KyAt (setRep W2 g k d.rep (.slice E2 m2 c2)) (atQ lk j)) := fun j hj => ((HDONE.out j hj).below b2).kept hkeep (fun q hq => by cases hq; exact ⟨_, _, hblk2⟩)
      have HB3 : Hid (Below w.heap.size w (setRep W2 g k d.rep (.slice E2 m2 c2))) := (((((bch HB.out b2).setCell (p := ⟨g, k * 6 + 2, none⟩) hbg _).setCell (p := ⟨g, k * 6 + 3, none⟩) hbg _).setCell (p := ⟨g, k * 6 + 4, none⟩) hbg _).setCell (p := ⟨g, k * 6 + 5, none⟩) hbg _)
      unfold setRep at HR3 HX3 HD3 HB3
      clear x2 x3 x4 x5 hf2 hf3 hf4 hf5 hrow2 hblk2 hkeep hfs2 hft2 hmc2 b2 hlt6
      go_wp2_with fail
      go_roundw
      case rel =>
        refine ⟨k + 1, _, lk.set k (d, .slice E2 m2 c2), rfl, by omega, by go_num, HR3.out, HM2.out _, fun j hj => ?_, fun j hj => ?_, HB3.out⟩
        · rcases (by omega : j < k ∨ j = k) with h | rfl
          · have : atQ (lk.set k (d, .slice E2 m2 c2)) j = atQ lk j := by
              have h1 := HLK.out
              rw [atQ_get (by rw [List.length_set]; omega), List.getElem_set_ne (by omega), atQ_get (by omega)]
            rw [this]; exact HD3.out j h
          · rw [atQ_set HKL.out]; exact HX3.out
        · have : atQ (lk.set k (d, .slice E2 m2 c2)) j = atQ lk j := by
            unfold atQ
            rw [List.getD_eq_getElem?_getD, List.getD_eq_getElem?_getD, List.getElem?_set_ne (by omega)]
          rw [this]; exact HREST.out j (by omega)
      case measure => simp [intOf]; omega
    · have hke : k = n := by omega
      subst hke
      have HXF : Hid (KyT wr lk) := fun p hp => by
        obtain ⟨j, hj, rfl⟩ := List.getElem_of_mem hp
        have h1 := HDONE.out j (by have := HLK.out; omega)
        rw [atQ_get hj] at h1
        refine ⟨?_, h1⟩
        have hj2 : j < l.length := by have := HLK.out; have := HN.out; omega
        have h2 := (HE0.out _ (atQ_mem hj2)).1
        have h3 : (atQ l j).1 = (atQ lk j).1 := by
          rw [atQ_map l hj2, atQ_map lk hj, HMAP.out]
        rw [h3, atQ_get hj] at h2
        exact h2
      have HMF : Hid (lk.map Prod.fst = t) := HMAP.out.trans HLM.out
      clear hlt
      go_wp2_with fail
      go_ret
      exact ⟨_, lk, rfl, HROW.out, HMF.out, HXF.out, HB.out⟩
end Go.Proofs.Ytgckoihangccbaa
