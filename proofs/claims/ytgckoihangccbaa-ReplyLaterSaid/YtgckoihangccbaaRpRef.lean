import Derived.Test.YtgckoihangccbaaRpRow
import Derived.Laws.Cover1
/-
  The contracts of the document's own may, own, Right and Look of caches (stage 13).
-/
namespace Go.Proofs.Ytgckoihangccbaa
open Go.RowKit
set_option linter.unusedVariables false
set_option linter.unusedSimpArgs false

set_option maxRecDepth 100000 in
set_option maxHeartbeats 8000000 in
theorem refmay_any (r : RepR) (K : Option Addr) (k kc : Nat) (w : World) (h : IsSs w K k r.keys) :
    Calls Try.prog 29 #[rpV r (.slice K k kc)] w fun e w' => e = .returned (.bool (mayRB r)) ∧ Below w.heap.size w w' := by
  have hk9 := h.2.1
  unfold maxLen at hk9
  have HN : Hid (k = r.keys.length) := h.1
  have hbw : Below w.heap.size w (w.alloc (.cells #[.int .i64 r.errno, .int .i64 r.rev, .string r.value, .slice K k kc] 31)) := (Below.refl _ _).alloc (Nat.le_refl _) _
  have hbx := Blk.new w (.cells #[.int .i64 r.errno, .int .i64 r.rev, .string r.value, .slice K k kc] 31)
  have hss := h.below hbw
  obtain ⟨W0, hW0⟩ : ∃ W, w.alloc (.cells #[.int .i64 r.errno, .int .i64 r.rev, .string r.value, .slice K k kc] 31) = W := ⟨_, rfl⟩
  rw [hW0] at hbw hbx hss
  have HX := Lib.hid hbx; clear hbx
  have HS := Lib.hid hss; clear hss h
  have HB := Lib.hid hbw; clear hbw
  have HNO : Hid (¬ MayP r → mayRB r = false) := fun h => decide_eq_false h
  have HYES : Hid (MayP r → mayRB r = true) := fun h => decide_eq_true h
  have hez : (0 : Int) ≤ (r.errno : Int) := by omega
  unfold rpV
  go_enter Try.func29, Try.ntmps29
  go_wp2_with fail
  go_loopw [3] (fun i wy => ∃ (j : Nat) (wr : World), wr = wy ∧ j ≤ k ∧ i = .int .i64 j ∧ (∀ q, q < j → (r.keys.getD q ByteArray.empty).size ≤ 16) ∧ Below W0.heap.size W0 wr) (fun i _ => k - (intOf i).toNat)
  case atStart => exact ⟨0, _, rfl, by omega, rfl, (fun q hq => by omega), Below.refl _ _⟩
  case round =>
    obtain ⟨j, wr, rfl, hj, rfl, hall, hb⟩ := hrel
    have HB1 := Lib.hid hb; clear hb
    have HALL := Lib.hid hall; clear hall
    have hx1 := Blk.below HX.out HB1.out
    have b0 := Blk.cell hx1 0
    have b1 := Blk.cell hx1 1
    have b2 := Blk.cell hx1 2
    have b3 := Blk.cell hx1 3
    simp only [List.getElem?_toArray, List.getElem?_cons_zero, List.getElem?_cons_succ] at b0 b1 b2 b3
    have HX1 := Lib.hid hx1; clear hx1
    have HBE := Lib.hid (bch HB.out HB1.out)
    by_cases hlt : j < k
    · have hji : (j : Int) < (k : Int) := by omega
      have hj0 : (0 : Int) ≤ (j : Int) := by omega
      obtain ⟨_, _, _, hat⟩ := HS.out
      obtain ⟨b, off, hK, hbl, hc⟩ := hat (by omega)
      subst hK
      have c0 := (HB1.out.cell (p := ⟨b, off + j, none⟩) hbl).trans (hc j (by have := HN.out; omega))
      clear hat hc
      by_cases h16 : ((r.keys.getD j ByteArray.empty).size : Int) ≤ 16
      · have HK : Hid ((r.keys.getD j ByteArray.empty).size ≤ 16) := by show _ ≤ _; omega
        have h16n : ¬ (16 : Int) < ((r.keys.getD j ByteArray.empty).size : Int) := by omega
        obtain ⟨s, hs⟩ : ∃ s, r.keys.getD j ByteArray.empty = s := ⟨_, rfl⟩
        rw [hs] at c0 h16 h16n
        have HSS := Lib.hid hs; clear hs h16
        go_wp2_with fail
        go_roundw
        case rel => exact ⟨j + 1, _, rfl, by omega, by go_num, fun q hq => by rcases (by omega : q < j ∨ q = j) with h | rfl; exact HALL.out q h; exact HK.out, HB1.out⟩
        case measure => simp [intOf]; omega
      · have HE : Hid (mayRB r = false) := HNO.out fun h => by
          have hjl : j < r.keys.length := by have := HN.out; omega
          have := h.1 (r.keys.getD j ByteArray.empty) (by rw [List.getD_eq_getElem?_getD, List.getElem?_eq_getElem hjl]; exact List.getElem_mem hjl)
          omega
        have h16n : (16 : Int) < ((r.keys.getD j ByteArray.empty).size : Int) := by omega
        clear h16
        obtain ⟨s, hs⟩ : ∃ s, r.keys.getD j ByteArray.empty = s := ⟨_, rfl⟩
        rw [hs] at c0 h16n
        clear hs
        go_wp2_with fail
        go_ret
        exact ⟨by rw [HE.out]; rfl, HBE.out⟩
    · have hje : j = k := by omega
      subst hje
      have HKS : Hid (∀ s ∈ r.keys, s.size ≤ 16) := fun s hs => by
        obtain ⟨q, hq, rfl⟩ := List.getElem_of_mem hs
        have := HALL.out q (by have := HN.out; omega)
        rw [List.getD_eq_getElem?_getD, List.getElem?_eq_getElem hq] at this
        exact this
      clear hlt
      by_cases h1 : 0 ≤ r.rev
      rotate_left
      · have HE : Hid (mayRB r = false) := HNO.out fun h => by obtain ⟨_, ⟨a1, a2⟩, a3, a4, a5⟩ := h; unfold maxN at a2; have := HN.out; omega
        go_wp2_with fail
        go_ret
        exact ⟨by rw [HE.out]; rfl, HBE.out⟩
      by_cases h2 : r.rev ≤ 9007199254740992
      rotate_left
      · have HE : Hid (mayRB r = false) := HNO.out fun h => by obtain ⟨_, ⟨a1, a2⟩, a3, a4, a5⟩ := h; unfold maxN at a2; have := HN.out; omega
        go_wp2_with fail
        go_ret
        exact ⟨by rw [HE.out]; rfl, HBE.out⟩
      by_cases h3 : (r.value.size : Int) ≤ 200
      rotate_left
      · have HE : Hid (mayRB r = false) := HNO.out fun h => by obtain ⟨_, ⟨a1, a2⟩, a3, a4, a5⟩ := h; unfold maxN at a2; have := HN.out; omega
        go_wp2_with fail
        go_ret
        exact ⟨by rw [HE.out]; rfl, HBE.out⟩
      by_cases h4 : (j : Int) ≤ 5
      rotate_left
      · have HE : Hid (mayRB r = false) := HNO.out fun h => by obtain ⟨_, ⟨a1, a2⟩, a3, a4, a5⟩ := h; unfold maxN at a2; have := HN.out; omega
        go_wp2_with fail
        go_ret
        exact ⟨by rw [HE.out]; rfl, HBE.out⟩
      by_cases h5 : r.errno ≤ 255
      rotate_left
      · have HE : Hid (mayRB r = false) := HNO.out fun h => by obtain ⟨_, ⟨a1, a2⟩, a3, a4, a5⟩ := h; unfold maxN at a2; have := HN.out; omega
        have h5i : ¬ (r.errno : Int) ≤ 255 := by omega
        go_wp2_with fail
        go_ret
        exact ⟨by rw [HE.out]; rfl, HBE.out⟩
      have h5i : (r.errno : Int) ≤ 255 := by omega
      have HE : Hid (mayRB r = true) := HYES.out ⟨HKS.out, ⟨h1, by unfold maxN; omega⟩, by omega, by have := HN.out; omega, by omega⟩
      go_wp2_with fail
      go_ret
      exact ⟨by rw [HE.out]; rfl, HBE.out⟩
/-- 'append(l, x...)' of texts, l the call's own, x texts that lie anywhere. -/
theorem wpList_append_sl {w : World} {ops : Array Oper} {rest : List Oper} {o : Oper} {a : Act} {Q : Exit → Act → World → Prop} (hgd : o.guard = none) (s x : Operand)
    (ho : o.op = .call { callee := .builtin .append, args := #[s, x], argTypes := #[29, 29] })
    (base : Nat) (v : Value) (l : List ByteArray) (hs : a.eval s = v) (hown : RowK w base v l)
    (A : Option Addr) (m c : Nat) (k : List ByteArray) (hx : a.eval x = .slice A m c) (hf : IsSs w A m k)
    (h63 : (l.length + m) * 16 ≤ 140737488355328) (hbase : base ≤ w.heap.size)
    (h : ∀ v' w', RowK w' base v' (l ++ k) → w.grownBy w' v.ownBlock → wpList Try.prog ops Q rest (a.put o.dst v') w') :
    wpList Try.prog ops Q (o :: rest) a w := by
  obtain ⟨i0, hi, hz0, hz1, hz2⟩ := info_parts infoStr
  obtain ⟨hm, _, _, hat⟩ := hf
  rcases Nat.eq_zero_or_pos m with rfl | hp
  · have hg : k = [] := List.eq_nil_of_length_eq_zero hm.symm
    subst hg
    refine wpList_plain hgd fun K hK => ?_
    have hrun := run_append_zeroI (P := Try.prog) (w := w) base 29 o.type 9 i0 1 Try.underlying29 hi v l.length _ hown A c
    unfold Oper.wp
    simp [execOp, ho, resolve, invoke, builtin, hs, hx, hrun, Result.andThen]
    refine hK _ _ (h v w (by simpa using hown) ?_)
    exact ⟨rfl, rfl, rfl, Nat.le_refl _, fun _ _ _ => rfl⟩
  · obtain ⟨b, off, rfl, hb, hat⟩ := hat hp
    refine wpList_append_own_at w hgd s x 29 ho base 9 i0 (.string ⟨#[]⟩) 1 16 Try.underlying29 hi hz0 hz1 hz2 rfl (by decide) v l.length _ hs hown ⟨b, off, none⟩ m c (cellsK k) hx (by rw [cellsK_len, hm]; omega) (strs_cells hat) (cellsK_one k) (by unfold maxLen; omega) h63 hbase ?_
    intro v' w' h1 h2 _ _
    refine h v' w' ?_ h2
    unfold RowK
    rw [cellsK_append, List.length_append, ← hm]; exact h1
/-- What 'own' leaves: the same reply, its keys in a row of the call's own. -/
def OwnP (w : World) (r : RepR) (e : Ending) (w' : World) : Prop :=
  ∃ A n cap, e = .returned (rpV r (.slice A n cap)) ∧ n ≤ cap ∧ n = r.keys.length ∧ RowK w' w.heap.size (.slice A n cap) r.keys ∧ Below w.heap.size w w'
theorem rp_put13 {W : World} {g : Nat} {a b c d : Value} {T : TypeId} (h : Blk W g (.cells #[a, b, c, d] T (0, 0))) (x y z u : Value) :
    Blk (((((W).setCell ⟨g, 0, none⟩ x).setCell ⟨g, 1, none⟩ y).setCell ⟨g, 2, none⟩ z).setCell ⟨g, 3, none⟩ u) g (.cells #[x, y, z, u] T (0, 0)) :=
  Blk.set (Blk.set (Blk.set (Blk.set h 0 x #[x, b, c, d] rfl) 1 y #[x, y, c, d] rfl) 2 z #[x, y, z, d] rfl) 3 u #[x, y, z, u] rfl
theorem gb_set13 (w : World) (g j : Nat) (u : Value) : w.grownBy (w.setCell ⟨g, j, none⟩ u) (some g) :=
  ⟨rfl, rfl, rfl, by simp, fun k _ hk => heap_setCell_other w ⟨g, j, none⟩ k u (fun e => hk (by simp [e]))⟩
theorem below_four13 {w W : World} {B g : Nat} (h : Below B w W) (hg : B ≤ g) (x y z u : Value) : Below B w (((((W).setCell ⟨g, 0, none⟩ x).setCell ⟨g, 1, none⟩ y).setCell ⟨g, 2, none⟩ z).setCell ⟨g, 3, none⟩ u) :=
  (((h.setCell (p := ⟨g, 0, none⟩) hg _).setCell (p := ⟨g, 1, none⟩) hg _).setCell (p := ⟨g, 2, none⟩) hg _).setCell (p := ⟨g, 3, none⟩) hg _
theorem rowK_far13 {W : World} {base g j : Nat} {v : Value} {l : List ByteArray} {u : Value} (h : RowK W base v l) (hne : some g ≠ v.ownBlock) : RowK (W.setCell ⟨g, j, none⟩ u) base v l :=
  World.ownsRow.kept h (gb_set13 W g j u) (.inr fun e => hne e.symm)
theorem rowK_four13 {W : World} {base g : Nat} {v : Value} {l : List ByteArray} (h : RowK W base v l) (hne : some g ≠ v.ownBlock) (x y z u : Value) : RowK (((((W).setCell ⟨g, 0, none⟩ x).setCell ⟨g, 1, none⟩ y).setCell ⟨g, 2, none⟩ z).setCell ⟨g, 3, none⟩ u) base v l :=
  rowK_far13 (rowK_far13 (rowK_far13 (rowK_far13 h hne) hne) hne) hne
theorem rowK_base13 {w : World} {a b : Nat} {v : Value} {l : List ByteArray} (h : b ≤ a) (hr : RowK w a v l) : RowK w b v l := by
  refine ⟨hr.1, ?_⟩
  rcases hr.2 with h2 | ⟨g, cap, cur, h1, h2, h3⟩
  · exact .inl h2
  · exact .inr ⟨g, cap, cur, h1, Nat.le_trans h h2, h3⟩
set_option maxRecDepth 100000 in
set_option maxHeartbeats 8000000 in
theorem refown13_any (r : RepR) (K : Option Addr) (k kc : Nat) (w : World) (h : IsSs w K k r.keys) (h16 : k * 16 ≤ 140737488351232) :
    Calls Try.prog 30 #[rpV r (.slice K k kc)] w (OwnP w r) := by
  have HN : Hid (k = r.keys.length) := h.1
  have HSZ : Hid (∀ s ∈ r.keys, s.size ≤ maxLen) := h.2.2.1
  have hb1 : Below w.heap.size w (w.alloc (.cells #[.int .i64 r.errno, .int .i64 r.rev, .string r.value, .slice K k kc] 31)) := (Below.refl _ _).alloc (Nat.le_refl _) _
  have hb2 : Below w.heap.size w ((w.alloc (.cells #[.int .i64 r.errno, .int .i64 r.rev, .string r.value, .slice K k kc] 31)).alloc (.cells #[.int .i64 0, .int .i64 0, .string ⟨#[]⟩, .slice none 0 0] 31)) := hb1.alloc (by simp) _
  have hb3 : Below w.heap.size w (((w.alloc (.cells #[.int .i64 r.errno, .int .i64 r.rev, .string r.value, .slice K k kc] 31)).alloc (.cells #[.int .i64 0, .int .i64 0, .string ⟨#[]⟩, .slice none 0 0] 31)).alloc (.cells #[.int .i64 r.errno, .int .i64 r.rev, .string r.value, .slice K k kc] 31)) := hb2.alloc (by simp; omega) _
  have hx := Blk.below (Blk.below (Blk.new w (.cells #[.int .i64 r.errno, .int .i64 r.rev, .string r.value, .slice K k kc] 31)) ((Below.refl _ _).alloc (Nat.le_refl _) (.cells #[.int .i64 0, .int .i64 0, .string ⟨#[]⟩, .slice none 0 0] 31))) ((Below.refl _ _).alloc (Nat.le_refl _) (.cells #[.int .i64 r.errno, .int .i64 r.rev, .string r.value, .slice K k kc] 31))
  have hz : Blk (((w.alloc (.cells #[.int .i64 r.errno, .int .i64 r.rev, .string r.value, .slice K k kc] 31)).alloc (.cells #[.int .i64 0, .int .i64 0, .string ⟨#[]⟩, .slice none 0 0] 31)).alloc (.cells #[.int .i64 r.errno, .int .i64 r.rev, .string r.value, .slice K k kc] 31)) (w.heap.size + 1) (.cells #[.int .i64 0, .int .i64 0, .string ⟨#[]⟩, .slice none 0 0] 31 (0, 0)) := by
    have h := Blk.below (Blk.new (w.alloc (.cells #[.int .i64 r.errno, .int .i64 r.rev, .string r.value, .slice K k kc] 31)) (.cells #[.int .i64 0, .int .i64 0, .string ⟨#[]⟩, .slice none 0 0] 31)) ((Below.refl _ _).alloc (Nat.le_refl _) (.cells #[.int .i64 r.errno, .int .i64 r.rev, .string r.value, .slice K k kc] 31)); rw [World.size_alloc] at h; exact h
  have hl : Blk (((w.alloc (.cells #[.int .i64 r.errno, .int .i64 r.rev, .string r.value, .slice K k kc] 31)).alloc (.cells #[.int .i64 0, .int .i64 0, .string ⟨#[]⟩, .slice none 0 0] 31)).alloc (.cells #[.int .i64 r.errno, .int .i64 r.rev, .string r.value, .slice K k kc] 31)) (w.heap.size + 2) (.cells #[.int .i64 r.errno, .int .i64 r.rev, .string r.value, .slice K k kc] 31 (0, 0)) := by
    have h := Blk.new ((w.alloc (.cells #[.int .i64 r.errno, .int .i64 r.rev, .string r.value, .slice K k kc] 31)).alloc (.cells #[.int .i64 0, .int .i64 0, .string ⟨#[]⟩, .slice none 0 0] 31)) (.cells #[.int .i64 r.errno, .int .i64 r.rev, .string r.value, .slice K k kc] 31); rw [World.size_alloc, World.size_alloc] at h; exact h
  have hx0 := Blk.below (Blk.new w (.cells #[.int .i64 r.errno, .int .i64 r.rev, .string r.value, .slice K k kc] 31)) ((Below.refl _ _).alloc (Nat.le_refl _) (.cells #[.int .i64 0, .int .i64 0, .string ⟨#[]⟩, .slice none 0 0] 31))
  have q0 := Blk.cell hx0 0
  have q1 := Blk.cell hx0 1
  have q2 := Blk.cell hx0 2
  have q3 := Blk.cell hx0 3
  simp only [List.getElem?_toArray, List.getElem?_cons_zero, List.getElem?_cons_succ] at q0 q1 q2 q3
  have hss := h.below hb3
  clear hx0 hb1 hb2 h
  unfold rpV
  go_enter Try.func30, Try.ntmps30
  go_upto_region 2 with fail
  clear q0 q1 q2 q3
  have e2 : w.heap.size + 1 + 1 = w.heap.size + 2 := rfl
  try rw [e2]
  obtain ⟨W0, hW0⟩ : ∃ W, ((w.alloc (.cells #[.int .i64 r.errno, .int .i64 r.rev, .string r.value, .slice K k kc] 31)).alloc (.cells #[.int .i64 0, .int .i64 0, .string ⟨#[]⟩, .slice none 0 0] 31)).alloc (.cells #[.int .i64 r.errno, .int .i64 r.rev, .string r.value, .slice K k kc] 31) = W := ⟨_, rfl⟩
  rw [hW0] at hb3 hx hz hl hss ⊢
  clear hW0 e2
  obtain ⟨g, hg⟩ : ∃ g, w.heap.size = g := ⟨_, rfl⟩
  have HG := Lib.hid hg
  rw [hg] at hb3 hx hz hl ⊢
  clear hg
  have HL := Lib.hid hl; clear hl
  have HZ := Lib.hid hz; clear hz
  have HBW := Lib.hid hb3; clear hb3
  have HSS := Lib.hid hss; clear hss
  have q0 := Blk.cell hx 0
  have q1 := Blk.cell hx 1
  have q2 := Blk.cell hx 2
  have q3 := Blk.cell hx 3
  simp only [List.getElem?_toArray, List.getElem?_cons_zero, List.getElem?_cons_succ] at q0 q1 q2 q3
  have HX := Lib.hid hx; clear hx
  go_wp2_with (at_builtin; refine wpList_append_sl rfl _ _ rfl W0.heap.size _ [] rfl (rowK_nil _ _) K k kc r.keys rfl HSS.out (by simp; omega) (Nat.le_refl _) ?_)
  intro v1 W1 hrow1 hgr1
  clear q0 q1 q2 q3
  obtain ⟨A1, c1, hv, hc1, hss1⟩ := hrow1.isSs HSZ.out
  subst hv
  have hb1 : Below W0.heap.size W0 W1 := (Below.refl _ _).grown hgr1 (Nat.le_refl _) (fun q h => by simp [Value.ownBlock] at h)
  have hl1 := Blk.below HL.out hb1
  have hz1 := Blk.below HZ.out hb1
  have HB1 := Lib.hid (HBW.out.trans (hb1.mono (show g ≤ W0.heap.size by have := Blk.lt HL.out; omega)))
  have HG2 : Hid (g + 2 < W0.heap.size) := Blk.lt HL.out
  have hrow1' : RowK W1 W0.heap.size (.slice A1 ([] ++ r.keys).length c1) r.keys := hrow1
  simp only [List.nil_append] at hrow1' hc1 hss1
  have HR1 := Lib.hid hrow1'; clear hrow1 hrow1'
  have hl2 := Blk.set hl1 3 (.slice A1 r.keys.length c1) #[.int .i64 r.errno, .int .i64 r.rev, .string r.value, .slice A1 r.keys.length c1] rfl
  have hz2 := Blk.far hz1 (show g + 1 ≠ g + 2 by omega) 3 (.slice A1 r.keys.length c1)
  have HR2 := Lib.hid (rowK_far13 HR1.out (g := g + 2) (j := 3) (u := .slice A1 r.keys.length c1) (fun e => by have := (HR1.out.lt _ e.symm).1; have := HG2.out; omega))
  have HB2 := Lib.hid (HB1.out.setCell (p := ⟨g + 2, 3, none⟩) (show g ≤ g + 2 by omega) (.slice A1 r.keys.length c1))
  have l3 := Blk.cell hl1 3
  have lf3 := Blk.frozen hl1 3
  simp only [List.getElem?_toArray, List.getElem?_cons_zero, List.getElem?_cons_succ] at l3
  try simp only [List.nil_append]
  go_upto_region 3 with fail
  clear l3 lf3
  obtain ⟨W2, hW2⟩ : ∃ W, W1.setCell ⟨g + 2, 3, none⟩ (.slice A1 r.keys.length c1) = W := ⟨_, rfl⟩
  rw [hW2] at hl2 hz2 HR2 HB2 ⊢
  clear hW2
  have l0 := Blk.cell hl2 0
  have l1 := Blk.cell hl2 1
  have l2 := Blk.cell hl2 2
  have l3 := Blk.cell hl2 3
  simp only [List.getElem?_toArray, List.getElem?_cons_zero, List.getElem?_cons_succ] at l0 l1 l2 l3
  have z0 := Blk.cell hz2 0
  have z1 := Blk.cell hz2 1
  have z2 := Blk.cell hz2 2
  have z3 := Blk.cell hz2 3
  simp only [List.getElem?_toArray, List.getElem?_cons_zero, List.getElem?_cons_succ] at z0 z1 z2 z3
  have f0 := Blk.frozen hz2 0
  have f1 := Blk.frozen hz2 1
  have f2 := Blk.frozen hz2 2
  have f3 := Blk.frozen hz2 3
  have hfin := rp_put13 hz2 (.int .i64 r.errno) (.int .i64 r.rev) (.string r.value) (.slice A1 r.keys.length c1)
  have e0 := Blk.cell hfin 0
  have e1 := Blk.cell hfin 1
  have e2 := Blk.cell hfin 2
  have e3 := Blk.cell hfin 3
  simp only [List.getElem?_toArray, List.getElem?_cons_zero, List.getElem?_cons_succ] at e0 e1 e2 e3
  have HRF := Lib.hid (rowK_four13 HR2.out (g := g + 1) (fun e => by have := (HR2.out.lt _ e.symm).1; have := HG2.out; omega) (.int .i64 r.errno) (.int .i64 r.rev) (.string r.value) (.slice A1 r.keys.length c1))
  have HBF := Lib.hid (below_four13 (g := g + 1) HB2.out (Nat.le_succ _) (.int .i64 r.errno) (.int .i64 r.rev) (.string r.value) (.slice A1 r.keys.length c1))
  clear hfin
  go_wp2_with fail
  refine bodyPost_ret (v := rpV r (.slice A1 r.keys.length c1)) (by simp [rpV, results, Try.results30, go_sem, e0, e1, e2, e3]) rfl ⟨A1, _, c1, rfl, hc1, rfl, rowK_base13 (by have := HG2.out; have := HG.out; omega) HRF.out, by rw [HG.out]; exact HBF.out⟩
set_option maxRecDepth 100000 in
set_option maxHeartbeats 8000000 in
theorem refright13_any (l : List DnR) (A : Option Addr) (n cap : Nat) (w : World) (h : IsDs w A n l) :
    Calls Try.prog 40 #[.slice A n cap] w fun e w' => e = .returned (.bool (rightD l)) ∧ Below w.heap.size w w' := by
  have hn9 := h.2.1
  unfold maxLen at hn9
  have HN : Hid (n = l.length) := h.1
  have HT := Lib.hid h; clear h
  have HNO : Hid (¬ RightD l → rightD l = false) := rightD_no
  have HYES : Hid (RightD l → rightD l = true) := rightD_iff.2
  generalize rightD l = R at *
  go_enter Try.func40, Try.ntmps40
  go_wp2_with fail
  go_loopw [3, 4] (fun la i wy => ∃ (j : Nat) (wr : World) (z : Int), wr = wy ∧ j ≤ n ∧ la = .int .i64 z ∧ i = .int .i64 j ∧ 0 ≤ z ∧ (∀ q, q < j → MayP (atD l q).rep ∧ GoodC (atD l q).client (atD l q).id) ∧ RiseD (l.take j) ∧ (∀ q, q < j → (atD l q).client ≤ z) ∧ (0 < j → z = (atD l (j - 1)).client) ∧ (j = 0 → z = 0) ∧ Below w.heap.size w wr) (fun _ i _ => n - (intOf i).toNat)
  case atStart => exact ⟨0, _, 0, rfl, by omega, rfl, rfl, Int.le_refl _, (fun q hq => by omega), List.Pairwise.nil, (fun q hq => by omega), (fun h => by omega), (fun _ => rfl), Below.refl _ _⟩
  case round =>
    obtain ⟨j, wr, z, rfl, hj, rfl, rfl, hz0, hall, hri, hle, hlast, hzz, hb⟩ := hrel
    have HZ0 := Lib.hid hzz; clear hzz
    have HB := Lib.hid hb; clear hb
    have HALL := Lib.hid hall; clear hall
    have HRI := Lib.hid hri; clear hri
    have HLE := Lib.hid hle; clear hle
    have HLAST := Lib.hid hlast; clear hlast
    by_cases hlt : j < n
    · have hji : (j : Int) < (n : Int) := by omega
      have hj0 : (0 : Int) ≤ (j : Int) := by omega
      have hjl : j < l.length := by have := HN.out; omega
      obtain ⟨b, off, hA, _⟩ := HT.out.block (by omega)
      subst hA
      obtain ⟨E, m, c, hx, _, hss⟩ := HT.out.at hjl HB.out
      have q := refmay_any (atD l j).rep E m c wr hss
      have HX : Hid (∀ W, Below wr.heap.size wr W → DnAt W b (off + j * 6) (atD l j) (.slice E m c)) := fun W hb => hx.below hb
      have HJL := Lib.hid hjl
      have HNR : Hid (¬ (MayP (atD l j).rep ∧ z < (atD l j).client ∧ GoodC (atD l j).client (atD l j).id) → ¬ RightD l) := fun hh h => hh (by
        obtain ⟨h1, h2⟩ := h.1 _ (atD_mem HJL.out)
        refine ⟨h1, ?_, h2⟩
        rcases Nat.eq_zero_or_pos j with h0 | h0
        · obtain ⟨⟨a, _⟩, _⟩ := h2
          rcases Nat.eq_zero_or_pos j with h5 | h5
          · have := HZ0.out h0; omega
          · omega
        · have e := HLAST.out h0
          have := riseD_lt h.2.1 (i := j - 1) (j := j) (by omega) HJL.out
          omega)
      clear hss hjl
      unfold rpV at q
      obtain ⟨x0, x1, x2, x3, x4, x5⟩ := hx
      have HDD : Hid (∀ d, atD l j = d → atD l j = d) := fun d h => h
      obtain ⟨d, hd⟩ : ∃ d, atD l j = d := ⟨_, rfl⟩
      have HD := Lib.hid hd
      rw [hd] at q x0 x1 x2 x3 x4 HX HNR
      clear hd HDD
      go_upto_region 5 with fail
      go_wp2_with fail
      ((with_reducible refine q.mono ?_); rintro e W1 ⟨rfl, b1⟩)
      have hx1 := HX.out W1 b1
      have HB1 := Lib.hid (bch HB.out b1)
      clear q b1 x0 x1 x2 x3 x4 x5 HX
      obtain ⟨x0, x1, x2, x3, x4, x5⟩ := hx1
      by_cases hm : MayP d.rep
      rotate_left
      · have HE : Hid (R = false) := HNO.out (HNR.out fun h => hm h.1)
        have hmb : mayRB d.rep = false := decide_eq_false hm
        rw [hmb]
        clear hm hmb
        go_wp2_with fail
        go_ret
        exact ⟨by rw [HE.out]; rfl, HB1.out⟩
      have hmb : mayRB d.rep = true := decide_eq_true hm
      have HM := Lib.hid hm; clear hm
      rw [hmb]
      clear hmb
      by_cases k0 : d.client ≤ z
      · have HE : Hid (R = false) := HNO.out (HNR.out (fun h => by have := h.2.1; omega))
        go_wp2_with fail
        go_ret
        exact ⟨by rw [HE.out]; rfl, HB1.out⟩
      by_cases k208 : 1000 < d.client
      · have HE : Hid (R = false) := HNO.out (HNR.out (fun h => by have := h.2.2.1.2; omega))
        go_wp2_with fail
        go_ret
        exact ⟨by rw [HE.out]; rfl, HB1.out⟩
      by_cases k425 : d.id < 1
      · have HE : Hid (R = false) := HNO.out (HNR.out (fun h => by have := h.2.2.2.1; omega))
        go_wp2_with fail
        go_ret
        exact ⟨by rw [HE.out]; rfl, HB1.out⟩
      by_cases k635 : 9007199254740992 < d.id
      · have HE : Hid (R = false) := HNO.out (HNR.out (fun h => by have := h.2.2.2.2; unfold maxN at this; omega))
        go_wp2_with fail
        go_ret
        exact ⟨by rw [HE.out]; rfl, HB1.out⟩
      have HNX : Hid (RiseD (l.take (j + 1))) := by
        show RiseD _
        rw [take_succD HJL.out, HD.out]
        refine List.pairwise_append.2 ⟨HRI.out, List.pairwise_singleton _ _, fun a ha b hb => ?_⟩
        rw [List.mem_singleton.1 hb]
        obtain ⟨q, hq, rfl⟩ := List.getElem_of_mem ha
        rw [List.length_take] at hq
        have h1 := HLE.out q (by omega)
        rw [atD_get (by omega)] at h1
        rw [List.getElem_take]
        omega
      have HGD : Hid (GoodC d.client d.id) := ⟨⟨by omega, by omega⟩, by omega, by unfold maxN; omega⟩
      have HCL : Hid (z ≤ d.client ∧ 0 ≤ d.client) := ⟨by omega, by omega⟩
      go_wp2_with fail
      go_roundw
      case rel =>
        refine ⟨j + 1, _, d.client, rfl, by omega, rfl, by go_num, HCL.out.2, fun q hq => ?_, HNX.out, fun q hq => ?_, fun _ => by rw [show j + 1 - 1 = j by omega, HD.out], (fun h => by omega), HB1.out⟩
        · rcases (by omega : q < j ∨ q = j) with h | rfl
          · exact HALL.out q h
          · rw [HD.out]; exact ⟨HM.out, HGD.out⟩
        · rcases (by omega : q < j ∨ q = j) with h | rfl
          · have := HLE.out q h; have := HCL.out; omega
          · rw [HD.out]; exact Int.le_refl _
      case measure => simp [intOf]; omega
    · have hje : j = n := by omega
      subst hje
      have htl : l.take j = l := by rw [List.take_of_length_le]; have := HN.out; omega
      rw [htl] at HRI
      have hall : ∀ d ∈ l, MayP d.rep ∧ GoodC d.client d.id := fun d hd => by
        obtain ⟨q, hq, rfl⟩ := List.getElem_of_mem hd
        have := HALL.out q (by have := HN.out; omega)
        rw [atD_get hq] at this
        exact this
      have HA := Lib.hid hall; clear hall htl hlt
      by_cases h8 : j ≤ 8
      · have HE : Hid (R = true) := HYES.out ⟨HA.out, HRI.out, by have := HN.out; omega⟩
        have h8i : (j : Int) ≤ 8 := by omega
        go_wp2_with fail
        go_ret
        exact ⟨by rw [HE.out]; simp, HB.out⟩
      · have HE : Hid (R = false) := HNO.out fun h => by have := h.2.2; have := HN.out; omega
        have h8i : ¬ (j : Int) ≤ 8 := by omega
        go_wp2_with fail
        go_ret
        exact ⟨by rw [HE.out]; simp, HB.out⟩
end Go.Proofs.Ytgckoihangccbaa
