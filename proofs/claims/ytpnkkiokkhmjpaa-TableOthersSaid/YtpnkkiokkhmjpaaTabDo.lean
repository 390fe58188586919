import Derived.Test.YtpnkkiokkhmjpaaTabScan
import Derived.Test.YtpnkkiokkhmjpaaTabRef
/-
  The contract of the document's own 'Do' of tables (stage 12).
-/
namespace Go.Proofs.Ytpnkkiokkhmjpaa
open Go.RowKit
set_option linter.unusedVariables false
set_option linter.unusedSimpArgs false

theorem doT_bad {t : List Rcd} {o : OpR} (h : ¬ (RightT t ∧ checkO 2 o = 0)) : doT t o = (t, faultR 1) := by unfold doT; rw [if_pos h]
theorem doT_ok {t : List Rcd} {o : OpR} (h : RightT t ∧ checkO 2 o = 0) : doT t o =
    if o.kind = 6 then (t, ⟨0, 0, ByteArray.empty, scanT t o⟩)
    else if o.kind = 2 then putT t (idxT t o.key) o
    else if o.kind = 4 then (if revT t (idxT t o.key) ≠ o.rev then (t, ⟨71, revT t (idxT t o.key), ByteArray.empty, []⟩) else putT t (idxT t o.key) o)
    else match idxT t o.key with
      | none => (t, faultR 70)
      | some i =>
        if o.kind = 1 then (t, ⟨0, (atR t i).rev, (atR t i).value, []⟩)
        else if o.kind = 3 then (t.eraseIdx i, ⟨0, (atR t i).rev, ByteArray.empty, []⟩)
        else if (atR t i).rev = maxN then (t, faultR 50)
        else (t.set i (markR (atR t i) o), ⟨0, (atR t i).rev + 1, ByteArray.empty, []⟩) := by
  unfold doT; rw [if_neg (fun e => e h)]; rfl
theorem rev_bounds {r : Rcd} (h : rightR 2 r = true) : 0 ≤ r.rev ∧ r.rev ≤ 9007199254740992 := by
  have := rightR_iff.1 h
  exact this.2.2.2.1
theorem put_keys (t : List Rcd) (k : Option Nat) (o : OpR) : (putT t k o).2.keys = [] := by
  unfold putT
  cases k <;> simp only <;> split <;> rfl
theorem RowT.take {w : World} {base g n cap i : Nat} {l : List (Rcd × Value)} (h : RowT w base (.slice (some ⟨g, 0, none⟩) n cap) l) (hi : i ≤ l.length) : RowT w base (.slice (some ⟨g, 0, none⟩) i cap) (l.take i) := by
  have hl : (l.take i).length = i := by rw [List.length_take]; omega
  have hc : cellsT (l.take i) = (cellsT l).take (i * 6) := by
    have e : cellsT l = cellsT (l.take i) ++ cellsT (l.drop i) := by rw [← cellsT_append, List.take_append_drop]
    rw [e, List.take_left' (by rw [cellsT_len, hl])]
  unfold RowT
  refine ⟨by rw [cellsT_len], ?_⟩
  rcases h.2 with ⟨h1, _⟩ | ⟨g2, cap2, cur, h1, hb, hh, hnc, hcm, hcs, htk⟩
  · simp at h1
  · simp only [Value.slice.injEq, Option.some.injEq, Addr.mk.injEq, and_true] at h1
    obtain ⟨hgg, hn, hcc⟩ := h1
    subst hgg hcc
    refine .inr ⟨g, cap, cur, by rw [hl], hb, hh, by rw [hl]; omega, hcm, hcs, ?_⟩
    rw [hl, hc, ← htk, List.take_take, Nat.min_eq_left (Nat.mul_le_mul_right 6 hi)]
theorem ps_drop {w : World} {base g n cap i : Nat} {l : List (Rcd × Value)} {A : Option Addr} (h : RowT w base (.slice (some ⟨g, 0, none⟩) n cap) l) (hn : l.length = n) (hi : i < n) (hA : i + 1 < n → A = some ⟨g, (i + 1) * 6, none⟩) : IsPs w A (n - (i + 1)) (l.drop (i + 1)) := by
  obtain ⟨A0, cap0, hv0, hc0, h1, h2, h3⟩ := h.parts
  simp only [Value.slice.injEq] at hv0
  refine ⟨by rw [List.length_drop, hn], by omega, fun hp => ?_⟩
  obtain ⟨b, off, e, hlt, hat⟩ := h3 (by omega)
  rw [← hv0.1] at e
  simp only [Option.some.injEq, Addr.mk.injEq, and_true] at e
  obtain ⟨rfl, rfl⟩ := e
  refine ⟨g, (i + 1) * 6, hA (by omega), hlt, fun j hj => ?_⟩
  rw [List.length_drop] at hj
  have := hat (i + 1 + j) (by omega)
  rw [show atP (l.drop (i + 1)) j = atP l (i + 1 + j) by unfold atP; rw [List.getD_eq_getElem?_getD, List.getD_eq_getElem?_getD, List.getElem?_drop], show (i + 1) * 6 + j * 6 = 0 + (i + 1 + j) * 6 by omega]
  exact this
theorem exT_erase {w : World} {l : List (Rcd × Value)} (i : Nat) (h : ExT w l) : ExT w (l.take i ++ l.drop (i + 1)) := fun p hp => by
  rcases List.mem_append.1 hp with h1 | h1
  · exact h p (List.mem_of_mem_take h1)
  · exact h p (List.mem_of_mem_drop h1)
/-- 'append(l, x...)' in a region that draws. -/
theorem step_append_tab {w : World} {ops : Array Oper} {o : Oper} {a : Act} {K : Act → World → Prop} {Q : Exit → Act → World → Prop} {E : Prop} (hgd : o.guard = none) (s x : Operand)
    (ho : o.op = .call { callee := .builtin .append, args := #[s, x], argTypes := #[23, 23] })
    (base : Nat) (v : Value) (l : List (Rcd × Value)) (hs : a.eval s = v) (hown : RowT w base v l)
    (A : Option Addr) (m c : Nat) (k : List (Rcd × Value)) (hx : a.eval x = .slice A m c) (hf : IsPs w A m k) (hk1 : SlP k)
    (h63 : (l.length + m) * 88 ≤ 140737488355328) (hbase : base ≤ w.heap.size)
    (h : ∀ A2 cap2 w', RowT w' base (.slice A2 (l.length + m) cap2) (l ++ k) → w.grownBy w' v.ownBlock → K (a.put o.dst (.slice A2 (l.length + m) cap2)) w') :
    if Region.wanted o (yielded ops a.tmps) = true then Oper.wp Try.prog o a w K Q else E := by
  obtain ⟨i0, hi, hz0, hz1, hz2⟩ := info_parts infoR
  have hw : Region.wanted o (yielded ops a.tmps) = true := by simp [Region.wanted, hgd]
  rw [if_pos hw]
  obtain ⟨hm, _, hat⟩ := hf
  have form : ∀ {w : World} {v : Value} {n : Nat} {xs : List Value}, w.ownsRow base 47 6 v n xs → ∃ A cap, v = .slice A n cap := fun h => by
    rcases h.2 with ⟨hn, hv⟩ | ⟨g, cap, cur, hv, _⟩
    · exact ⟨none, 0, by simp_all⟩
    · exact ⟨_, cap, hv⟩
  rcases Nat.eq_zero_or_pos m with rfl | hp
  · have hg : k = [] := List.eq_nil_of_length_eq_zero hm.symm
    subst hg
    have hrun := run_append_zeroI (P := Try.prog) (w := w) base 23 o.type 47 i0 6 Try.underlying23 hi v l.length _ hown A c
    obtain ⟨A2, cap2, hv⟩ := form hown
    unfold Oper.wp execOp
    simp only [ho, resolve, invoke, builtin, Sem.run_bind, Sem.run_pure, Result.andThen_ok, List.map_toArray, List.map_cons, List.map_nil, hs, hx, hrun]
    rw [hv]
    refine h A2 cap2 w ?_ ⟨rfl, rfl, rfl, Nat.le_refl _, fun _ _ _ => rfl⟩
    rw [List.append_nil, Nat.add_zero, ← hv]; exact hown
  · obtain ⟨b, off, rfl, hb, hat⟩ := hat hp
    obtain ⟨v', w', hr, h2, h3, h4, h5⟩ := run_append_own_at (P := Try.prog) w base 23 o.type 47 i0 (.agg #[.string ⟨#[]⟩, .string ⟨#[]⟩, .int .i64 0, .int .i64 0, .string ⟨#[]⟩, .slice none 0 0]) 6 88 Try.underlying23 hi hz0 hz1 hz2 rfl (by decide) v l.length _ hown ⟨b, off, none⟩ m c (cellsT k) (by rw [cellsT_len, hm]) (pairs_cells hat) (cellsT_one hk1) (by unfold maxLen; omega) h63 hbase
    obtain ⟨A2, cap2, rfl⟩ := form h2
    unfold Oper.wp execOp
    simp only [ho, resolve, invoke, builtin, Sem.run_bind, Sem.run_pure, Result.andThen_ok, List.map_toArray, List.map_cons, List.map_nil, hs, hx, hr]
    refine h _ _ w' ?_ h3
    unfold RowT
    rw [cellsT_append, List.length_append, ← hm]; exact h2
/-- What the document's Do leaves: a row of its own. -/
def DoOwn (w : World) (t : List Rcd) (o : OpR) (e : Ending) (w' : World) : Prop :=
  ∃ v l K, e = .returned (.tuple #[v, rpV (doT t o).2 K]) ∧ RowT w' w.heap.size v l ∧ l.map Prod.fst = (doT t o).1 ∧ ExT w' l ∧ RowK w' w.heap.size K (doT t o).2.keys ∧ Below w.heap.size w w'
set_option maxRecDepth 100000 in
set_option maxHeartbeats 8000000 in
theorem refdo_any (t : List Rcd) (o : OpR) (A : Option Addr) (n cap : Nat) (w : World) (h : IsTs w A n t) (h88 : n * 88 ≤ 140737488351232) (ho : OpWf o) :
    Calls Try.prog 17 #[.slice A n cap, opV o] w (DoOwn w t o) := by
  have HN : Hid (n = t.length) := h.1
  have hbw : Below w.heap.size w ((w.alloc (.cells #[.int .i64 o.kind, .string o.key, .string o.value, .int .i64 o.rev, .string o.upto, .int .i64 o.life, .string o.note] 26)).alloc (.cells #[.int .i64 0, .int .i64 0, .string ⟨#[]⟩, .slice none 0 0] 37)) := ((Below.refl _ _).alloc (Nat.le_refl _) _).alloc (by simp) _
  have hob : OpBlk ((w.alloc (.cells #[.int .i64 o.kind, .string o.key, .string o.value, .int .i64 o.rev, .string o.upto, .int .i64 o.life, .string o.note] 26)).alloc (.cells #[.int .i64 0, .int .i64 0, .string ⟨#[]⟩, .slice none 0 0] 37)) w.heap.size o := (OpBlk.new w o).below ((Below.refl _ _).alloc (Nat.le_refl _) _)
  have hzb : Blk ((w.alloc (.cells #[.int .i64 o.kind, .string o.key, .string o.value, .int .i64 o.rev, .string o.upto, .int .i64 o.life, .string o.note] 26)).alloc (.cells #[.int .i64 0, .int .i64 0, .string ⟨#[]⟩, .slice none 0 0] 37)) (w.heap.size + 1) (.cells #[.int .i64 0, .int .i64 0, .string ⟨#[]⟩, .slice none 0 0] 37 (0, 0)) := by have h := Blk.new (w.alloc (.cells #[.int .i64 o.kind, .string o.key, .string o.value, .int .i64 o.rev, .string o.upto, .int .i64 o.life, .string o.note] 26)) (.cells #[.int .i64 0, .int .i64 0, .string ⟨#[]⟩, .slice none 0 0] 37); rw [World.size_alloc] at h; exact h
  have hs2 : ((w.alloc (.cells #[.int .i64 o.kind, .string o.key, .string o.value, .int .i64 o.rev, .string o.upto, .int .i64 o.life, .string o.note] 26)).alloc (.cells #[.int .i64 0, .int .i64 0, .string ⟨#[]⟩, .slice none 0 0] 37)).heap.size = w.heap.size + 2 := by simp
  obtain ⟨W0, hW0⟩ : ∃ W, (w.alloc (.cells #[.int .i64 o.kind, .string o.key, .string o.value, .int .i64 o.rev, .string o.upto, .int .i64 o.life, .string o.note] 26)).alloc (.cells #[.int .i64 0, .int .i64 0, .string ⟨#[]⟩, .slice none 0 0] 37) = W := ⟨_, rfl⟩
  rw [hW0] at hbw hob hzb hs2
  have HS1 : Hid (w.heap.size + 1 < W0.heap.size) := Blk.lt hzb
  have HS2 : Hid (W0.heap.size = w.heap.size + 2) := hs2
  clear hs2
  have hts0 := h.below hbw
  have qo := refown_any t A n cap W0 hts0 (by omega)
  have HT := Lib.hid hts0; clear hts0 h
  have HO := Lib.hid ho; clear ho
  have HOB := Lib.hid hob; clear hob
  have HZB := Lib.hid hzb; clear hzb
  have HBW := Lib.hid hbw; clear hbw
  unfold opV
  go_enter Try.func17, Try.ntmps17
  go_wp2_with fail
  ((with_reducible refine qo.mono ?_); rintro e W1 ⟨v1, l, rfl, hr1, hm1, hx1, b1⟩)
  clear qo hW0
  have HMAP0 := Lib.hid hm1; clear hm1
  have HMAP := HMAP0
  have HLN : Hid (l.length = n) := by have := congrArg List.length HMAP0.out; rw [List.length_map] at this; show _ = _; have := HN.out; omega
  obtain ⟨A1, cap1, hv1, hc1, hps1⟩ := hr1.parts
  rw [HLN.out] at hv1
  subst hv1
  have qr := refright12_any t A n cap W1 (HT.out.below b1)
  have HR1 := Lib.hid hr1; clear hr1
  have HX1 := Lib.hid hx1; clear hx1
  have HB1 := Lib.hid (bch HBW.out b1)
  have HZ1 := Lib.hid (Blk.below HZB.out b1)
  have HO1 := Lib.hid (OpBlk.below HOB.out b1)
  clear HZB HOB HBW hps1 b1
  cases hrt : rightT t with
  | false =>
    rw [hrt] at qr
    have HE : Hid (doT t o = (t, faultR 1)) := doT_bad (fun h => by rw [rightT_iff.2 h.1] at hrt; cases hrt)
    clear hrt
    go_wp2_with fail
    ((with_reducible refine qr.mono ?_); rintro e W4 ⟨rfl, b4⟩)
    have HR4 := Lib.hid (HR1.out.below b4)
    have HX4 := Lib.hid (HX1.out.below b4)
    have HB4 := Lib.hid (bch HB1.out b4)
    have HZ4 := Lib.hid (Blk.below HZ1.out b4)
    clear qr b4
    have qf := fun W => reffault_num 1 1 rfl W
    go_wp2_with fail
    ((with_reducible refine (qf _).mono ?_); rintro e W5 ⟨rfl, b5⟩)
    have hz5 := Blk.below HZ4.out b5
    have hr5 := HR4.out.below b5
    have hx5 := HX4.out.below b5
    have hb5 := bch HB4.out b5
    clear b5
    have z0 := Blk.cell hz5 0
    have z1 := Blk.cell hz5 1
    have z2 := Blk.cell hz5 2
    have z3 := Blk.cell hz5 3
    simp only [List.getElem?_toArray, List.getElem?_cons_zero, List.getElem?_cons_succ] at z0 z1 z2 z3
    have f0 := Blk.frozen hz5 0
    have f1 := Blk.frozen hz5 1
    have f2 := Blk.frozen hz5 2
    have f3 := Blk.frozen hz5 3
    have hne := row_lt_ne hr5 hz5 (by decide)
    have hfin := rp_put hz5 (.int .i64 1) (.int .i64 0) (.string ByteArray.empty) (.slice none 0 0)
    have e0 := Blk.cell hfin 0
    have e1 := Blk.cell hfin 1
    have e2 := Blk.cell hfin 2
    have e3 := Blk.cell hfin 3
    simp only [List.getElem?_toArray, List.getElem?_cons_zero, List.getElem?_cons_succ] at e0 e1 e2 e3
    have HRF := Lib.hid (RowT.base (b := w.heap.size) (Nat.le_of_lt (by have := HS1.out; omega)) (rowT_four hr5 hne (.int .i64 1) (.int .i64 0) (.string ByteArray.empty) (.slice none 0 0)))
    have HXF := Lib.hid (exT_four hx5 hz5 (by decide) (.int .i64 1) (.int .i64 0) (.string ByteArray.empty) (.slice none 0 0))
    have HBF := Lib.hid (below_four (g := (w.heap.size + 1)) hb5 (by omega) (.int .i64 1) (.int .i64 0) (.string ByteArray.empty) (.slice none 0 0))
    have HKF := Lib.hid (rowK_four (rowK_nil W5 w.heap.size) (g := w.heap.size + 1) (by simp [Value.ownBlock]) (.int .i64 1) (.int .i64 0) (.string ByteArray.empty) (.slice none 0 0))
    clear hfin hne
    go_wp2_with fail
    refine bodyPost_ret (v := .tuple #[.slice A1 n cap1, .agg #[(.int .i64 1), (.int .i64 0), (.string ByteArray.empty), (.slice none 0 0)]]) (by simp [results, Try.results17, go_sem, e0, e1, e2, e3]) rfl ⟨_, l, (.slice none 0 0), by rw [HE.out]; rfl, HRF.out, by rw [HE.out]; exact HMAP.out, HXF.out, by rw [HE.out]; exact HKF.out, HBF.out⟩
  | true =>
    rw [hrt] at qr
    have HRT := Lib.hid (rightT_iff.1 hrt)
    clear hrt
    go_wp2_with fail
    ((with_reducible refine qr.mono ?_); rintro e W2 ⟨rfl, b2⟩)
    have HR2 := Lib.hid (HR1.out.below b2)
    have HX2 := Lib.hid (HX1.out.below b2)
    have HB2 := Lib.hid (bch HB1.out b2)
    have HZ2 := Lib.hid (Blk.below HZ1.out b2)
    have HO2 := Lib.hid (OpBlk.below HO1.out b2)
    obtain ⟨c0, c1, c2, c3, c4, c5, c6⟩ := HO2.out.cells
    have qc := refcheck_any 2 o W2
    unfold opV at qc
    by_cases hc : checkO 2 o = 0
    rotate_left
    · have HE : Hid (doT t o = (t, faultR 1)) := doT_bad (fun h => hc h.2)
      have ec : (((checkO 2 o : Nat) : Int) != 0) = true := by simp; omega
      clear hc
      go_wp2_with fail
      ((with_reducible refine qc.mono ?_); rintro e W4 ⟨rfl, b4⟩)
      have HR4 := Lib.hid (HR2.out.below b4)
      have HX4 := Lib.hid (HX2.out.below b4)
      have HB4 := Lib.hid (bch HB2.out b4)
      have HZ4 := Lib.hid (Blk.below HZ2.out b4)
      clear qc b4 c0 c1 c2 c3 c4 c5 c6
      have qf := fun W => reffault_num 1 1 rfl W
      go_wp2_with fail
      ((with_reducible refine (qf _).mono ?_); rintro e W5 ⟨rfl, b5⟩)
      have hz5 := Blk.below HZ4.out b5
      have hr5 := HR4.out.below b5
      have hx5 := HX4.out.below b5
      have hb5 := bch HB4.out b5
      clear b5
      have z0 := Blk.cell hz5 0
      have z1 := Blk.cell hz5 1
      have z2 := Blk.cell hz5 2
      have z3 := Blk.cell hz5 3
      simp only [List.getElem?_toArray, List.getElem?_cons_zero, List.getElem?_cons_succ] at z0 z1 z2 z3
      have f0 := Blk.frozen hz5 0
      have f1 := Blk.frozen hz5 1
      have f2 := Blk.frozen hz5 2
      have f3 := Blk.frozen hz5 3
      have hne := row_lt_ne hr5 hz5 (by decide)
      have hfin := rp_put hz5 (.int .i64 1) (.int .i64 0) (.string ByteArray.empty) (.slice none 0 0)
      have e0 := Blk.cell hfin 0
      have e1 := Blk.cell hfin 1
      have e2 := Blk.cell hfin 2
      have e3 := Blk.cell hfin 3
      simp only [List.getElem?_toArray, List.getElem?_cons_zero, List.getElem?_cons_succ] at e0 e1 e2 e3
      have HRF := Lib.hid (RowT.base (b := w.heap.size) (Nat.le_of_lt (by have := HS1.out; omega)) (rowT_four hr5 hne (.int .i64 1) (.int .i64 0) (.string ByteArray.empty) (.slice none 0 0)))
      have HXF := Lib.hid (exT_four hx5 hz5 (by decide) (.int .i64 1) (.int .i64 0) (.string ByteArray.empty) (.slice none 0 0))
      have HBF := Lib.hid (below_four (g := (w.heap.size + 1)) hb5 (by omega) (.int .i64 1) (.int .i64 0) (.string ByteArray.empty) (.slice none 0 0))
      have HKF := Lib.hid (rowK_four (rowK_nil W5 w.heap.size) (g := w.heap.size + 1) (by simp [Value.ownBlock]) (.int .i64 1) (.int .i64 0) (.string ByteArray.empty) (.slice none 0 0))
      clear hfin hne
      go_wp2_with fail
      refine bodyPost_ret (v := .tuple #[.slice A1 n cap1, .agg #[(.int .i64 1), (.int .i64 0), (.string ByteArray.empty), (.slice none 0 0)]]) (by simp [results, Try.results17, go_sem, e0, e1, e2, e3]) rfl ⟨_, l, (.slice none 0 0), by rw [HE.out]; rfl, HRF.out, by rw [HE.out]; exact HMAP.out, HXF.out, by rw [HE.out]; exact HKF.out, HBF.out⟩
    have HD := Lib.hid (doT_ok ⟨HRT.out, hc⟩)
    rw [hc] at qc
    clear hc
    go_wp2_with fail
    ((with_reducible refine qc.mono ?_); rintro e W3 ⟨rfl, b3⟩)
    have HR3 := Lib.hid (HR2.out.below b3)
    have HX3 := Lib.hid (HX2.out.below b3)
    have HB3 := Lib.hid (bch HB2.out b3)
    have HZ3 := Lib.hid (Blk.below HZ2.out b3)
    have HO3 := Lib.hid (OpBlk.below HO2.out b3)
    clear qc b3 c0 c1 c2 c3 c4 c5 c6
    obtain ⟨c0, c1, c2, c3, c4, c5, c6⟩ := HO3.out.cells
    obtain ⟨As, cs, hvs, hcs, hts⟩ := HR3.out.isTs HX3.out
    rw [HLN.out] at hvs hts
    obtain ⟨rfl, rfl⟩ : A1 = As ∧ cap1 = cs := by simp only [Value.slice.injEq, true_and] at hvs; exact hvs
    rw [HMAP0.out] at hts
    have qa := refat_any t o.key A1 n cap1 W3 hts
    clear hvs hts hcs
    go_wp2_with fail
    ((with_reducible refine qa.mono ?_); rintro e W4 ⟨rfl, b4⟩)
    have HR4 := Lib.hid (HR3.out.below b4)
    have HX4 := Lib.hid (HX3.out.below b4)
    have HB4 := Lib.hid (bch HB3.out b4)
    have HZ4 := Lib.hid (Blk.below HZ3.out b4)
    have HO4 := Lib.hid (OpBlk.below HO3.out b4)
    have hsz4 := HB4.out.size
    have HL20 : Hid (l.length ≤ 20) := by have := HRT.out.2.2; have := HLN.out; have := HN.out; show _ ≤ _; omega
    clear qa b4 c0 c1 c2 c3 c4 c5 c6 HR1 HX1 HB1 HZ1 HO1 HR2 HX2 HB2 HZ2 HO2 HR3 HX3 HB3 HZ3 HO3
    obtain ⟨c0, c1, c2, c3, c4, c5, c6⟩ := HO4.out.cells
    have HSZ4 : Hid (W0.heap.size ≤ W4.heap.size) := by have h1 := HS2.out; have h2 := Blk.lt HZ4.out; show _ ≤ _; omega
    have hkb := wf_bounds HO.out.1
    cases hidx : idxT t o.key with
    | none =>
      simp only [plcT]
      rw [hidx] at HD
      by_cases k6 : o.kind = 6
      · have HE : Hid (doT t o = (t, ⟨0, 0, ByteArray.empty, scanT t o⟩)) := by show _ = _; rw [HD.out, if_pos k6]
        have e6 : (o.kind == 6) = true := by simpa using k6
        clear k6
        have hts := HR4.out.isTs HX4.out
        obtain ⟨As, cs, hvs, hcs, hts⟩ := hts
        rw [HLN.out] at hvs hts
        obtain ⟨rfl, rfl⟩ : A1 = As ∧ cap1 = cs := by simp only [Value.slice.injEq, true_and] at hvs; exact hvs
        rw [HMAP0.out] at hts
        have qs := refscan_any t o A1 n cap1 W4 hts (by omega)
        unfold opV rpV at qs
        clear hvs hts
        go_wp2_with fail
        ((with_reducible refine qs.mono ?_); rintro e W5 ⟨K, rfl, hk5, b5⟩)
        have hz5 := Blk.below HZ4.out b5
        have hr5 := HR4.out.below b5
        have hx5 := HX4.out.below b5
        have hb5 := bch HB4.out b5
        have hkb := rowK_base (b := w.heap.size) HB4.out.size hk5
        obtain ⟨AK, cK, hK⟩ := own_formK hk5
        subst hK
        have hkn : some (w.heap.size + 1) ≠ (Value.slice AK (scanT t o).length cK).ownBlock := fun e => by have := (hk5.lt _ e.symm).1; have := Blk.lt HZ4.out; omega
        clear b5 qs hk5
        have z0 := Blk.cell hz5 0
        have z1 := Blk.cell hz5 1
        have z2 := Blk.cell hz5 2
        have z3 := Blk.cell hz5 3
        simp only [List.getElem?_toArray, List.getElem?_cons_zero, List.getElem?_cons_succ] at z0 z1 z2 z3
        have f0 := Blk.frozen hz5 0
        have f1 := Blk.frozen hz5 1
        have f2 := Blk.frozen hz5 2
        have f3 := Blk.frozen hz5 3
        have hne := row_lt_ne hr5 hz5 (by decide)
        have hfin := rp_put hz5 (.int .i64 0) (.int .i64 0) (.string ByteArray.empty) (.slice AK (scanT t o).length cK)
        have e0 := Blk.cell hfin 0
        have e1 := Blk.cell hfin 1
        have e2 := Blk.cell hfin 2
        have e3 := Blk.cell hfin 3
        simp only [List.getElem?_toArray, List.getElem?_cons_zero, List.getElem?_cons_succ] at e0 e1 e2 e3
        have HRF := Lib.hid (RowT.base (b := w.heap.size) (Nat.le_of_lt (by have := HS1.out; omega)) (rowT_four hr5 hne (.int .i64 0) (.int .i64 0) (.string ByteArray.empty) (.slice AK (scanT t o).length cK)))
        have HXF := Lib.hid (exT_four hx5 hz5 (by decide) (.int .i64 0) (.int .i64 0) (.string ByteArray.empty) (.slice AK (scanT t o).length cK))
        have HBF := Lib.hid (below_four (g := (w.heap.size + 1)) hb5 (by omega) (.int .i64 0) (.int .i64 0) (.string ByteArray.empty) (.slice AK (scanT t o).length cK))
        have HKF := Lib.hid (rowK_four hkb hkn (.int .i64 0) (.int .i64 0) (.string ByteArray.empty) (.slice AK (scanT t o).length cK))
        clear hfin hne
        go_wp2_with fail
        refine bodyPost_ret (v := .tuple #[.slice A1 n cap1, .agg #[(.int .i64 0), (.int .i64 0), (.string ByteArray.empty), (.slice AK (scanT t o).length cK)]]) (by simp [results, Try.results17, go_sem, e0, e1, e2, e3]) rfl ⟨_, l, (.slice AK (scanT t o).length cK), by rw [HE.out]; rfl, HRF.out, by rw [HE.out]; exact HMAP.out, HXF.out, by rw [HE.out]; exact HKF.out, HBF.out⟩
      have e6 : (o.kind == 6) = false := by simpa using k6
      by_cases k2 : o.kind = 2
      · have HE : Hid (doT t o = putT t none o) := by show _ = _; rw [HD.out, if_neg k6, if_pos k2]
        have e2 : (o.kind == 2) = true := by simpa using k2
        clear k6 k2
        have qp := refput_any l (none) o A1 n cap1 W0.heap.size W4 HR4.out HX4.out HSZ4.out HL20.out HO.out (fun i h => by cases h) (by rw [HLN.out])
        rw [HMAP0.out] at qp
        unfold opV PutT rpV at qp
        simp only [plcT] at qp
        go_wp2_with fail
        ((with_reducible refine qp.mono ?_); rintro e W5 ⟨v5, l5, rfl, hr5, hm5, hx5, b5⟩)
        have hz5 : Blk W5 (w.heap.size + 1) (.cells #[.int .i64 0, .int .i64 0, .string ⟨#[]⟩, .slice none 0 0] 37 (0, 0)) := Eq.trans (b5.block _ (by have := HS1.out; omega)) HZ4.out
        have hb5 : Below w.heap.size w W5 := by have h1 := HB4.out; have h2 := HS1.out; exact h1.trans ⟨b5.os, b5.tape, b5.output, b5.size, fun i hi => b5.block i (by omega)⟩
        have HMAP : Hid (l5.map Prod.fst = (putT t (none) o).1) := hm5
        clear qp b5 hm5
        have z0 := Blk.cell hz5 0
        have z1 := Blk.cell hz5 1
        have z2 := Blk.cell hz5 2
        have z3 := Blk.cell hz5 3
        simp only [List.getElem?_toArray, List.getElem?_cons_zero, List.getElem?_cons_succ] at z0 z1 z2 z3
        have f0 := Blk.frozen hz5 0
        have f1 := Blk.frozen hz5 1
        have f2 := Blk.frozen hz5 2
        have f3 := Blk.frozen hz5 3
        have hne := row_lt_ne hr5 hz5 (by decide)
        have hfin := rp_put hz5 (.int .i64 (putT t (none) o).2.errno) (.int .i64 (putT t (none) o).2.rev) (.string (putT t (none) o).2.value) (.slice none 0 0)
        have e0 := Blk.cell hfin 0
        have e1 := Blk.cell hfin 1
        have e2 := Blk.cell hfin 2
        have e3 := Blk.cell hfin 3
        simp only [List.getElem?_toArray, List.getElem?_cons_zero, List.getElem?_cons_succ] at e0 e1 e2 e3
        have HRF := Lib.hid (RowT.base (b := w.heap.size) (Nat.le_of_lt (by have := HS1.out; omega)) (rowT_four hr5 hne (.int .i64 (putT t (none) o).2.errno) (.int .i64 (putT t (none) o).2.rev) (.string (putT t (none) o).2.value) (.slice none 0 0)))
        have HXF := Lib.hid (exT_four hx5 hz5 (by decide) (.int .i64 (putT t (none) o).2.errno) (.int .i64 (putT t (none) o).2.rev) (.string (putT t (none) o).2.value) (.slice none 0 0))
        have HBF := Lib.hid (below_four (g := (w.heap.size + 1)) hb5 (by omega) (.int .i64 (putT t (none) o).2.errno) (.int .i64 (putT t (none) o).2.rev) (.string (putT t (none) o).2.value) (.slice none 0 0))
        have HKF := Lib.hid (rowK_four (rowK_nil W5 w.heap.size) (g := w.heap.size + 1) (by simp [Value.ownBlock]) (.int .i64 (putT t (none) o).2.errno) (.int .i64 (putT t (none) o).2.rev) (.string (putT t (none) o).2.value) (.slice none 0 0))
        clear hfin hne
        go_wp2_with fail
        refine bodyPost_ret (v := .tuple #[v5, .agg #[(.int .i64 (putT t (none) o).2.errno), (.int .i64 (putT t (none) o).2.rev), (.string (putT t (none) o).2.value), (.slice none 0 0)]]) (by simp [results, Try.results17, go_sem, e0, e1, e2, e3]) rfl ⟨_, l5, (.slice none 0 0), by rw [HE.out]; rfl, HRF.out, by rw [HE.out]; exact HMAP.out, HXF.out, by rw [HE.out]; rw [put_keys]; exact HKF.out, HBF.out⟩
      have e2 : (o.kind == 2) = false := by simpa using k2
      by_cases k4 : o.kind = 4
      · have e4 : (o.kind == 4) = true := by simpa using k4
        by_cases hr : (0 : Int) = o.rev
        · have HE : Hid (doT t o = putT t none o) := by show _ = _; rw [HD.out, if_neg k6, if_neg k2, if_pos k4, if_neg (fun h => h hr)]
          have er : ((0 : Int) != o.rev) = false := by simpa using hr
          clear k6 k2 k4 hr
          have qp := refput_any l (none) o A1 n cap1 W0.heap.size W4 HR4.out HX4.out HSZ4.out HL20.out HO.out (fun i h => by cases h) (by rw [HLN.out])
          rw [HMAP0.out] at qp
          unfold opV PutT rpV at qp
          simp only [plcT] at qp
          go_wp2_with fail
          ((with_reducible refine qp.mono ?_); rintro e W5 ⟨v5, l5, rfl, hr5, hm5, hx5, b5⟩)
          have hz5 : Blk W5 (w.heap.size + 1) (.cells #[.int .i64 0, .int .i64 0, .string ⟨#[]⟩, .slice none 0 0] 37 (0, 0)) := Eq.trans (b5.block _ (by have := HS1.out; omega)) HZ4.out
          have hb5 : Below w.heap.size w W5 := by have h1 := HB4.out; have h2 := HS1.out; exact h1.trans ⟨b5.os, b5.tape, b5.output, b5.size, fun i hi => b5.block i (by omega)⟩
          have HMAP : Hid (l5.map Prod.fst = (putT t (none) o).1) := hm5
          clear qp b5 hm5
          have z0 := Blk.cell hz5 0
          have z1 := Blk.cell hz5 1
          have z2 := Blk.cell hz5 2
          have z3 := Blk.cell hz5 3
          simp only [List.getElem?_toArray, List.getElem?_cons_zero, List.getElem?_cons_succ] at z0 z1 z2 z3
          have f0 := Blk.frozen hz5 0
          have f1 := Blk.frozen hz5 1
          have f2 := Blk.frozen hz5 2
          have f3 := Blk.frozen hz5 3
          have hne := row_lt_ne hr5 hz5 (by decide)
          have hfin := rp_put hz5 (.int .i64 (putT t (none) o).2.errno) (.int .i64 (putT t (none) o).2.rev) (.string (putT t (none) o).2.value) (.slice none 0 0)
          have e0 := Blk.cell hfin 0
          have e1 := Blk.cell hfin 1
          have e2 := Blk.cell hfin 2
          have e3 := Blk.cell hfin 3
          simp only [List.getElem?_toArray, List.getElem?_cons_zero, List.getElem?_cons_succ] at e0 e1 e2 e3
          have HRF := Lib.hid (RowT.base (b := w.heap.size) (Nat.le_of_lt (by have := HS1.out; omega)) (rowT_four hr5 hne (.int .i64 (putT t (none) o).2.errno) (.int .i64 (putT t (none) o).2.rev) (.string (putT t (none) o).2.value) (.slice none 0 0)))
          have HXF := Lib.hid (exT_four hx5 hz5 (by decide) (.int .i64 (putT t (none) o).2.errno) (.int .i64 (putT t (none) o).2.rev) (.string (putT t (none) o).2.value) (.slice none 0 0))
          have HBF := Lib.hid (below_four (g := (w.heap.size + 1)) hb5 (by omega) (.int .i64 (putT t (none) o).2.errno) (.int .i64 (putT t (none) o).2.rev) (.string (putT t (none) o).2.value) (.slice none 0 0))
          have HKF := Lib.hid (rowK_four (rowK_nil W5 w.heap.size) (g := w.heap.size + 1) (by simp [Value.ownBlock]) (.int .i64 (putT t (none) o).2.errno) (.int .i64 (putT t (none) o).2.rev) (.string (putT t (none) o).2.value) (.slice none 0 0))
          clear hfin hne
          go_wp2_with fail
          refine bodyPost_ret (v := .tuple #[v5, .agg #[(.int .i64 (putT t (none) o).2.errno), (.int .i64 (putT t (none) o).2.rev), (.string (putT t (none) o).2.value), (.slice none 0 0)]]) (by simp [results, Try.results17, go_sem, e0, e1, e2, e3]) rfl ⟨_, l5, (.slice none 0 0), by rw [HE.out]; rfl, HRF.out, by rw [HE.out]; exact HMAP.out, HXF.out, by rw [HE.out]; rw [put_keys]; exact HKF.out, HBF.out⟩
        · have HE : Hid (doT t o = (t, ⟨71, 0, ByteArray.empty, []⟩)) := by show _ = _; rw [HD.out, if_neg k6, if_neg k2, if_pos k4, if_pos (show revT t none ≠ o.rev from hr)]; rfl
          have er : ((0 : Int) != o.rev) = true := by simpa using hr
          clear k6 k2 k4 hr
          have z0 := Blk.cell HZ4.out 0
          have z1 := Blk.cell HZ4.out 1
          have z2 := Blk.cell HZ4.out 2
          have z3 := Blk.cell HZ4.out 3
          simp only [List.getElem?_toArray, List.getElem?_cons_zero, List.getElem?_cons_succ] at z0 z1 z2 z3
          have f0 := Blk.frozen HZ4.out 0
          have f1 := Blk.frozen HZ4.out 1
          have f2 := Blk.frozen HZ4.out 2
          have f3 := Blk.frozen HZ4.out 3
          have hne := row_lt_ne HR4.out HZ4.out (by decide)
          have hfin := rp_put HZ4.out (.int .i64 71) (.int .i64 0) (.string ⟨#[]⟩) (.slice none 0 0)
          have e0 := Blk.cell hfin 0
          have e1 := Blk.cell hfin 1
          have e2 := Blk.cell hfin 2
          have e3 := Blk.cell hfin 3
          simp only [List.getElem?_toArray, List.getElem?_cons_zero, List.getElem?_cons_succ] at e0 e1 e2 e3
          have HRF := Lib.hid (RowT.base (b := w.heap.size) (Nat.le_of_lt (by have := HS1.out; omega)) (rowT_four HR4.out hne (.int .i64 71) (.int .i64 0) (.string ⟨#[]⟩) (.slice none 0 0)))
          have HXF := Lib.hid (exT_four HX4.out HZ4.out (by decide) (.int .i64 71) (.int .i64 0) (.string ⟨#[]⟩) (.slice none 0 0))
          have HBF := Lib.hid (below_four (g := (w.heap.size + 1)) HB4.out (by omega) (.int .i64 71) (.int .i64 0) (.string ⟨#[]⟩) (.slice none 0 0))
          have HKF := Lib.hid (rowK_four (rowK_nil W4 w.heap.size) (g := w.heap.size + 1) (by simp [Value.ownBlock]) (.int .i64 71) (.int .i64 0) (.string ⟨#[]⟩) (.slice none 0 0))
          clear hfin hne
          go_wp2_with fail
          refine bodyPost_ret (v := .tuple #[.slice A1 n cap1, .agg #[(.int .i64 71), (.int .i64 0), (.string ⟨#[]⟩), (.slice none 0 0)]]) (by simp [results, Try.results17, go_sem, e0, e1, e2, e3]) rfl ⟨_, l, (.slice none 0 0), by rw [HE.out]; rfl, HRF.out, by rw [HE.out]; exact HMAP.out, HXF.out, by rw [HE.out]; exact HKF.out, HBF.out⟩
      have e4 : (o.kind == 4) = false := by simpa using k4
      have HE : Hid (doT t o = (t, faultR 70)) := by show _ = _; rw [HD.out, if_neg k6, if_neg k2, if_neg k4]
      clear k6 k2 k4
      have qf := fun W => reffault_num 70 70 rfl W
      go_wp2_with fail
      ((with_reducible refine (qf _).mono ?_); rintro e W5 ⟨rfl, b5⟩)
      have hz5 := Blk.below HZ4.out b5
      have hr5 := HR4.out.below b5
      have hx5 := HX4.out.below b5
      have hb5 := bch HB4.out b5
      clear b5
      have z0 := Blk.cell hz5 0
      have z1 := Blk.cell hz5 1
      have z2 := Blk.cell hz5 2
      have z3 := Blk.cell hz5 3
      simp only [List.getElem?_toArray, List.getElem?_cons_zero, List.getElem?_cons_succ] at z0 z1 z2 z3
      have f0 := Blk.frozen hz5 0
      have f1 := Blk.frozen hz5 1
      have f2 := Blk.frozen hz5 2
      have f3 := Blk.frozen hz5 3
      have hne := row_lt_ne hr5 hz5 (by decide)
      have hfin := rp_put hz5 (.int .i64 70) (.int .i64 0) (.string ByteArray.empty) (.slice none 0 0)
      have e0 := Blk.cell hfin 0
      have e1 := Blk.cell hfin 1
      have e2 := Blk.cell hfin 2
      have e3 := Blk.cell hfin 3
      simp only [List.getElem?_toArray, List.getElem?_cons_zero, List.getElem?_cons_succ] at e0 e1 e2 e3
      have HRF := Lib.hid (RowT.base (b := w.heap.size) (Nat.le_of_lt (by have := HS1.out; omega)) (rowT_four hr5 hne (.int .i64 70) (.int .i64 0) (.string ByteArray.empty) (.slice none 0 0)))
      have HXF := Lib.hid (exT_four hx5 hz5 (by decide) (.int .i64 70) (.int .i64 0) (.string ByteArray.empty) (.slice none 0 0))
      have HBF := Lib.hid (below_four (g := (w.heap.size + 1)) hb5 (by omega) (.int .i64 70) (.int .i64 0) (.string ByteArray.empty) (.slice none 0 0))
      have HKF := Lib.hid (rowK_four (rowK_nil W5 w.heap.size) (g := w.heap.size + 1) (by simp [Value.ownBlock]) (.int .i64 70) (.int .i64 0) (.string ByteArray.empty) (.slice none 0 0))
      clear hfin hne
      go_wp2_with fail
      refine bodyPost_ret (v := .tuple #[.slice A1 n cap1, .agg #[(.int .i64 70), (.int .i64 0), (.string ByteArray.empty), (.slice none 0 0)]]) (by simp [results, Try.results17, go_sem, e0, e1, e2, e3]) rfl ⟨_, l, (.slice none 0 0), by rw [HE.out]; rfl, HRF.out, by rw [HE.out]; exact HMAP.out, HXF.out, by rw [HE.out]; exact HKF.out, HBF.out⟩
    | some i =>
      simp only [plcT]
      rw [hidx] at HD
      have hit := (idx_some hidx).1
      have hin : i < n := by have := HN.out; omega
      have HIL : Hid (i < l.length) := by have := HLN.out; show _ < _; omega
      obtain ⟨g, hA, hbg⟩ := HR4.out.at0 HIL.out
      subst hA
      obtain ⟨x0, x1, x2, x3, x4, x5⟩ := HR4.out.six HIL.out
      have HPR : Hid ((atP l i).1 = atR t i) := by show _ = _; rw [atP_map l HIL.out, HMAP0.out]
      have hri := HRT.out.1 _ (atR_mem hit)
      have HPB : Hid (0 ≤ (atR t i).rev ∧ (atR t i).rev ≤ 9007199254740992) := rev_bounds hri
      have hii0 : (0 : Int) ≤ (i : Int) := by omega
      have hii1 : (i : Int) < (n : Int) := by omega
      have hii2 : ¬ ((i : Int) < 0) := by omega
      rw [HPR.out] at x0 x1 x2 x3 x4
      have HPL : Hid (∀ j, some i = some j → j < l.length ∧ 0 ≤ (atP l j).1.rev ∧ (atP l j).1.rev ≤ maxN) := fun j hj => by
        cases hj
        refine ⟨HIL.out, ?_, ?_⟩ <;> rw [HPR.out]
        · exact HPB.out.1
        · exact HPB.out.2
      clear hri hit
      generalize hr0 : atR t i = r at *
      by_cases k6 : o.kind = 6
      · have HE : Hid (doT t o = (t, ⟨0, 0, ByteArray.empty, scanT t o⟩)) := by show _ = _; rw [HD.out, if_pos k6]
        have e6 : (o.kind == 6) = true := by simpa using k6
        clear k6
        have hts := HR4.out.isTs HX4.out
        obtain ⟨As, cs, hvs, hcs, hts⟩ := hts
        rw [HLN.out] at hvs hts
        obtain ⟨rfl, rfl⟩ : (some ⟨g, 0, none⟩) = As ∧ cap1 = cs := by simp only [Value.slice.injEq, true_and] at hvs; exact hvs
        rw [HMAP0.out] at hts
        have qs := refscan_any t o (some ⟨g, 0, none⟩) n cap1 W4 hts (by omega)
        unfold opV rpV at qs
        clear hvs hts
        go_wp2_with fail
        ((with_reducible refine qs.mono ?_); rintro e W5 ⟨K, rfl, hk5, b5⟩)
        have hz5 := Blk.below HZ4.out b5
        have hr5 := HR4.out.below b5
        have hx5 := HX4.out.below b5
        have hb5 := bch HB4.out b5
        have hkb := rowK_base (b := w.heap.size) HB4.out.size hk5
        obtain ⟨AK, cK, hK⟩ := own_formK hk5
        subst hK
        have hkn : some (w.heap.size + 1) ≠ (Value.slice AK (scanT t o).length cK).ownBlock := fun e => by have := (hk5.lt _ e.symm).1; have := Blk.lt HZ4.out; omega
        clear b5 qs hk5
        have z0 := Blk.cell hz5 0
        have z1 := Blk.cell hz5 1
        have z2 := Blk.cell hz5 2
        have z3 := Blk.cell hz5 3
        simp only [List.getElem?_toArray, List.getElem?_cons_zero, List.getElem?_cons_succ] at z0 z1 z2 z3
        have f0 := Blk.frozen hz5 0
        have f1 := Blk.frozen hz5 1
        have f2 := Blk.frozen hz5 2
        have f3 := Blk.frozen hz5 3
        have hne := row_lt_ne hr5 hz5 (by decide)
        have hfin := rp_put hz5 (.int .i64 0) (.int .i64 0) (.string ByteArray.empty) (.slice AK (scanT t o).length cK)
        have e0 := Blk.cell hfin 0
        have e1 := Blk.cell hfin 1
        have e2 := Blk.cell hfin 2
        have e3 := Blk.cell hfin 3
        simp only [List.getElem?_toArray, List.getElem?_cons_zero, List.getElem?_cons_succ] at e0 e1 e2 e3
        have HRF := Lib.hid (RowT.base (b := w.heap.size) (Nat.le_of_lt (by have := HS1.out; omega)) (rowT_four hr5 hne (.int .i64 0) (.int .i64 0) (.string ByteArray.empty) (.slice AK (scanT t o).length cK)))
        have HXF := Lib.hid (exT_four hx5 hz5 (by decide) (.int .i64 0) (.int .i64 0) (.string ByteArray.empty) (.slice AK (scanT t o).length cK))
        have HBF := Lib.hid (below_four (g := (w.heap.size + 1)) hb5 (by omega) (.int .i64 0) (.int .i64 0) (.string ByteArray.empty) (.slice AK (scanT t o).length cK))
        have HKF := Lib.hid (rowK_four hkb hkn (.int .i64 0) (.int .i64 0) (.string ByteArray.empty) (.slice AK (scanT t o).length cK))
        clear hfin hne
        go_wp2_with fail
        refine bodyPost_ret (v := .tuple #[.slice (some ⟨g, 0, none⟩) n cap1, .agg #[(.int .i64 0), (.int .i64 0), (.string ByteArray.empty), (.slice AK (scanT t o).length cK)]]) (by simp [results, Try.results17, go_sem, e0, e1, e2, e3]) rfl ⟨_, l, (.slice AK (scanT t o).length cK), by rw [HE.out]; rfl, HRF.out, by rw [HE.out]; exact HMAP.out, HXF.out, by rw [HE.out]; exact HKF.out, HBF.out⟩
      have e6 : (o.kind == 6) = false := by simpa using k6
      by_cases k2 : o.kind = 2
      · have HE : Hid (doT t o = putT t (some i) o) := by show _ = _; rw [HD.out, if_neg k6, if_pos k2]
        have e2 : (o.kind == 2) = true := by simpa using k2
        clear k6 k2
        have qp := refput_any l (some i) o (some ⟨g, 0, none⟩) n cap1 W0.heap.size W4 HR4.out HX4.out HSZ4.out HL20.out HO.out (HPL.out) (by rw [HLN.out])
        rw [HMAP0.out] at qp
        unfold opV PutT rpV at qp
        simp only [plcT] at qp
        go_wp2_with fail
        ((with_reducible refine qp.mono ?_); rintro e W5 ⟨v5, l5, rfl, hr5, hm5, hx5, b5⟩)
        have hz5 : Blk W5 (w.heap.size + 1) (.cells #[.int .i64 0, .int .i64 0, .string ⟨#[]⟩, .slice none 0 0] 37 (0, 0)) := Eq.trans (b5.block _ (by have := HS1.out; omega)) HZ4.out
        have hb5 : Below w.heap.size w W5 := by have h1 := HB4.out; have h2 := HS1.out; exact h1.trans ⟨b5.os, b5.tape, b5.output, b5.size, fun i hi => b5.block i (by omega)⟩
        have HMAP : Hid (l5.map Prod.fst = (putT t (some i) o).1) := hm5
        clear qp b5 hm5
        have z0 := Blk.cell hz5 0
        have z1 := Blk.cell hz5 1
        have z2 := Blk.cell hz5 2
        have z3 := Blk.cell hz5 3
        simp only [List.getElem?_toArray, List.getElem?_cons_zero, List.getElem?_cons_succ] at z0 z1 z2 z3
        have f0 := Blk.frozen hz5 0
        have f1 := Blk.frozen hz5 1
        have f2 := Blk.frozen hz5 2
        have f3 := Blk.frozen hz5 3
        have hne := row_lt_ne hr5 hz5 (by decide)
        have hfin := rp_put hz5 (.int .i64 (putT t (some i) o).2.errno) (.int .i64 (putT t (some i) o).2.rev) (.string (putT t (some i) o).2.value) (.slice none 0 0)
        have e0 := Blk.cell hfin 0
        have e1 := Blk.cell hfin 1
        have e2 := Blk.cell hfin 2
        have e3 := Blk.cell hfin 3
        simp only [List.getElem?_toArray, List.getElem?_cons_zero, List.getElem?_cons_succ] at e0 e1 e2 e3
        have HRF := Lib.hid (RowT.base (b := w.heap.size) (Nat.le_of_lt (by have := HS1.out; omega)) (rowT_four hr5 hne (.int .i64 (putT t (some i) o).2.errno) (.int .i64 (putT t (some i) o).2.rev) (.string (putT t (some i) o).2.value) (.slice none 0 0)))
        have HXF := Lib.hid (exT_four hx5 hz5 (by decide) (.int .i64 (putT t (some i) o).2.errno) (.int .i64 (putT t (some i) o).2.rev) (.string (putT t (some i) o).2.value) (.slice none 0 0))
        have HBF := Lib.hid (below_four (g := (w.heap.size + 1)) hb5 (by omega) (.int .i64 (putT t (some i) o).2.errno) (.int .i64 (putT t (some i) o).2.rev) (.string (putT t (some i) o).2.value) (.slice none 0 0))
        have HKF := Lib.hid (rowK_four (rowK_nil W5 w.heap.size) (g := w.heap.size + 1) (by simp [Value.ownBlock]) (.int .i64 (putT t (some i) o).2.errno) (.int .i64 (putT t (some i) o).2.rev) (.string (putT t (some i) o).2.value) (.slice none 0 0))
        clear hfin hne
        go_wp2_with fail
        refine bodyPost_ret (v := .tuple #[v5, .agg #[(.int .i64 (putT t (some i) o).2.errno), (.int .i64 (putT t (some i) o).2.rev), (.string (putT t (some i) o).2.value), (.slice none 0 0)]]) (by simp [results, Try.results17, go_sem, e0, e1, e2, e3]) rfl ⟨_, l5, (.slice none 0 0), by rw [HE.out]; rfl, HRF.out, by rw [HE.out]; exact HMAP.out, HXF.out, by rw [HE.out]; rw [put_keys]; exact HKF.out, HBF.out⟩
      have e2 : (o.kind == 2) = false := by simpa using k2
      by_cases k4 : o.kind = 4
      · have e4 : (o.kind == 4) = true := by simpa using k4
        by_cases hr : r.rev = o.rev
        · have HE : Hid (doT t o = putT t (some i) o) := by show _ = _; rw [HD.out, if_neg k6, if_neg k2, if_pos k4, if_neg (fun h => h (by show (atR t i).rev = o.rev; rw [hr0]; exact hr))]
          have er : (r.rev != o.rev) = false := by simpa using hr
          clear k6 k2 k4 hr
          have qp := refput_any l (some i) o (some ⟨g, 0, none⟩) n cap1 W0.heap.size W4 HR4.out HX4.out HSZ4.out HL20.out HO.out (HPL.out) (by rw [HLN.out])
          rw [HMAP0.out] at qp
          unfold opV PutT rpV at qp
          simp only [plcT] at qp
          go_wp2_with fail
          ((with_reducible refine qp.mono ?_); rintro e W5 ⟨v5, l5, rfl, hr5, hm5, hx5, b5⟩)
          have hz5 : Blk W5 (w.heap.size + 1) (.cells #[.int .i64 0, .int .i64 0, .string ⟨#[]⟩, .slice none 0 0] 37 (0, 0)) := Eq.trans (b5.block _ (by have := HS1.out; omega)) HZ4.out
          have hb5 : Below w.heap.size w W5 := by have h1 := HB4.out; have h2 := HS1.out; exact h1.trans ⟨b5.os, b5.tape, b5.output, b5.size, fun i hi => b5.block i (by omega)⟩
          have HMAP : Hid (l5.map Prod.fst = (putT t (some i) o).1) := hm5
          clear qp b5 hm5
          have z0 := Blk.cell hz5 0
          have z1 := Blk.cell hz5 1
          have z2 := Blk.cell hz5 2
          have z3 := Blk.cell hz5 3
          simp only [List.getElem?_toArray, List.getElem?_cons_zero, List.getElem?_cons_succ] at z0 z1 z2 z3
          have f0 := Blk.frozen hz5 0
          have f1 := Blk.frozen hz5 1
          have f2 := Blk.frozen hz5 2
          have f3 := Blk.frozen hz5 3
          have hne := row_lt_ne hr5 hz5 (by decide)
          have hfin := rp_put hz5 (.int .i64 (putT t (some i) o).2.errno) (.int .i64 (putT t (some i) o).2.rev) (.string (putT t (some i) o).2.value) (.slice none 0 0)
          have e0 := Blk.cell hfin 0
          have e1 := Blk.cell hfin 1
          have e2 := Blk.cell hfin 2
          have e3 := Blk.cell hfin 3
          simp only [List.getElem?_toArray, List.getElem?_cons_zero, List.getElem?_cons_succ] at e0 e1 e2 e3
          have HRF := Lib.hid (RowT.base (b := w.heap.size) (Nat.le_of_lt (by have := HS1.out; omega)) (rowT_four hr5 hne (.int .i64 (putT t (some i) o).2.errno) (.int .i64 (putT t (some i) o).2.rev) (.string (putT t (some i) o).2.value) (.slice none 0 0)))
          have HXF := Lib.hid (exT_four hx5 hz5 (by decide) (.int .i64 (putT t (some i) o).2.errno) (.int .i64 (putT t (some i) o).2.rev) (.string (putT t (some i) o).2.value) (.slice none 0 0))
          have HBF := Lib.hid (below_four (g := (w.heap.size + 1)) hb5 (by omega) (.int .i64 (putT t (some i) o).2.errno) (.int .i64 (putT t (some i) o).2.rev) (.string (putT t (some i) o).2.value) (.slice none 0 0))
          have HKF := Lib.hid (rowK_four (rowK_nil W5 w.heap.size) (g := w.heap.size + 1) (by simp [Value.ownBlock]) (.int .i64 (putT t (some i) o).2.errno) (.int .i64 (putT t (some i) o).2.rev) (.string (putT t (some i) o).2.value) (.slice none 0 0))
          clear hfin hne
          go_wp2_with fail
          refine bodyPost_ret (v := .tuple #[v5, .agg #[(.int .i64 (putT t (some i) o).2.errno), (.int .i64 (putT t (some i) o).2.rev), (.string (putT t (some i) o).2.value), (.slice none 0 0)]]) (by simp [results, Try.results17, go_sem, e0, e1, e2, e3]) rfl ⟨_, l5, (.slice none 0 0), by rw [HE.out]; rfl, HRF.out, by rw [HE.out]; exact HMAP.out, HXF.out, by rw [HE.out]; rw [put_keys]; exact HKF.out, HBF.out⟩
        · have HE : Hid (doT t o = (t, ⟨71, r.rev, ByteArray.empty, []⟩)) := by show _ = _; rw [HD.out, if_neg k6, if_neg k2, if_pos k4, if_pos (by show (atR t i).rev ≠ o.rev; rw [hr0]; exact hr)]; show (t, (⟨71, (atR t i).rev, ByteArray.empty, []⟩ : RepR)) = _; rw [hr0]
          have er : (r.rev != o.rev) = true := by simpa using hr
          clear k6 k2 k4 hr
          have z0 := Blk.cell HZ4.out 0
          have z1 := Blk.cell HZ4.out 1
          have z2 := Blk.cell HZ4.out 2
          have z3 := Blk.cell HZ4.out 3
          simp only [List.getElem?_toArray, List.getElem?_cons_zero, List.getElem?_cons_succ] at z0 z1 z2 z3
          have f0 := Blk.frozen HZ4.out 0
          have f1 := Blk.frozen HZ4.out 1
          have f2 := Blk.frozen HZ4.out 2
          have f3 := Blk.frozen HZ4.out 3
          have hne := row_lt_ne HR4.out HZ4.out (by decide)
          have hfin := rp_put HZ4.out (.int .i64 71) (.int .i64 r.rev) (.string ⟨#[]⟩) (.slice none 0 0)
          have e0 := Blk.cell hfin 0
          have e1 := Blk.cell hfin 1
          have e2 := Blk.cell hfin 2
          have e3 := Blk.cell hfin 3
          simp only [List.getElem?_toArray, List.getElem?_cons_zero, List.getElem?_cons_succ] at e0 e1 e2 e3
          have HRF := Lib.hid (RowT.base (b := w.heap.size) (Nat.le_of_lt (by have := HS1.out; omega)) (rowT_four HR4.out hne (.int .i64 71) (.int .i64 r.rev) (.string ⟨#[]⟩) (.slice none 0 0)))
          have HXF := Lib.hid (exT_four HX4.out HZ4.out (by decide) (.int .i64 71) (.int .i64 r.rev) (.string ⟨#[]⟩) (.slice none 0 0))
          have HBF := Lib.hid (below_four (g := (w.heap.size + 1)) HB4.out (by omega) (.int .i64 71) (.int .i64 r.rev) (.string ⟨#[]⟩) (.slice none 0 0))
          have HKF := Lib.hid (rowK_four (rowK_nil W4 w.heap.size) (g := w.heap.size + 1) (by simp [Value.ownBlock]) (.int .i64 71) (.int .i64 r.rev) (.string ⟨#[]⟩) (.slice none 0 0))
          clear hfin hne
          go_wp2_with fail
          refine bodyPost_ret (v := .tuple #[.slice (some ⟨g, 0, none⟩) n cap1, .agg #[(.int .i64 71), (.int .i64 r.rev), (.string ⟨#[]⟩), (.slice none 0 0)]]) (by simp [results, Try.results17, go_sem, e0, e1, e2, e3]) rfl ⟨_, l, (.slice none 0 0), by rw [HE.out]; rfl, HRF.out, by rw [HE.out]; exact HMAP.out, HXF.out, by rw [HE.out]; exact HKF.out, HBF.out⟩
      have e4 : (o.kind == 4) = false := by simpa using k4
      have HD2 : Hid (doT t o = if o.kind = 1 then (t, ⟨0, r.rev, r.value, []⟩) else if o.kind = 3 then (t.eraseIdx i, ⟨0, r.rev, ByteArray.empty, []⟩) else if r.rev = maxN then (t, faultR 50) else (t.set i (markR r o), ⟨0, r.rev + 1, ByteArray.empty, []⟩)) := by
        show _ = _; rw [HD.out, if_neg k6, if_neg k2, if_neg k4, ← hr0]
      clear HD k6 k2 k4
      by_cases k1 : o.kind = 1
      · have HE : Hid (doT t o = (t, ⟨0, r.rev, r.value, []⟩)) := by show _ = _; rw [HD2.out, if_pos k1]
        have e1 : (o.kind == 1) = true := by simpa using k1
        clear k1
        have hg1 : decide ((i : Int) < 0) = false := decide_eq_false (by omega)
        have hg2 : decide ((n : Int) ≤ (i : Int)) = false := decide_eq_false (by omega)
        have hg2n : decide (n ≤ i) = false := decide_eq_false (by omega)
        go_upto_region 20 with fail
        have z0 := Blk.cell HZ4.out 0
        have z1 := Blk.cell HZ4.out 1
        have z2 := Blk.cell HZ4.out 2
        have z3 := Blk.cell HZ4.out 3
        simp only [List.getElem?_toArray, List.getElem?_cons_zero, List.getElem?_cons_succ] at z0 z1 z2 z3
        have f0 := Blk.frozen HZ4.out 0
        have f1 := Blk.frozen HZ4.out 1
        have f2 := Blk.frozen HZ4.out 2
        have f3 := Blk.frozen HZ4.out 3
        go_region
        have hne := row_lt_ne HR4.out HZ4.out (by decide)
        have hfin := rp_put HZ4.out (.int .i64 0) (.int .i64 r.rev) (.string r.value) (.slice none 0 0)
        have e0 := Blk.cell hfin 0
        have e1 := Blk.cell hfin 1
        have e2 := Blk.cell hfin 2
        have e3 := Blk.cell hfin 3
        simp only [List.getElem?_toArray, List.getElem?_cons_zero, List.getElem?_cons_succ] at e0 e1 e2 e3
        have HRF := Lib.hid (RowT.base (b := w.heap.size) (Nat.le_of_lt (by have := HS1.out; omega)) (rowT_four HR4.out hne (.int .i64 0) (.int .i64 r.rev) (.string r.value) (.slice none 0 0)))
        have HXF := Lib.hid (exT_four HX4.out HZ4.out (by decide) (.int .i64 0) (.int .i64 r.rev) (.string r.value) (.slice none 0 0))
        have HBF := Lib.hid (below_four (g := (w.heap.size + 1)) HB4.out (by omega) (.int .i64 0) (.int .i64 r.rev) (.string r.value) (.slice none 0 0))
        have HKF := Lib.hid (rowK_four (rowK_nil W4 w.heap.size) (g := w.heap.size + 1) (by simp [Value.ownBlock]) (.int .i64 0) (.int .i64 r.rev) (.string r.value) (.slice none 0 0))
        clear hfin hne
        go_wp2_with fail
        refine bodyPost_ret (v := .tuple #[.slice (some ⟨g, 0, none⟩) n cap1, .agg #[(.int .i64 0), (.int .i64 r.rev), (.string r.value), (.slice none 0 0)]]) (by simp [results, Try.results17, go_sem, e0, e1, e2, e3]) rfl ⟨_, l, (.slice none 0 0), by rw [HE.out]; rfl, HRF.out.drew, by rw [HE.out]; exact HMAP.out, HXF.out.drew, by rw [HE.out]; exact HKF.out.drew_k, HBF.out.drew⟩
      have e1 : (o.kind == 1) = false := by simpa using k1
      by_cases k3 : o.kind = 3
      · have HE : Hid (doT t o = (t.eraseIdx i, ⟨0, r.rev, ByteArray.empty, []⟩)) := by show _ = _; rw [HD2.out, if_neg k1, if_pos k3]
        have e3 : (o.kind == 3) = true := by simpa using k3
        clear k1 k3
        have hil := HIL.out
        have HTK := Lib.hid (RowT.take HR4.out (Nat.le_of_lt hil))
        have HLT : Hid ((l.take i).length + (n - (i + 1)) = n - 1) := by show _ = _; rw [List.length_take]; have := HLN.out; omega
        obtain ⟨A2, hsl⟩ : ∃ A2, (if cap1 = i + 1 then some (⟨g, 0, none⟩ : Addr) else some ⟨g, (i + 1) * 6, none⟩) = A2 := ⟨_, rfl⟩
        have hcn : n ≤ cap1 := by have := HLN.out; omega
        have HDR : Hid (IsPs W4 A2 (n - (i + 1)) (l.drop (i + 1))) := ps_drop HR4.out HLN.out hin (fun h => by rw [← hsl, if_neg (by omega)])
        have HSD : Hid (SlP (l.drop (i + 1))) := fun p hp => HX4.out.sl p (List.mem_of_mem_drop hp)
        have hj4 : i ≤ cap1 := by omega
        have hj5 : (0 : Int) ≤ (i : Int) + 1 := by omega
        have hj6 : (i : Int) + 1 ≤ (n : Int) := by omega
        have hj7 : (i : Int) ≤ (cap1 : Int) := by omega
        have hj8 : (i : Int) ≤ (n : Int) := by omega
        have hwr : IntKind.i64.wrap ((i : Int) + 1) = (i : Int) + 1 := IntWalk.i64_in _ (by omega)
        go_upto_region 22 with fail
        clear x0 x1 x2 x3 x4 x5 c0 c1 c2 c3 c4 c5 c6
        refine wp_region_noPanic ?_
        refine wp_region_held_drew (S := (fun _ => True)) (by kernel_rfl) (trivial) (fun hHeld => ?_)
        refine wpAnyH_take (i := 0) (v := ?_) rfl (by kernel_rfl) (by kernel_rfl) (by kernel_rfl) (fun _ _ _ h => h) (Or.inl ⟨by rfl, ?_⟩) (by assumption) ?_
        rotate_left
        · (intro w hSw; (try dsimp only at hSw); go_simp; (try with_reducible rfl))
        simp only [Act.put, List.getElem_toArray, List.getElem_cons_zero, List.setIfInBounds_toArray, List.set_cons_zero, List.set_cons_succ]
        refine wpAnyH_take (i := 1) (v := ?_) rfl (by kernel_rfl) (by kernel_rfl) (by kernel_rfl) (fun _ _ _ h => h) (Or.inl ⟨by rfl, ?_⟩) (by assumption) ?_
        rotate_left
        · (intro w hSw; (try dsimp only at hSw); go_simp; (try with_reducible rfl))
        simp only [Act.put, List.getElem_toArray, List.getElem_cons_zero, List.getElem_cons_succ, List.setIfInBounds_toArray, List.set_cons_zero, List.set_cons_succ]
        refine wpAnyH_take (i := 2) (v := ?_) rfl (by kernel_rfl) (by kernel_rfl) (by kernel_rfl) (fun _ _ _ h => h) (Or.inl ⟨by rfl, ?_⟩) (by assumption) ?_
        rotate_left
        · (intro w hSw; (try dsimp only at hSw); go_simp; (try with_reducible rfl))
        simp only [Act.put, List.getElem_toArray, List.getElem_cons_zero, List.getElem_cons_succ, List.setIfInBounds_toArray, List.set_cons_zero, List.set_cons_succ]
        refine wpAnyH_take (i := 3) (v := ?_) rfl (by kernel_rfl) (by kernel_rfl) (by kernel_rfl) (fun _ _ _ h => h) (Or.inl ⟨by rfl, ?_⟩) (by assumption) ?_
        rotate_left
        · (intro w hSw; (try dsimp only at hSw); go_simp; (try with_reducible rfl))
        simp only [Act.put, List.getElem_toArray, List.getElem_cons_zero, List.getElem_cons_succ, List.setIfInBounds_toArray, List.set_cons_zero, List.set_cons_succ]
        refine wpAnyH_take (i := 4) (v := ?_) rfl (by kernel_rfl) (by kernel_rfl) (by kernel_rfl) (fun _ _ _ h => h) (Or.inl ⟨by rfl, ?_⟩) (by assumption) ?_
        rotate_left
        · (intro w hSw; (try dsimp only at hSw); go_simp; (try with_reducible rfl))
        simp only [Act.put, List.getElem_toArray, List.getElem_cons_zero, List.getElem_cons_succ, List.setIfInBounds_toArray, List.set_cons_zero, List.set_cons_succ]
        refine wpAnyH_take (i := 5) (v := ?_) rfl (by kernel_rfl) (by kernel_rfl) (by kernel_rfl) (fun _ _ _ h => h) (Or.inl ⟨by rfl, ?_⟩) (by assumption) ?_
        rotate_left
        · (intro w hSw; (try dsimp only at hSw); go_simp; (try with_reducible rfl))
        simp only [Act.put, List.getElem_toArray, List.getElem_cons_zero, List.getElem_cons_succ, List.setIfInBounds_toArray, List.set_cons_zero, List.set_cons_succ]
        refine wpAnyH_take (i := 6) (v := ?_) rfl (by kernel_rfl) (by kernel_rfl) (by kernel_rfl) (fun _ _ _ h => h) (Or.inl ⟨by rfl, ?_⟩) (by assumption) ?_
        rotate_left
        · (intro w hSw; (try dsimp only at hSw); go_simp; (try with_reducible rfl))
        simp only [Act.put, List.getElem_toArray, List.getElem_cons_zero, List.getElem_cons_succ, List.setIfInBounds_toArray, List.set_cons_zero, List.set_cons_succ]
        refine wpAnyH_take (i := 8) (v := ?_) rfl (by kernel_rfl) (by kernel_rfl) (by kernel_rfl) (fun _ _ _ h => h) (Or.inl ⟨by rfl, ?_⟩) (by assumption) ?_
        rotate_left
        · (intro w hSw; (try dsimp only at hSw); go_simp; (try with_reducible rfl))
        simp only [Act.put, List.getElem_toArray, List.getElem_cons_zero, List.getElem_cons_succ, List.setIfInBounds_toArray, List.set_cons_zero, List.set_cons_succ]
        refine wpAnyH_take (i := 9) (v := ?_) rfl (by kernel_rfl) (by kernel_rfl) (by kernel_rfl) (fun _ _ _ h => h) (Or.inl ⟨by rfl, ?_⟩) (by assumption) ?_
        rotate_left
        · (intro w hSw; (try dsimp only at hSw); go_simp; (try with_reducible rfl))
        simp only [Act.put, List.getElem_toArray, List.getElem_cons_zero, List.getElem_cons_succ, List.setIfInBounds_toArray, List.set_cons_zero, List.set_cons_succ]
        refine wpAnyH_ready (rs := [7]) (by kernel_rfl) (by simp) ?_
        refine AllReadyH.cons rfl (fun K hK => ?_) AllReadyH.nil
        refine step_append_tab rfl _ _ rfl W0.heap.size _ (l.take i) rfl HTK.out A2 (n - (i + 1)) (cap1 - (i + 1)) (l.drop (i + 1)) rfl HDR.out HSD.out (by rw [List.length_take]; have := HL20.out; omega) HSZ4.out ?_
        intro A7 cap7 V7 hrow7 hgr7
        rw [HLT.out] at hrow7 ⊢
        have hlt7 := HTK.out.lt
        have hx7 := (exT_erase i HX4.out).drew.kept hgr7 HTK.out.block
        have hz7 : Blk V7 (w.heap.size + 1) (.cells #[.int .i64 0, .int .i64 0, .string ⟨#[]⟩, .slice none 0 0] 37 (0, 0)) := Blk.kept (Blk.drew HZ4.out) hgr7 (fun e => by have := (hlt7 _ e.symm).1; have := HS1.out; omega)
        have hb7 : Below w.heap.size w V7 := HB4.out.drew.grown hgr7 HB4.out.size (fun q hq => by have := (hlt7 q hq).1; have := HS1.out; omega)
        have HR7 := Lib.hid hrow7
        have HX7 := Lib.hid hx7
        have HZ7 := Lib.hid hz7
        have HB7 := Lib.hid hb7
        have HMAP : Hid ((l.take i ++ l.drop (i + 1)).map Prod.fst = t.eraseIdx i) := by show _ = _; rw [← HMAP0.out, List.eraseIdx_eq_take_drop_succ, List.map_append, List.map_take, List.map_drop]
        refine hK.out _ _ trivial (fun hHeld2 => ?_)
        clear hK K hHeld hgr7 hb7 hrow7 hlt7 hx7 hz7
        have hHeld := hHeld2; clear hHeld2
        refine wpAnyH_take (i := 10) (v := ?_) rfl (by kernel_rfl) (by kernel_rfl) (by kernel_rfl) (fun _ _ _ h => h) (Or.inl ⟨by rfl, ?_⟩) (by assumption) ?_
        rotate_left
        · (intro w hSw; (try dsimp only at hSw); go_simp; (try with_reducible rfl))
        simp only [Act.put, List.getElem_toArray, List.getElem_cons_zero, List.getElem_cons_succ, List.setIfInBounds_toArray, List.set_cons_zero, List.set_cons_succ]
        have z0 := Blk.cell HZ7.out 0
        have z1 := Blk.cell HZ7.out 1
        have z2 := Blk.cell HZ7.out 2
        have z3 := Blk.cell HZ7.out 3
        simp only [List.getElem?_toArray, List.getElem?_cons_zero, List.getElem?_cons_succ] at z0 z1 z2 z3
        have f0 := Blk.frozen HZ7.out 0
        have f1 := Blk.frozen HZ7.out 1
        have f2 := Blk.frozen HZ7.out 2
        have f3 := Blk.frozen HZ7.out 3
        refine wpAnyH_ready (rs := [11]) (by kernel_rfl) (by simp) ?_
        refine AllReadyH.cons rfl (fun K hK => ?_) AllReadyH.nil
        rw [if_pos (by rfl)]
        go_simp
        refine hK.out _ _ (trivial) (fun hHeld2 => ?_)
        clear hK K hHeld
        have hHeld := hHeld2; clear hHeld2
        refine wpAnyH_done (by kernel_rfl) ?_ _
        refine NoPanic.normal ?_
        have hne := row_lt_ne HR7.out HZ7.out (by decide)
        have hfin := rp_put HZ7.out (.int .i64 0) (.int .i64 r.rev) (.string ⟨#[]⟩) (.slice none 0 0)
        have e0 := Blk.cell hfin 0
        have e1 := Blk.cell hfin 1
        have e2 := Blk.cell hfin 2
        have e3 := Blk.cell hfin 3
        simp only [List.getElem?_toArray, List.getElem?_cons_zero, List.getElem?_cons_succ] at e0 e1 e2 e3
        have HRF := Lib.hid (RowT.base (b := w.heap.size) (Nat.le_of_lt (by have := HS1.out; omega)) (rowT_four HR7.out hne (.int .i64 0) (.int .i64 r.rev) (.string ⟨#[]⟩) (.slice none 0 0)))
        have HXF := Lib.hid (exT_four HX7.out HZ7.out (by decide) (.int .i64 0) (.int .i64 r.rev) (.string ⟨#[]⟩) (.slice none 0 0))
        have HBF := Lib.hid (below_four (g := (w.heap.size + 1)) HB7.out (by omega) (.int .i64 0) (.int .i64 r.rev) (.string ⟨#[]⟩) (.slice none 0 0))
        have HKF := Lib.hid (rowK_four (rowK_nil V7 w.heap.size) (g := w.heap.size + 1) (by simp [Value.ownBlock]) (.int .i64 0) (.int .i64 r.rev) (.string ⟨#[]⟩) (.slice none 0 0))
        clear hfin hne
        go_wp2_with fail
        refine bodyPost_ret (v := .tuple #[.slice A7 (n - 1) cap7, .agg #[(.int .i64 0), (.int .i64 r.rev), (.string ⟨#[]⟩), (.slice none 0 0)]]) (by simp [results, Try.results17, go_sem, e0, e1, e2, e3]) rfl ⟨_, (l.take i ++ l.drop (i + 1)), (.slice none 0 0), by rw [HE.out]; rfl, HRF.out, by rw [HE.out]; exact HMAP.out, HXF.out, by rw [HE.out]; exact HKF.out, HBF.out⟩
      have e3 : (o.kind == 3) = false := by simpa using k3
      by_cases hm : r.rev = 9007199254740992
      · have HE : Hid (doT t o = (t, faultR 50)) := by show _ = _; rw [HD2.out, if_neg k1, if_neg k3, if_pos (show r.rev = maxN from hm)]
        have em : (r.rev == 9007199254740992) = true := by simpa using hm
        clear k1 k3 hm
        have qf := fun W => reffault_num 50 50 rfl W
        go_wp2_with fail
        ((with_reducible refine (qf _).mono ?_); rintro e W5 ⟨rfl, b5⟩)
        have hz5 := Blk.below HZ4.out b5
        have hr5 := HR4.out.below b5
        have hx5 := HX4.out.below b5
        have hb5 := bch HB4.out b5
        clear b5
        have z0 := Blk.cell hz5 0
        have z1 := Blk.cell hz5 1
        have z2 := Blk.cell hz5 2
        have z3 := Blk.cell hz5 3
        simp only [List.getElem?_toArray, List.getElem?_cons_zero, List.getElem?_cons_succ] at z0 z1 z2 z3
        have f0 := Blk.frozen hz5 0
        have f1 := Blk.frozen hz5 1
        have f2 := Blk.frozen hz5 2
        have f3 := Blk.frozen hz5 3
        have hne := row_lt_ne hr5 hz5 (by decide)
        have hfin := rp_put hz5 (.int .i64 50) (.int .i64 0) (.string ByteArray.empty) (.slice none 0 0)
        have e0 := Blk.cell hfin 0
        have e1 := Blk.cell hfin 1
        have e2 := Blk.cell hfin 2
        have e3 := Blk.cell hfin 3
        simp only [List.getElem?_toArray, List.getElem?_cons_zero, List.getElem?_cons_succ] at e0 e1 e2 e3
        have HRF := Lib.hid (RowT.base (b := w.heap.size) (Nat.le_of_lt (by have := HS1.out; omega)) (rowT_four hr5 hne (.int .i64 50) (.int .i64 0) (.string ByteArray.empty) (.slice none 0 0)))
        have HXF := Lib.hid (exT_four hx5 hz5 (by decide) (.int .i64 50) (.int .i64 0) (.string ByteArray.empty) (.slice none 0 0))
        have HBF := Lib.hid (below_four (g := (w.heap.size + 1)) hb5 (by omega) (.int .i64 50) (.int .i64 0) (.string ByteArray.empty) (.slice none 0 0))
        have HKF := Lib.hid (rowK_four (rowK_nil W5 w.heap.size) (g := w.heap.size + 1) (by simp [Value.ownBlock]) (.int .i64 50) (.int .i64 0) (.string ByteArray.empty) (.slice none 0 0))
        clear hfin hne
        go_wp2_with fail
        refine bodyPost_ret (v := .tuple #[.slice (some ⟨g, 0, none⟩) n cap1, .agg #[(.int .i64 50), (.int .i64 0), (.string ByteArray.empty), (.slice none 0 0)]]) (by simp [results, Try.results17, go_sem, e0, e1, e2, e3]) rfl ⟨_, l, (.slice none 0 0), by rw [HE.out]; rfl, HRF.out, by rw [HE.out]; exact HMAP.out, HXF.out, by rw [HE.out]; exact HKF.out, HBF.out⟩
      · have HE : Hid (doT t o = (t.set i (markR r o), ⟨0, r.rev + 1, ByteArray.empty, []⟩)) := by show _ = _; rw [HD2.out, if_neg k1, if_neg k3, if_neg (show ¬ r.rev = maxN from hm)]
        have em : (r.rev == 9007199254740992) = false := by simpa using hm
        have hwr : IntKind.i64.wrap (r.rev + 1) = r.rev + 1 := IntWalk.i64_in _ (by have := HPB.out; omega)
        have HREV : Hid ((Lit.int .i64 (r.rev + 1)).wf = true) := wf_within (by have := HPB.out; omega) (by have := HPB.out; omega)
        clear k1 k3 hm
        have hq1 := (RowT.set HR4.out i 3 (.int .i64 o.life) ({ (atP l i).1 with life := o.life }, (atP l i).2) HIL.out (by omega) rfl).1
        have hl1 : i < (l.set i ({ (atP l i).1 with life := o.life }, (atP l i).2)).length := by rw [List.length_set]; exact HIL.out
        have hq2 := (RowT.set hq1 i 4 (.string o.note) ({ (atP l i).1 with life := o.life, note := o.note }, (atP l i).2) hl1 (by omega) (by rw [atP_set HIL.out]; rfl)).1
        rw [List.set_set] at hq2
        have hl2 : i < (l.set i ({ (atP l i).1 with life := o.life, note := o.note }, (atP l i).2)).length := by rw [List.length_set]; exact HIL.out
        have hq3 := (RowT.set hq2 i 2 (.int .i64 (r.rev + 1)) (markR (atP l i).1 o, (atP l i).2) hl2 (by omega) (by rw [atP_set HIL.out]; simp [cells6, markR, HPR.out])).1
        rw [List.set_set] at hq3
        have hy1 := hq1.six hl1
        have hy2 := hq2.six hl2
        rw [atP_set HIL.out] at hy1 hy2
        have hE1 := HX4.out.kept (gb_set W4 g (i * 6 + 3) (.int .i64 o.life)) (fun k e => by cases e; exact HR4.out.block g (by simp [Value.ownBlock]))
        have hE2 := hE1.kept (gb_set _ g (i * 6 + 4) (.string o.note)) (fun k e => by cases e; exact hq1.block g (by simp [Value.ownBlock]))
        have hE3 := hE2.kept (gb_set _ g (i * 6 + 2) (.int .i64 (r.rev + 1))) (fun k e => by cases e; exact hq2.block g (by simp [Value.ownBlock]))
        have hPW := (HX4.out _ (atP_mem HIL.out)).1
        have hE4 := exT_set hE3 HIL.out (r := markR (atP l i).1 o) ⟨⟨hPW.1.1, hPW.1.2.1, HO.out.2.2.2.2.2.2⟩, by show (Lit.int .i64 ((atP l i).1.rev + 1)).wf = true; rw [HPR.out]; exact HREV.out, HO.out.2.2.2.2.2.1, hPW.2.2.2⟩ rfl
        have hgw : g ≠ w.heap.size + 1 := by have := HS1.out; omega
        have hz3 := Blk.far (Blk.far (Blk.far HZ4.out hgw.symm (i * 6 + 3) (.int .i64 o.life)) hgw.symm (i * 6 + 4) (.string o.note)) hgw.symm (i * 6 + 2) (.int .i64 (r.rev + 1))
        have hgo : w.heap.size ≠ g := by have := HS1.out; omega
        have ho1 : OpBlk (W4.setCell ⟨g, i * 6 + 3, none⟩ (.int .i64 o.life)) w.heap.size o := Blk.far HO4.out hgo _ _
        obtain ⟨_, _, _, _, _, _, d6⟩ := ho1.cells
        have hb3 := ((HB4.out.setCell (p := ⟨g, i * 6 + 3, none⟩) (by show w.heap.size ≤ g; have := HS1.out; omega) (.int .i64 o.life)).setCell (p := ⟨g, i * 6 + 4, none⟩) (by show w.heap.size ≤ g; have := HS1.out; omega) (.string o.note)).setCell (p := ⟨g, i * 6 + 2, none⟩) (by show w.heap.size ≤ g; have := HS1.out; omega) (.int .i64 (r.rev + 1))
        have HMAP : Hid ((l.set i (markR (atP l i).1 o, (atP l i).2)).map Prod.fst = t.set i (markR r o)) := by show _ = _; rw [map_setP, HMAP0.out, HPR.out]
        obtain ⟨l2, hl2e⟩ : ∃ l2, l.set i (markR (atP l i).1 o, (atP l i).2) = l2 := ⟨_, rfl⟩
        rw [hl2e] at hq3 hE4 HMAP
        clear hl2e hl1 hl2 hE1 hE2 hE3
        have g1 : W4.frozen? ⟨g, i * 6 + 3, none⟩ = false := HR4.out.frozen
        have g2 : (W4.setCell ⟨g, i * 6 + 3, none⟩ (.int .i64 o.life)).frozen? ⟨g, i * 6 + 4, none⟩ = false := hq1.frozen
        have g3 : ((W4.setCell ⟨g, i * 6 + 3, none⟩ (.int .i64 o.life)).setCell ⟨g, i * 6 + 4, none⟩ (.string o.note)).frozen? ⟨g, i * 6 + 2, none⟩ = false := hq2.frozen
        obtain ⟨_, _, _, _, u4, _⟩ := hy1
        obtain ⟨_, _, v2, _, _, _⟩ := hy2
        simp only [HPR.out] at u4 v2
        have HR5 := Lib.hid hq3; clear hq3 hq1 hq2
        have HX5 := Lib.hid hE4; clear hE4
        have HZ5 := Lib.hid hz3; clear hz3
        have HB5 := Lib.hid hb3; clear hb3
        clear ho1 hPW
        go_upto_region 28 with fail
        obtain ⟨V, hV⟩ : ∃ V, ((W4.setCell ⟨g, i * 6 + 3, none⟩ (.int .i64 o.life)).setCell ⟨g, i * 6 + 4, none⟩ (.string o.note)).setCell ⟨g, i * 6 + 2, none⟩ (.int .i64 (r.rev + 1)) = V := ⟨_, rfl⟩
        rw [hV] at HR5 HX5 HZ5 HB5 ⊢
        clear hV x0 x1 x2 x3 x4 x5 g1 g2 g3 u4 v2 c0 c1 c2 c3 c4 c5 c6 d6
        have z0 := Blk.cell HZ5.out 0
        have z1 := Blk.cell HZ5.out 1
        have z2 := Blk.cell HZ5.out 2
        have z3 := Blk.cell HZ5.out 3
        simp only [List.getElem?_toArray, List.getElem?_cons_zero, List.getElem?_cons_succ] at z0 z1 z2 z3
        have f0 := Blk.frozen HZ5.out 0
        have f1 := Blk.frozen HZ5.out 1
        have f2 := Blk.frozen HZ5.out 2
        have f3 := Blk.frozen HZ5.out 3
        have hne := row_lt_ne HR5.out HZ5.out (by decide)
        have hfin := rp_put HZ5.out (.int .i64 0) (.int .i64 (r.rev + 1)) (.string ⟨#[]⟩) (.slice none 0 0)
        have e0 := Blk.cell hfin 0
        have e1 := Blk.cell hfin 1
        have e2 := Blk.cell hfin 2
        have e3 := Blk.cell hfin 3
        simp only [List.getElem?_toArray, List.getElem?_cons_zero, List.getElem?_cons_succ] at e0 e1 e2 e3
        have HRF := Lib.hid (RowT.base (b := w.heap.size) (Nat.le_of_lt (by have := HS1.out; omega)) (rowT_four HR5.out hne (.int .i64 0) (.int .i64 (r.rev + 1)) (.string ⟨#[]⟩) (.slice none 0 0)))
        have HXF := Lib.hid (exT_four HX5.out HZ5.out (by decide) (.int .i64 0) (.int .i64 (r.rev + 1)) (.string ⟨#[]⟩) (.slice none 0 0))
        have HBF := Lib.hid (below_four (g := (w.heap.size + 1)) HB5.out (by omega) (.int .i64 0) (.int .i64 (r.rev + 1)) (.string ⟨#[]⟩) (.slice none 0 0))
        have HKF := Lib.hid (rowK_four (rowK_nil V w.heap.size) (g := w.heap.size + 1) (by simp [Value.ownBlock]) (.int .i64 0) (.int .i64 (r.rev + 1)) (.string ⟨#[]⟩) (.slice none 0 0))
        clear hfin hne
        go_wp2_with fail
        refine bodyPost_ret (v := .tuple #[.slice (some ⟨g, 0, none⟩) n cap1, .agg #[(.int .i64 0), (.int .i64 (r.rev + 1)), (.string ⟨#[]⟩), (.slice none 0 0)]]) (by simp [results, Try.results17, go_sem, e0, e1, e2, e3]) rfl ⟨_, l2, (.slice none 0 0), by rw [HE.out]; rfl, HRF.out, by rw [HE.out]; exact HMAP.out, HXF.out, by rw [HE.out]; exact HKF.out, HBF.out⟩
end Go.Proofs.Ytpnkkiokkhmjpaa
