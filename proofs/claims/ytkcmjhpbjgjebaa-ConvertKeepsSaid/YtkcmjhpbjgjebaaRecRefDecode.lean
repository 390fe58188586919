import Derived.Test.YtkcmjhpbjgjebaaGRec
import Derived.Test.YtkcmjhpbjgjebaaRecRefRight
import Derived.Test.YtkcmjhpbjgjebaaRefDecode
import Derived.Deep.RegionLaw
import Derived.BigRegion
/-
  The contract of the document's own Decode of records: what recD says, in new memory; nothing that was in memory changes.
-/
namespace Go.Proofs.Ytkcmjhpbjgjebaa
open Go.RowKit

theorem own_form {w : World} {base : Nat} {e : TypeId} {sz n : Nat} {v : Value} {xs : List Value} (h : w.ownsRow base e sz v n xs) : ∃ A cap, v = .slice A n cap := by
  rcases h.2 with ⟨hv, h0⟩ | ⟨g, cap, cur, hv, _⟩
  · exact ⟨none, 0, by rw [hv, h0]⟩
  · exact ⟨_, cap, hv⟩
/-- 'append(l, x...)' as a step of a region that draws its order. -/
theorem step_append_fs {w : World} {ops : Array Oper} {o : Oper} {a : Act} {K : Act → World → Prop} {Q : Exit → Act → World → Prop} {E : Prop} (hgd : o.guard = none) (s x : Operand)
    (ho : o.op = .call { callee := .builtin .append, args := #[s, x], argTypes := #[22, 22] })
    (base : Nat) (v : Value) (fs : List Fld) (hs : a.eval s = v) (hown : w.ownsRow base 44 2 v fs.length (cellsF fs))
    (b c : Nat) (t : Int) (d : ByteArray) (hx : a.eval x = .slice (some ⟨b, 0, none⟩) 1 c) (hf : IsFs w (some ⟨b, 0, none⟩) 1 [(t, d)])
    (h63 : fs.length + 1 ≤ 1000) (hbase : base ≤ w.heap.size)
    (h : ∀ A2 cap2 w', w'.ownsRow base 44 2 (.slice A2 (fs.length + 1) cap2) (fs.length + 1) (cellsF (fs ++ [(t, d)])) → w.grownBy w' v.ownBlock → K (a.put o.dst (.slice A2 (fs.length + 1) cap2)) w') :
    if Region.wanted o (yielded ops a.tmps) = true then Oper.wp Try.prog o a w K Q else E := by
  obtain ⟨i0, hi, hz0, hz1, hz2⟩ := info_parts infoFld
  have hw : Region.wanted o (yielded ops a.tmps) = true := by simp [Region.wanted, hgd]
  rw [if_pos hw]
  obtain ⟨_, _, _, hat⟩ := hf
  obtain ⟨b', off, hA, hb, hat⟩ := hat (by omega)
  simp only [Option.some.injEq, Addr.mk.injEq, and_true] at hA
  obtain ⟨rfl, rfl⟩ := hA
  obtain ⟨v', w', hr, h2, h3, h4, h5⟩ := run_append_own_at (P := Try.prog) w base 22 o.type 44 i0 (.agg #[.int .i64 0, .string ⟨#[]⟩]) 2 24 Try.underlying22 hi hz0 hz1 hz2 rfl (by decide) v fs.length _ hown ⟨b, 0, none⟩ 1 c (cellsF [(t, d)]) (by rw [cellsF_len]; rfl) (fs_cells hat) (fs_one _) (by unfold maxLen; omega) (by omega) hbase
  obtain ⟨A2, cap2, rfl⟩ := own_form h2
  unfold Oper.wp execOp
  simp only [ho, resolve, invoke, builtin, Sem.run_bind, Sem.run_pure, Result.andThen_ok, List.map_toArray, List.map_cons, List.map_nil, hs, hx, hr]
  exact h _ _ w' (by rw [cellsF_append]; exact h2) h3

theorem acc_sizes (v : Int) : ∀ (l : List Fld) (r : Rcd), (∀ f ∈ l, f.2.size ≤ 1000) → RcWf r → RcWf (l.foldl (stepR v) r) := by
  intro l
  induction l with
  | nil => intro r _ h; exact h
  | cons f l ih =>
    intro r h hr
    rw [List.foldl_cons]
    refine ih _ (fun g hg => h g (List.mem_cons_of_mem _ hg)) ?_
    have hf := h f List.mem_cons_self
    obtain ⟨h1, h2, h3⟩ := hr
    unfold stepR setR
    split
    · split
      · exact ⟨by show f.2.size ≤ _; omega, h2, h3⟩
      · split
        · exact ⟨h1, by show f.2.size ≤ _; omega, h3⟩
        · split
          · exact ⟨h1, h2, h3⟩
          · split
            · exact ⟨h1, h2, h3⟩
            · exact ⟨h1, h2, by show f.2.size ≤ _; omega⟩
    · exact ⟨h1, h2, h3⟩
theorem acc_rcwf {v : Int} {fs : List Fld} (h : rightB fs = true) : RcWf (accR v fs) := by
  refine acc_sizes v fs zeroR (fun f hf => ?_) ⟨by decide, by decide, by decide⟩
  obtain ⟨i, hi, rfl⟩ := List.mem_iff_getElem.1 hf
  have := (okAt_iff.1 ((rightB_iff.1 h).2 i hi)).2.2
  rwa [dt_at hi] at this

/-- What is left when all fields were looked at, or one may not be. -/
def RofQ (v : Int) (fs : List Fld) : Rcd × Nat := if recQ v fs then (accR v fs, 0) else (zeroR, 21)

set_option maxRecDepth 100000 in
set_option maxHeartbeats 8000000 in
theorem refrDecode_any (v : Int) (s : ByteArray) (hs : s.size ≤ 281474976710656) (w : World) :
    Calls Try.prog 40 #[.int .i64 v, .string s] w (RecPost w (recD v s.data.toList)) := by
  have hz0 : RcBlk (w.alloc (.cells #[.string ⟨#[]⟩, .string ⟨#[]⟩, .int .i64 0, .int .i64 0, .string ⟨#[]⟩, .slice none 0 0] 24)) w.heap.size zeroR (.slice none 0 0) := World.alloc_heap_new w _
  have hb0 : Below w.heap.size w (w.alloc (.cells #[.string ⟨#[]⟩, .string ⟨#[]⟩, .int .i64 0, .int .i64 0, .string ⟨#[]⟩, .slice none 0 0] 24)) := (Below.refl _ _).alloc (Nat.le_refl _) _
  by_cases hv : v = 1 ∨ v = 2
  rotate_left
  · have HE : Hid (recD v s.data.toList = (zeroR, 1)) := recD_ver hv
    have e1 : (v != 1) = true := by simp; exact fun h => hv (.inl h)
    have e2 : (v != 2) = true := by simp; exact fun h => hv (.inr h)
    clear hb0 hz0 hv
    go_enter Try.func40, Try.ntmps40
    go_wp2_with fail
    refine bodyPost_ret (v := .tuple #[.agg #[.string ⟨#[]⟩, .string ⟨#[]⟩, .int .i64 0, .int .i64 0, .string ⟨#[]⟩, .slice none 0 0], .int .i64 1]) (by simp [results, Try.results40, go_sem]) rfl ⟨none, 0, 0, by rw [HE.out]; rfl, Nat.le_refl _, by rw [HE.out]; exact isFs_nil _ _, newAt_none _, ?_⟩
    first | exact (Below.refl _ _).alloc (Nat.le_refl _) _ | exact (((((((Below.refl _ _).alloc (Nat.le_refl _) _).setCell (Nat.le_refl _) _).setCell (Nat.le_refl _) _).setCell (Nat.le_refl _) _).setCell (Nat.le_refl _) _).setCell (Nat.le_refl _) _).setCell (Nat.le_refl _) _
  have hv12 : (v != 1) = true ∧ (v != 2) = false ∨ (v != 1) = false := by
    rcases hv with rfl | rfl
    · exact .inr rfl
    · exact .inl ⟨rfl, rfl⟩
  have p2 := refdecode_any s hs
  obtain ⟨D, hD⟩ : ∃ D, decR s.data.toList = D := ⟨_, rfl⟩
  rw [hD] at p2
  obtain ⟨fs, x⟩ := D
  by_cases hx : x = 0
  rotate_left
  · have HE := Lib.hid (recD_err hv hD hx)
    have hxx : ((x : Int) != 0) = true := by simp; omega
    clear hD hv hx
    generalize recD v s.data.toList = RR at *
    rcases hv12 with ⟨e1, e2⟩ | e1
    all_goals
      go_enter Try.func40, Try.ntmps40
      go_wp2_with fail
      ((with_reducible refine (p2 _).mono ?_); rintro e w2 ⟨A2, n2, cap2, rfl, hc2, hf2, b2⟩)
      have hz3 := hz0.below b2
      have HBW := Lib.hid (bch hb0 b2)
      obtain ⟨z0, z1, z2, z3, z4, z5⟩ := hz3.cells
      have f0 := hz3.frozen 0
      have f1 := hz3.frozen 1
      have f2 := hz3.frozen 2
      have f3 := hz3.frozen 3
      have f4 := hz3.frozen 4
      have f5 := hz3.frozen 5
      simp only [zeroR] at z0 z1 z2 z3 z4
      clear hz0 hz3 hb0 b2 hf2
      go_wp2_with fail
      refine bodyPost_ret (v := .tuple #[.agg #[.string ⟨#[]⟩, .string ⟨#[]⟩, .int .i64 0, .int .i64 0, .string ⟨#[]⟩, .slice none 0 0], .int .i64 x]) (by simp [results, Try.results40, go_sem, z0, z1, z2, z3, z4, z5]) rfl ⟨none, 0, 0, by rw [HE.out]; rfl, Nat.le_refl _, by rw [HE.out]; exact isFs_nil _ _, newAt_none _, ?_⟩
      exact below_set6 HBW.out _ _ _ _ _ _
  subst hx
  have hright := (dec_ok hD).2.2
  have h64 := (rightB_iff.1 hright).1
  cases hf : (findR fs 1).2 with
  | false =>
    have HE := Lib.hid (recD_key hv hD hf)
    clear hD hv hright
    generalize recD v s.data.toList = RR at *
    rcases hv12 with ⟨e1, e2⟩ | e1
    all_goals
      go_enter Try.func40, Try.ntmps40
      go_wp2_with fail
      ((with_reducible refine (p2 _).mono ?_); rintro e w2 ⟨A2, n2, cap2, rfl, hc2, hf2, b2⟩)
      have p3 := reffind_any A2 n2 cap2 fs 1 w2 hf2
      rw [hf] at p3
      have HF2 := Lib.hid hf; clear hf
      have hz3 := hz0.below b2
      have HBW := Lib.hid (bch hb0 b2)
      obtain ⟨z0, z1, z2, z3, z4, z5⟩ := hz3.cells
      have f0 := hz3.frozen 0
      have f1 := hz3.frozen 1
      have f2 := hz3.frozen 2
      have f3 := hz3.frozen 3
      have f4 := hz3.frozen 4
      have f5 := hz3.frozen 5
      simp only [zeroR] at z0 z1 z2 z3 z4
      clear hz0 hz3 hb0 b2 hf2
      go_wp2_with fail
      ((with_reducible refine p3.mono ?_); rintro e w3 ⟨rfl, rfl⟩)
      go_wp2_with fail
      refine bodyPost_ret (v := .tuple #[.agg #[.string ⟨#[]⟩, .string ⟨#[]⟩, .int .i64 0, .int .i64 0, .string ⟨#[]⟩, .slice none 0 0], .int .i64 20]) (by simp [results, Try.results40, go_sem, z0, z1, z2, z3, z4, z5]) rfl ⟨none, 0, 0, by rw [HE.out]; rfl, Nat.le_refl _, by rw [HE.out]; exact isFs_nil _ _, newAt_none _, ?_⟩
      exact below_set6 HBW.out _ _ _ _ _ _
  | true =>
    have HE : Hid (recD v s.data.toList = RofQ v fs) := by
      show _ = _
      have hpq := recP_recQ hv hright hf
      unfold RofQ
      cases hq : recQ v fs with
      | true => rw [if_pos rfl]; exact recD_ok hv hD hf (hpq.trans hq)
      | false => rw [recD_known hv hD hf (hpq.trans hq)]; rfl
    have hwr := acc_rcwf (v := v) hright
    have HWR := Lib.hid hwr
    have HV := Lib.hid hv
    clear hD hv hright hwr
    generalize recD v s.data.toList = RR at *
    rcases hv12 with ⟨e1, e2⟩ | e1
    all_goals
      go_enter Try.func40, Try.ntmps40
      go_wp2_with fail
      ((with_reducible refine (p2 _).mono ?_); rintro e w2 ⟨A, n, cap, rfl, hc2, hf2, b2⟩)
      have p3 := reffind_any A n cap fs 1 w2 hf2
      rw [hf] at p3
      have HF2 := Lib.hid hf; clear hf
      have hz2 := hz0.below b2
      have hb2 := bch hb0 b2
      clear hz0 hb0 b2 p2
      have hltz := lt_of_blk hz2
      obtain ⟨hn, _, hwf, hc⟩ := hf2
      have h64n : n ≤ 64 := by simp only at hn; omega
      have hn' : n = fs.length := hn
      have HN := Lib.hid hn'; clear hn hn'
      have hwf' : FsWf fs := hwf
      have hc' : 0 < n → ∃ b off, A = some ⟨b, off, none⟩ ∧ b < w2.heap.size ∧ FsAt w2 b off fs := hc
      have HC := Lib.hid hc'; clear hc hc' hwf
      have hzb0 := hz2.alloc (.cells #[.string ⟨#[]⟩, .string ⟨#[]⟩, .int .i64 0, .int .i64 0, .string ⟨#[]⟩, .slice none 0 0] 24)
      have hrb0 : RcBlk (w2.alloc (.cells #[.string ⟨#[]⟩, .string ⟨#[]⟩, .int .i64 0, .int .i64 0, .string ⟨#[]⟩, .slice none 0 0] 24)) w2.heap.size zeroR (.slice none 0 0) := World.alloc_heap_new w2 _
      have hbw0 := hb2.alloc hb2.size (.cells #[.string ⟨#[]⟩, .string ⟨#[]⟩, .int .i64 0, .int .i64 0, .string ⟨#[]⟩, .slice none 0 0] 24)
      have hbb0 : Below w2.heap.size w2 (w2.alloc (.cells #[.string ⟨#[]⟩, .string ⟨#[]⟩, .int .i64 0, .int .i64 0, .string ⟨#[]⟩, .slice none 0 0] 24)) := (Below.refl _ _).alloc (Nat.le_refl _) _
      have hw2 := hb2.size
      clear hb2 hz2
      go_wp2_with fail
      ((with_reducible refine p3.mono ?_); rintro e w3 ⟨rfl, rfl⟩)
      clear p3
      go_wp2_with fail
      go_loopw [11] (fun i wr => ∃ (k : Nat) (x : Value), k ≤ n ∧ i = .int .i64 k ∧ RcBlk wr w2.heap.size (accR v (fs.take k)) x ∧ wr.ownsRow (w2.heap.size + 1) 44 2 x (accR v (fs.take k)).extra.length (cellsF (accR v (fs.take k)).extra) ∧ RcBlk wr w.heap.size zeroR (.slice none 0 0) ∧ w2.heap.size + 1 ≤ wr.heap.size ∧ Hid (∀ j, j < k → knowB v (tg fs j) = true → okQ (tg fs j) (dt fs j) = true) ∧ Below w.heap.size w wr ∧ Below w2.heap.size w2 wr) (fun i _ => n - (intOf i).toNat)
      case atStart => exact ⟨0, .slice none 0 0, by omega, rfl, hrb0, World.ownsRow_nil _ _ _ _, hzb0, by simp, fun j hj => by omega, hbw0, hbb0⟩
      case round =>
        clear hrb0 hzb0 hbw0 hbb0
        obtain ⟨k, x, hk, rfl, hrb, hown, hzb, hsz, hno, hbw, hbb⟩ := hrel
        obtain ⟨A1, cap1, hvv, hcap, hfs⟩ := isFs_own hown (acc_wf hwf' k)
        subst hvv
        have hlx := acc_len v fs k
        have hwR := acc_wf (v := v) hwf' k
        by_cases hlt : k < n
        · obtain ⟨b, off, hA, hb, hat⟩ := HC.out (by omega)
          subst hA
          have HK : Hid (k < fs.length) := by have := HN.out; show k < fs.length; omega
          obtain ⟨c1, c2⟩ : wr.cell? ⟨b, off + k * 2, none⟩ = some (.int .i64 (tg fs k)) ∧ wr.cell? ⟨b, off + k * 2 + 1, none⟩ = some (.string (dt fs k)) := by
            have h := hat k HK.out
            exact ⟨(hbb.cell (p := ⟨b, off + k * 2, none⟩) hb).trans h.1, (hbb.cell (p := ⟨b, off + k * 2 + 1, none⟩) hb).trans h.2⟩
          clear hat
          have hstep := accR_take (v := v) HK.out
          have hwt := tg_wf hwf' HK.out
          have hsd := dt_sz hwf' HK.out
          have p1 := refKnows_any v (tg fs k) HV.out
          have HNO : Hid (knowB v (tg fs k) = true → okQ (tg fs k) (dt fs k) = false → recQ v fs = false) := fun h1 h2 => recQ_no (fun h => by have := h.1 k HK.out h1; rw [h2] at this; cases this)
          have HYES : Hid ((knowB v (tg fs k) = true → okQ (tg fs k) (dt fs k) = true) → ∀ j, j < k + 1 → knowB v (tg fs j) = true → okQ (tg fs j) (dt fs j) = true) := fun h j hj => by
            rcases Nat.lt_or_ge j k with h2 | h2
            · exact hno.out j h2
            · rw [show j = k by omega]; exact h
          clear hno
          generalize tg fs k = t at *
          generalize dt fs k = d at *
          obtain ⟨R, hR⟩ : ∃ R, accR v (fs.take k) = R := ⟨_, rfl⟩
          rw [hR] at hrb hown hfs hlx hstep hcap hwR
          clear hR
          have HSTEP := Lib.hid hstep; clear hstep
          cases hK : knowB v t with
          | false =>
            rw [hK] at p1
            have HNX := HYES.out (fun h => by rw [hK] at h; cases h)
            have HR2 : Hid (accR v (fs.take (k + 1)) = { R with extra := R.extra ++ [(t, d)] }) := HSTEP.out.trans (step_other hK)
            clear hK HSTEP
            have hown3 : ∀ W, W = (wr.alloc (.cells #[.int .i64 t, .string d] 44)).drew → W.ownsRow (w2.heap.size + 1) 44 2 (.slice A1 R.extra.length cap1) R.extra.length (cellsF R.extra) := by
              rintro W rfl; exact hown.alloc _
            have hone : ∀ W, W = (wr.alloc (.cells #[.int .i64 t, .string d] 44)).drew → IsFs W (some ⟨wr.heap.size, 0, none⟩) 1 [(t, d)] := by
              rintro W rfl
              have hx := World.alloc_heap_new wr (.cells #[.int .i64 t, .string d] 44)
              exact isFs_one (cell_blk hx 0) (cell_blk hx 1) hwt hsd
            have hrb3 : ∀ W, W = (wr.alloc (.cells #[.int .i64 t, .string d] 44)).drew → RcBlk W w2.heap.size R (.slice A1 R.extra.length cap1) := by
              rintro W rfl; exact hrb.alloc _
            have hzb3 : ∀ W, W = (wr.alloc (.cells #[.int .i64 t, .string d] 44)).drew → RcBlk W w.heap.size zeroR (.slice none 0 0) := by
              rintro W rfl; exact hzb.alloc _
            have hbw3 : ∀ W, W = (wr.alloc (.cells #[.int .i64 t, .string d] 44)).drew → Below w.heap.size w W ∧ Below w2.heap.size w2 W ∧ w2.heap.size + 1 ≤ W.heap.size := by
              rintro W rfl; exact ⟨(hbw.alloc hbw.size _).drew, (hbb.alloc hbb.size _).drew, by simp; omega⟩
            have hne1 : ∀ q : Nat, q < w2.heap.size + 1 → some q ≠ (Value.slice A1 R.extra.length cap1).ownBlock := fun q hq he => by
              have := (hown.lt q he.symm).1; omega
            have hge1 : ∀ g : Nat, (Value.slice A1 R.extra.length cap1).ownBlock = some g → w2.heap.size + 1 ≤ g := fun g hg => (hown.lt g hg).1
            have HNE := Lib.hid hne1
            have HGE := Lib.hid hge1
            have c5 := hrb.cells.2.2.2.2.2
            have hxr := lt_of_blk hrb
            clear hfs hne1 hge1
            go_wp2_with fail
            ((with_reducible refine (p1 _).mono ?_); rintro e w' ⟨rfl, rfl⟩)
            go_wp2_with fail
            go_region_law (first | (refine step_append_fs rfl _ _ rfl (w2.heap.size + 1) _ R.extra rfl (hown3 _ rfl) wr.heap.size 1 t d rfl (hone _ rfl) (by omega) (by simp; omega) ?_; intro A2 cap2 V2 hown4 hgrow; have hrb4 := (hrb3 _ rfl).kept hgrow (HNE.out _ (by omega)); have hzb4 := (hzb3 _ rfl).kept hgrow (HNE.out _ (by omega)); have hbw4 := (hbw3 _ rfl).1.grown hgrow (by simp; omega) (fun g hg => by have := HGE.out g hg; omega); have hbb4 := (hbw3 _ rfl).2.1.grown hgrow (by simp; omega) (fun g hg => by have := HGE.out g hg; omega); have hsz4 := Nat.le_trans (hbw3 _ rfl).2.2 hgrow.size; have c5' := hrb4.cells.2.2.2.2.2; have f5' := hrb4.frozen 5; clear hgrow))
            all_goals
              go_wp2_with fail
              go_roundw
              case rel =>
                refine ⟨k + 1, .slice A2 (R.extra.length + 1) cap2, by omega, by go_num, ?_, ?_, ?_, by simp; omega, HNX, ?_, ?_⟩
                · rw [HR2.out]; exact heap_setCell_same V2 w2.heap.size 5 _ _ _ hrb4
                · rw [HR2.out]; exact ownsRow_setCell_below (a := ⟨w2.heap.size, 5, none⟩) (by simpa [List.length_append] using hown4) (by show w2.heap.size < _; omega) _
                · exact Eq.trans (heap_setCell_other V2 ⟨w2.heap.size, 5, none⟩ w.heap.size _ (by show w.heap.size ≠ w2.heap.size; omega)) hzb4
                · exact hbw4.setCell (p := ⟨w2.heap.size, 5, none⟩) (by show w.heap.size ≤ w2.heap.size; omega) _
                · exact hbb4.setCell (p := ⟨w2.heap.size, 5, none⟩) (Nat.le_refl _) _
              case measure => simp [intOf]; omega
          | true =>
            rw [hK] at p1
            have hnk := HNO.out hK
            have hnx : okQ t d = true → Hid (∀ j, j < k + 1 → knowB v (tg fs j) = true → okQ (tg fs j) (dt fs j) = true) := fun h => HYES.out (fun _ => h)
            have HR2 : Hid (accR v (fs.take (k + 1)) = setR R t d) := HSTEP.out.trans (step_known hK)
            have ht5 : t = 1 ∨ t = 2 ∨ t = 3 ∨ t = 4 ∨ t = 5 := by have := knowB_iff.1 hK; have := topT_le v; omega
            have HEX : Hid (okQ t d = false → RR = (zeroR, 21)) := fun h => by
              have h2 := HE.out
              unfold RofQ at h2
              rw [hnk h] at h2
              exact h2
            have NX := Lib.hid hnx
            have HBW := Lib.hid hbw
            have HBB := Lib.hid hbb
            have HOWN := Lib.hid hown
            have HRB := Lib.hid hrb
            have HZB := Lib.hid hzb
            obtain ⟨z0, z1, z2, z3, z4, z5⟩ := hzb.cells
            have f0 := hzb.frozen 0
            have f1 := hzb.frozen 1
            have f2 := hzb.frozen 2
            have f3 := hzb.frozen 3
            have f4 := hzb.frozen 4
            have f5 := hzb.frozen 5
            simp only [zeroR] at z0 z1 z2 z3 z4
            obtain ⟨y0, y1, y2, y3, y4, y5⟩ := hrb.cells
            have g0 := hrb.frozen 0
            have g1 := hrb.frozen 1
            have g2 := hrb.frozen 2
            have g3 := hrb.frozen 3
            have g4 := hrb.frozen 4
            have hxr := lt_of_blk hrb
            have hxz := lt_of_blk hzb
            clear hK HSTEP hnk hnx HNO HYES hbw hbb hown hrb hzb hfs
            by_cases h0 : d.size = 0
            · have hq := HEX.out (by unfold okQ; simp [h0])
              have HQ := Lib.hid hq
              have e0 := (toList_size d).2 h0
              clear h0 hq ht5
              go_wp2_with fail
              ((with_reducible refine (p1 _).mono ?_); rintro e w' ⟨rfl, rfl⟩)
              go_wp2_with fail
              refine bodyPost_ret (v := .tuple #[.agg #[.string ⟨#[]⟩, .string ⟨#[]⟩, .int .i64 0, .int .i64 0, .string ⟨#[]⟩, .slice none 0 0], .int .i64 21]) (by simp [results, Try.results40, go_sem, z0, z1, z2, z3, z4, z5]) rfl ⟨none, 0, 0, by rw [HQ.out]; rfl, Nat.le_refl _, by rw [HQ.out]; exact isFs_nil _ _, newAt_none _, ?_⟩
              exact below_set6 HBW.out _ _ _ _ _ _
            · have e0 := toList_ne0 h0
              have h0' : 1 ≤ d.size := by omega
              have H0 := Lib.hid h0'
              clear h0 h0'
              rcases ht5 with rfl | rfl | rfl | rfl | rfl
              · have HNX := NX.out ((okQ_1 d).2 H0.out)
                go_wp2_with fail
                ((with_reducible refine (p1 _).mono ?_); rintro e w' ⟨rfl, rfl⟩)
                go_wp2_with fail
                go_roundw
                case rel =>
                  refine ⟨k + 1, .slice A1 R.extra.length cap1, by omega, by go_num, ?_, ?_, ?_, by simpa using hsz, HNX, HBW.out.setCell (p := ⟨w2.heap.size, 0, none⟩) (by show w.heap.size ≤ w2.heap.size; omega) _, HBB.out.setCell (p := ⟨w2.heap.size, 0, none⟩) (Nat.le_refl _) _⟩
                  · rw [HR2.out]; exact heap_setCell_same wr w2.heap.size 0 _ _ _ HRB.out
                  · rw [HR2.out, set_extra]; exact ownsRow_setCell_below (a := ⟨w2.heap.size, 0, none⟩) HOWN.out (by show w2.heap.size < _; omega) _
                  · exact Eq.trans (heap_setCell_other wr ⟨w2.heap.size, 0, none⟩ w.heap.size _ (by show w.heap.size ≠ w2.heap.size; omega)) HZB.out
                case measure => simp [intOf]; omega
              · have HNX := NX.out ((okQ_2 d).2 H0.out)
                go_wp2_with fail
                ((with_reducible refine (p1 _).mono ?_); rintro e w' ⟨rfl, rfl⟩)
                go_wp2_with fail
                go_roundw
                case rel =>
                  refine ⟨k + 1, .slice A1 R.extra.length cap1, by omega, by go_num, ?_, ?_, ?_, by simpa using hsz, HNX, HBW.out.setCell (p := ⟨w2.heap.size, 1, none⟩) (by show w.heap.size ≤ w2.heap.size; omega) _, HBB.out.setCell (p := ⟨w2.heap.size, 1, none⟩) (Nat.le_refl _) _⟩
                  · rw [HR2.out]; exact heap_setCell_same wr w2.heap.size 1 _ _ _ HRB.out
                  · rw [HR2.out, set_extra]; exact ownsRow_setCell_below (a := ⟨w2.heap.size, 1, none⟩) HOWN.out (by show w2.heap.size < _; omega) _
                  · exact Eq.trans (heap_setCell_other wr ⟨w2.heap.size, 1, none⟩ w.heap.size _ (by show w.heap.size ≠ w2.heap.size; omega)) HZB.out
                case measure => simp [intOf]; omega
              · have pw := refwhole_any d (by unfold maxLen; omega)
                obtain ⟨W, hW⟩ : ∃ W, wholeN d.data.toList = W := ⟨_, rfl⟩
                rw [hW] at pw
                have HW := Lib.hid hW; clear hW
                by_cases hw0 : W = 0
                · subst hw0
                  have hq := HEX.out (by rw [Bool.eq_false_iff]; intro h; have := ((okQ_3 d).1 h).2; have := HW.out; omega)
                  have HQ := Lib.hid hq
                  clear hq
                  go_wp2_with fail
                  ((with_reducible refine (p1 _).mono ?_); rintro e w' ⟨rfl, rfl⟩)
                  go_wp2_with fail
                  ((with_reducible refine (pw _).mono ?_); rintro e w' ⟨rfl, rfl⟩)
                  go_wp2_with fail
                  refine bodyPost_ret (v := .tuple #[.agg #[.string ⟨#[]⟩, .string ⟨#[]⟩, .int .i64 0, .int .i64 0, .string ⟨#[]⟩, .slice none 0 0], .int .i64 21]) (by simp [results, Try.results40, go_sem, z0, z1, z2, z3, z4, z5]) rfl ⟨none, 0, 0, by rw [HQ.out]; rfl, Nat.le_refl _, by rw [HQ.out]; exact isFs_nil _ _, newAt_none _, ?_⟩
                  first | exact below_set6 (HBW.out.setCell (p := ⟨w2.heap.size, 2, none⟩) (by show w.heap.size ≤ w2.heap.size; omega) _) _ _ _ _ _ _
                · have HNX := NX.out ((okQ_3 d).2 ⟨H0.out, by have := HW.out; omega⟩)
                  have ew : ((W : Int) == 0) = false := by simp; omega
                  clear hw0
                  go_wp2_with fail
                  ((with_reducible refine (p1 _).mono ?_); rintro e w' ⟨rfl, rfl⟩)
                  go_wp2_with fail
                  ((with_reducible refine (pw _).mono ?_); rintro e w' ⟨rfl, rfl⟩)
                  go_wp2_with fail
                  go_roundw
                  case rel =>
                    refine ⟨k + 1, .slice A1 R.extra.length cap1, by omega, by go_num, ?_, ?_, ?_, by simpa using hsz, HNX, HBW.out.setCell (p := ⟨w2.heap.size, 2, none⟩) (by show w.heap.size ≤ w2.heap.size; omega) _, HBB.out.setCell (p := ⟨w2.heap.size, 2, none⟩) (Nat.le_refl _) _⟩
                    · rw [HR2.out, ← HW.out]; exact heap_setCell_same wr w2.heap.size 2 _ _ _ HRB.out
                    · rw [HR2.out, set_extra]; exact ownsRow_setCell_below (a := ⟨w2.heap.size, 2, none⟩) HOWN.out (by show w2.heap.size < _; omega) _
                    · exact Eq.trans (heap_setCell_other wr ⟨w2.heap.size, 2, none⟩ w.heap.size _ (by show w.heap.size ≠ w2.heap.size; omega)) HZB.out
                  case measure => simp [intOf]; omega
              · have pw := refwhole_any d (by unfold maxLen; omega)
                obtain ⟨W, hW⟩ : ∃ W, wholeN d.data.toList = W := ⟨_, rfl⟩
                rw [hW] at pw
                have HW := Lib.hid hW; clear hW
                by_cases hw0 : W = 0
                · subst hw0
                  have hq := HEX.out (by rw [Bool.eq_false_iff]; intro h; have := ((okQ_4 d).1 h).2; have := HW.out; omega)
                  have HQ := Lib.hid hq
                  clear hq
                  go_wp2_with fail
                  ((with_reducible refine (p1 _).mono ?_); rintro e w' ⟨rfl, rfl⟩)
                  go_wp2_with fail
                  ((with_reducible refine (pw _).mono ?_); rintro e w' ⟨rfl, rfl⟩)
                  go_wp2_with fail
                  refine bodyPost_ret (v := .tuple #[.agg #[.string ⟨#[]⟩, .string ⟨#[]⟩, .int .i64 0, .int .i64 0, .string ⟨#[]⟩, .slice none 0 0], .int .i64 21]) (by simp [results, Try.results40, go_sem, z0, z1, z2, z3, z4, z5]) rfl ⟨none, 0, 0, by rw [HQ.out]; rfl, Nat.le_refl _, by rw [HQ.out]; exact isFs_nil _ _, newAt_none _, ?_⟩
                  first | exact below_set6 (HBW.out.setCell (p := ⟨w2.heap.size, 3, none⟩) (by show w.heap.size ≤ w2.heap.size; omega) _) _ _ _ _ _ _
                · have HNX := NX.out ((okQ_4 d).2 ⟨H0.out, by have := HW.out; omega⟩)
                  have ew : ((W : Int) == 0) = false := by simp; omega
                  clear hw0
                  go_wp2_with fail
                  ((with_reducible refine (p1 _).mono ?_); rintro e w' ⟨rfl, rfl⟩)
                  go_wp2_with fail
                  ((with_reducible refine (pw _).mono ?_); rintro e w' ⟨rfl, rfl⟩)
                  go_wp2_with fail
                  go_roundw
                  case rel =>
                    refine ⟨k + 1, .slice A1 R.extra.length cap1, by omega, by go_num, ?_, ?_, ?_, by simpa using hsz, HNX, HBW.out.setCell (p := ⟨w2.heap.size, 3, none⟩) (by show w.heap.size ≤ w2.heap.size; omega) _, HBB.out.setCell (p := ⟨w2.heap.size, 3, none⟩) (Nat.le_refl _) _⟩
                    · rw [HR2.out, ← HW.out]; exact heap_setCell_same wr w2.heap.size 3 _ _ _ HRB.out
                    · rw [HR2.out, set_extra]; exact ownsRow_setCell_below (a := ⟨w2.heap.size, 3, none⟩) HOWN.out (by show w2.heap.size < _; omega) _
                    · exact Eq.trans (heap_setCell_other wr ⟨w2.heap.size, 3, none⟩ w.heap.size _ (by show w.heap.size ≠ w2.heap.size; omega)) HZB.out
                  case measure => simp [intOf]; omega
              · have HNX := NX.out ((okQ_5 d).2 H0.out)
                go_wp2_with fail
                ((with_reducible refine (p1 _).mono ?_); rintro e w' ⟨rfl, rfl⟩)
                go_wp2_with fail
                go_roundw
                case rel =>
                  refine ⟨k + 1, .slice A1 R.extra.length cap1, by omega, by go_num, ?_, ?_, ?_, by simpa using hsz, HNX, HBW.out.setCell (p := ⟨w2.heap.size, 4, none⟩) (by show w.heap.size ≤ w2.heap.size; omega) _, HBB.out.setCell (p := ⟨w2.heap.size, 4, none⟩) (Nat.le_refl _) _⟩
                  · rw [HR2.out]; exact heap_setCell_same wr w2.heap.size 4 _ _ _ HRB.out
                  · rw [HR2.out, set_extra]; exact ownsRow_setCell_below (a := ⟨w2.heap.size, 4, none⟩) HOWN.out (by show w2.heap.size < _; omega) _
                  · exact Eq.trans (heap_setCell_other wr ⟨w2.heap.size, 4, none⟩ w.heap.size _ (by show w.heap.size ≠ w2.heap.size; omega)) HZB.out
                case measure => simp [intOf]; omega
        · have hkn : n = k := by omega
          subst hkn
          have hT : fs.take n = fs := by rw [HN.out, List.take_of_length_le (Nat.le_refl _)]
          rw [hT] at hrb hown hfs hcap hlx hwR
          have HP : Hid (rightR v (accR v fs) = true → RR = (accR v fs, 0)) := fun h => by
            have h2 := HE.out
            unfold RofQ at h2
            rw [recQ_iff.2 ⟨by have := hno.out; rw [HN.out] at this; exact this, h⟩] at h2
            exact h2
          have HQ : Hid (rightR v (accR v fs) = false → RR = (zeroR, 21)) := fun h => by
            have h2 := HE.out
            unfold RofQ at h2
            rw [recQ_no (fun h3 => by rw [h3.2] at h; cases h)] at h2
            exact h2
          have hwr2 := HWR.out
          clear hT hno
          generalize accR v fs = R at *
          have p1 := refrRight_any v R A1 R.extra.length cap1 wr hwr2 hfs
          have HOWN := Lib.hid hown
          have HRB := Lib.hid hrb
          have HZB := Lib.hid hzb
          have HWF := Lib.hid hwR
          have hx0 := lt_of_blk hrb
          have hx1 := lt_of_blk hzb
          obtain ⟨y0, y1, y2, y3, y4, y5⟩ := hrb.cells
          clear hfs hrb hzb hown hwR hwr2
          cases hR : rightR v R with
          | true =>
            have HF := Lib.hid (HP.out hR)
            rw [hR] at p1
            clear hR
            go_wp2_with fail
            ((with_reducible refine p1.mono ?_); rintro e w4 ⟨rfl, b4⟩)
            have hzb4 := HZB.out.below b4
            have hrb4 := HRB.out.below b4
            obtain ⟨z0, z1, z2, z3, z4, z5⟩ := hzb4.cells
            obtain ⟨y0, y1, y2, y3, y4, y5⟩ := hrb4.cells
            have f0 := hzb4.frozen 0
            have f1 := hzb4.frozen 1
            have f2 := hzb4.frozen 2
            have f3 := hzb4.frozen 3
            have f4 := hzb4.frozen 4
            have f5 := hzb4.frozen 5
            have HBW := Lib.hid (bch hbw b4)
            simp only [zeroR] at z0 z1 z2 z3 z4
            clear p1 hbw hzb4 hrb4
            go_wp2_with fail
            refine bodyPost_ret (v := .tuple #[rcV R (.slice A1 R.extra.length cap1), .int .i64 0]) (by simp [results, Try.results40, go_sem, z0, z1, z2, z3, z4, z5]) rfl ⟨A1, R.extra.length, cap1, by rw [HF.out]; rfl, hcap, ?_, newAt_own HOWN.out (by omega), ?_⟩
            · rw [HF.out]
              have h := own_below HOWN.out b4
              obtain ⟨A9, cap9, hv9, _, hf9⟩ := isFs_own h HWF.out
              have e1 := slice_addr hv9
              subst e1
              exact isFs_set6 hf9 (newAt_own h (Nat.le_refl _)) (by omega) _ _ _ _ _ _
            · exact below_set6 HBW.out _ _ _ _ _ _
          | false =>
            have HF := Lib.hid (HQ.out hR)
            rw [hR] at p1
            clear hR
            go_wp2_with fail
            ((with_reducible refine p1.mono ?_); rintro e w4 ⟨rfl, b4⟩)
            have hzb4 := HZB.out.below b4
            obtain ⟨z0, z1, z2, z3, z4, z5⟩ := hzb4.cells
            have f0 := hzb4.frozen 0
            have f1 := hzb4.frozen 1
            have f2 := hzb4.frozen 2
            have f3 := hzb4.frozen 3
            have f4 := hzb4.frozen 4
            have f5 := hzb4.frozen 5
            have HBW := Lib.hid (bch hbw b4)
            simp only [zeroR] at z0 z1 z2 z3 z4
            clear p1 hbw hzb4
            go_wp2_with fail
            refine bodyPost_ret (v := .tuple #[.agg #[.string ⟨#[]⟩, .string ⟨#[]⟩, .int .i64 0, .int .i64 0, .string ⟨#[]⟩, .slice none 0 0], .int .i64 21]) (by simp [results, Try.results40, go_sem, z0, z1, z2, z3, z4, z5]) rfl ⟨none, 0, 0, by rw [HF.out]; rfl, Nat.le_refl _, by rw [HF.out]; exact isFs_nil _ _, newAt_none _, ?_⟩
            exact below_set6 HBW.out _ _ _ _ _ _
end Go.Proofs.Ytkcmjhpbjgjebaa
