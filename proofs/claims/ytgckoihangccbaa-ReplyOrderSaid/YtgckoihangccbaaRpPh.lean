import Derived.Test.YtgckoihangccbaaRpPf
import Derived.Test.YtgckoihangccbaaRpPi
/-
  The contract of the program's own Keep of caches (stage 13).
-/
namespace Go.Proofs.Ytgckoihangccbaa
open Go.RowKit
set_option linter.unusedVariables false
set_option linter.unusedSimpArgs false

theorem keep_bad {l : List DnR} {c i : Int} {r : RepR} (h : (lookL l c i).2 = 1 ∨ (lookL l c i).2 = 0 ∨ ¬ MayP r) : keepL l c i r = ([], 1) := if_pos h
theorem keep_stale {l : List DnR} {c i : Int} {r : RepR} (hm : MayP r) (h : (lookL l c i).2 = 81) : keepL l c i r = ([], 81) := by
  unfold keepL
  rw [h, if_neg (by rintro (e | e | e); cases e; cases e; exact e hm), if_pos rfl]
theorem keep_fresh {l : List DnR} {c i : Int} {r : RepR} (hm : MayP r) (h : (lookL l c i).2 = 70) : RightD l ∧ keepL l c i r = if 8 < (putD l c i r).length then ([], 50) else (putD l c i r, 0) := by
  constructor
  · exact Classical.byContradiction fun hn => by
      unfold lookL at h
      rw [if_pos (fun hh => hn hh.1)] at h; cases h
  · unfold keepL
    rw [h, if_neg (by rintro (e | e | e); cases e; cases e; exact e hm), if_neg (by decide)]
theorem keep_fin {w W : World} {base g N C p : Nat} {L : List (DnR × Value)} {c i : Int} {r : RepR} {E : Option Addr} {m cc : Nat} {u : List DnR}
    (hrow : RowD W base (.slice (some ⟨g, 0, none⟩) N C) L) (hp : p < L.length) (hc : (atQ L p).1.client = c) (hx : KyT W L) (hd : DnW ⟨c, i, r⟩) (hm : m ≤ cc) (hk : KeyS W E m r.keys) (hb : Below w.heap.size w W) (hbase : w.heap.size ≤ base)
    (hu : (L.map Prod.fst).set p ⟨c, i, r⟩ = u) :
    KeepPost w u 0 (.returned (.tuple #[.slice (some ⟨g, 0, none⟩) N C, .int .i64 0])) (setRep (W.setCell ⟨g, p * 6 + 1, none⟩ (.int .i64 i)) g p r (.slice E m cc)) := by
  have hg : base ≤ g := by
    obtain ⟨g2, e, h2⟩ := hrow.at0 hp
    cases e; exact h2
  obtain ⟨cs, fr, hblk⟩ := hrow.block g (by simp [Value.ownBlock])
  have h1 := (RowD.set hrow p 1 (.int .i64 i) (⟨(atQ L p).1.client, i, (atQ L p).1.rep⟩, (atQ L p).2) hp (by omega) rfl).1
  have hp1 : p < (L.set p (⟨(atQ L p).1.client, i, (atQ L p).1.rep⟩, (atQ L p).2)).length := by rw [List.length_set]; exact hp
  have h2 := h1.setRep hp1 r (.slice E m cc)
  rw [atQ_set hp, List.set_set] at h2
  simp only at h2
  rw [hc] at h2
  have hgb := (gb_set13 W g (p * 6 + 1) (.int .i64 i)).trans (gb_rep (W.setCell ⟨g, p * 6 + 1, none⟩ (.int .i64 i)) g p r (.slice E m cc))
  have hky : KyT (setRep (W.setCell ⟨g, p * 6 + 1, none⟩ (.int .i64 i)) g p r (.slice E m cc)) (L.set p (⟨c, i, r⟩, .slice E m cc)) := fun x hxm => by
    rcases List.mem_or_eq_of_mem_set hxm with h3 | rfl
    · exact ⟨(hx x h3).1, (hx x h3).2.kept hgb (fun q hq => by cases hq; exact ⟨_, _, hblk⟩)⟩
    · have : KyAt W ((⟨c, i, r⟩ : DnR), .slice E m cc) := ⟨E, m, cc, rfl, hm, hk.1, hk.2⟩
      exact ⟨hd, this.kept hgb (fun q hq => by cases hq; exact ⟨_, _, hblk⟩)⟩
  obtain ⟨A2, cap2, hv, hc2, hds⟩ := h2.isDs hky
  simp only [Value.slice.injEq] at hv
  obtain ⟨rfl, hn, rfl⟩ := hv
  rw [map_setQ, hu] at hds
  rw [← hn] at hds hc2
  have hg2 : w.heap.size ≤ g := Nat.le_trans hbase hg
  exact ⟨_, _, _, rfl, hc2, hds, ((((hb.setCell (p := ⟨g, p * 6 + 1, none⟩) hg2 _).setCell (p := ⟨g, p * 6 + 2, none⟩) hg2 _).setCell (p := ⟨g, p * 6 + 3, none⟩) hg2 _).setCell (p := ⟨g, p * 6 + 4, none⟩) hg2 _).setCell (p := ⟨g, p * 6 + 5, none⟩) hg2 _⟩
def newD (c : Int) : DnR := ⟨c, 0, ⟨0, 0, ⟨#[]⟩, []⟩⟩
theorem newD_w {c : Int} (h : (Lit.int .i64 c).wf = true) : DnW (newD c) := ⟨h, by show (Lit.int .i64 0).wf = true; decide, ⟨by show (Lit.int .i64 0).wf = true; decide, by show (Lit.int .i64 0).wf = true; decide, by show (⟨#[]⟩ : ByteArray).size ≤ _; decide⟩, by show 0 * 16 ≤ _; omega⟩
set_option maxRecDepth 100000 in
set_option maxHeartbeats 8000000 in
theorem keep13_any (l : List DnR) (c i : Int) (r : RepR) (A K : Option Addr) (n cap k kc : Nat) (w : World) (h : IsDs w A n l) (hc : (Lit.int .i64 c).wf = true) (hi : (Lit.int .i64 i).wf = true) (hr : RpW r) (hs : IsSs w K k r.keys) (h16 : k * 16 ≤ 140737488351232) :
    Calls Try.prog 11 #[.slice A n cap, .int .i64 c, .int .i64 i, rpV r (.slice K k kc)] w (KeepPost w (keepL l c i r).1 (keepL l c i r).2) := by
  have HN : Hid (n = l.length) := h.1
  have hn9 := h.2.1
  unfold maxLen at hn9
  have HDW : Hid (DnW ⟨c, i, r⟩) := ⟨hc, hi, hr, by show r.keys.length * 16 ≤ _; have := hs.1; omega⟩
  have HCW := Lib.hid hc; clear hc hi
  have HRW := Lib.hid hr; clear hr
  have H16 := Lib.hid h16; clear h16
  have hb0 : Below w.heap.size w (w.alloc (.cells #[.int .i64 r.errno, .int .i64 r.rev, .string r.value, .slice K k kc] 31)) := (Below.refl _ _).alloc (Nat.le_refl _) _
  have hx0 := Blk.new w (.cells #[.int .i64 r.errno, .int .i64 r.rev, .string r.value, .slice K k kc] 31)
  have hds := h.below hb0
  have hss := hs.below hb0
  obtain ⟨W0, hW0⟩ : ∃ W, w.alloc (.cells #[.int .i64 r.errno, .int .i64 r.rev, .string r.value, .slice K k kc] 31) = W := ⟨_, rfl⟩
  rw [hW0] at hb0 hx0 hds hss
  have HT := Lib.hid hds; clear hds h
  have HS := Lib.hid hss; clear hss hs
  have HX := Lib.hid hx0; clear hx0
  have HB0 := Lib.hid hb0; clear hb0
  have HSZ : Hid (w.heap.size ≤ W0.heap.size) := HB0.out.size
  have q := look13_any l c i A n cap W0 HT.out
  have HZN := Lib.hid (look_num l c i)
  have HKB : Hid ((lookL l c i).2 = 1 ∨ (lookL l c i).2 = 0 ∨ ¬ MayP r → keepL l c i r = ([], 1)) := keep_bad
  have HKS : Hid (MayP r → (lookL l c i).2 = 81 → keepL l c i r = ([], 81)) := keep_stale
  have HKF : Hid (MayP r → (lookL l c i).2 = 70 → RightD l ∧ keepL l c i r = if 8 < (putD l c i r).length then ([], 50) else (putD l c i r, 0)) := keep_fresh
  generalize lookL l c i = Lk at *
  obtain ⟨R, z⟩ := Lk
  simp only at q HZN HKB HKS HKF
  generalize keepL l c i r = KK at *
  unfold rpV
  go_enter Try.func11, Try.ntmps11
  go_wp2_with fail
  ((with_reducible refine q.mono ?_); rintro e W1 ⟨K2, k2, kc2, rfl, _, _, b1⟩)
  unfold rpV
  clear q
  have hb2 := b1.alloc b1.size (.cells #[.int .i64 R.errno, .int .i64 R.rev, .string R.value, .slice K2 k2 kc2] 31)
  go_upto_region 2 with fail
  obtain ⟨V, hV⟩ : ∃ W, W1.alloc (.cells #[.int .i64 R.errno, .int .i64 R.rev, .string R.value, .slice K2 k2 kc2] 31) = W := ⟨_, rfl⟩
  rw [hV] at hb2 ⊢
  clear hV b1
  have hxv := Blk.below HX.out hb2
  have x0 := Blk.cell hxv 0
  have x1 := Blk.cell hxv 1
  have x2 := Blk.cell hxv 2
  have x3 := Blk.cell hxv 3
  simp only [List.getElem?_toArray, List.getElem?_cons_zero, List.getElem?_cons_succ] at x0 x1 x2 x3
  clear hxv
  have HB2 := Lib.hid hb2; clear hb2
  have HBW2 := Lib.hid (bch HB0.out HB2.out)
  by_cases hz0 : z = 0
  · subst hz0
    have HE : Hid (KK = ([], 1)) := HKB.out (.inr (.inl rfl))
    go_wp2_with fail
    go_ret2
    exact by rw [HE.out]; exact ⟨none, 0, 0, rfl, Nat.le_refl _, isDs_nil _ _, HBW2.out⟩
  have e0 : ((z : Int) == 0) = false := by rw [beq_eq_false_iff_ne]; omega
  have q := odd_any r K k kc V (HS.out.below HB2.out) HRW.out
  unfold rpV at q
  by_cases hm : MayP r
  rotate_left
  · have HE : Hid (KK = ([], 1)) := HKB.out (.inr (.inr hm))
    have e1 : mayRB r = false := decide_eq_false hm
    rw [e1] at q
    clear hm e1
    go_wp2_with fail
    ((with_reducible refine q.mono ?_); rintro e V2 ⟨rfl, b2⟩)
    have HBE := Lib.hid (bch HBW2.out b2)
    clear q b2
    go_wp2_with fail
    go_ret2
    exact by rw [HE.out]; exact ⟨none, 0, 0, rfl, Nat.le_refl _, isDs_nil _ _, HBE.out⟩
  have HM := Lib.hid hm
  have e1 : mayRB r = true := decide_eq_true hm
  rw [e1] at q
  clear hm e1
  rcases HZN.out with hz | hz | hz | hz
  · subst hz
    have HE : Hid (KK = ([], 1)) := HKB.out (.inl rfl)
    go_wp2_with fail
    ((with_reducible refine q.mono ?_); rintro e V2 ⟨rfl, b2⟩)
    have HBE := Lib.hid (bch HBW2.out b2)
    clear q b2
    go_wp2_with fail
    go_ret2
    exact by rw [HE.out]; exact ⟨none, 0, 0, rfl, Nat.le_refl _, isDs_nil _ _, HBE.out⟩
  · exact absurd hz hz0
  · subst hz
    have HE : Hid (KK = ([], 81)) := HKS.out HM.out rfl
    go_wp2_with fail
    ((with_reducible refine q.mono ?_); rintro e V2 ⟨rfl, b2⟩)
    have HBE := Lib.hid (bch HBW2.out b2)
    clear q b2
    go_wp2_with fail
    go_ret2
    exact by rw [HE.out]; exact ⟨none, 0, 0, rfl, Nat.le_refl _, isDs_nil _ _, HBE.out⟩
  · subst hz
    obtain ⟨hrd, hke⟩ := HKF.out HM.out rfl
    have HR := Lib.hid hrd; clear hrd
    have HKE := Lib.hid hke; clear hke
    clear HKB HKS HKF HZN hz0 e0
    go_wp2_with fail
    ((with_reducible refine q.mono ?_); rintro e V2 ⟨rfl, b2⟩)
    have HB3 := Lib.hid (bch HB2.out b2)
    clear q b2 x0 x1 x2 x3
    have hnn : n ≤ 8 := by have := HR.out.2.2; have := HN.out; omega
    have q := find_any A n cap l c V2 (HT.out.below HB3.out) HR.out.2.1 hnn
    go_wp2_with fail
    ((with_reducible refine q.mono ?_); rintro e V3 ⟨⟨p, th, hp, rfl⟩, b2⟩)
    have HB4 := Lib.hid (bch HB3.out b2)
    clear q b2
    have HLEN := Lib.hid (putD_len c i r HR.out.2.1)
    have qc := fun (W : World) (hb : Below W0.heap.size W0 W) => copiedAll_any l A n cap W (HT.out.below hb) (by omega)
    cases th with
    | false =>
      have hno := placeD_no HR.out.2.1 hp
      by_cases h8 : n = 8
      · have HE : Hid (KK = ([], 50)) := by
          show _ = _
          rw [HKE.out, if_pos]
          rw [HLEN.out, if_pos hno]; have := HN.out; omega
        have e8 : ((n : Int) == 8) = true := by rw [beq_iff_eq]; omega
        have HBE := Lib.hid (bch HB0.out HB4.out)
        clear hno hp qc h8
        go_wp2_with fail
        go_ret2
        exact by rw [HE.out]; exact ⟨none, 0, 0, rfl, Nat.le_refl _, isDs_nil _ _, HBE.out⟩
      have HE : Hid (KK = (putD l c i r, 0)) := by
        show _ = _
        rw [HKE.out, if_neg]
        rw [HLEN.out, if_pos hno]; have := HN.out; omega
      have HPU := Lib.hid (putD_new (i := i) (r := r) HR.out.2.1 hp)
      have HPP : Hid (p ≤ l.length) := hp.1
      have e8 : ((n : Int) == 8) = false := by rw [beq_eq_false_iff_ne]; omega
      clear hno hp
      have q := qc V3 HB4.out
      clear qc
      go_wp2_with fail
      ((with_reducible refine q.mono ?_); rintro e V4 ⟨v, lk, rfl, hrow, hmap, hky, b2⟩)
      clear q
      have HVS : Hid (W0.heap.size ≤ V3.heap.size) := HB4.out.size
      have HB5 := Lib.hid (bch HB4.out b2)
      have HS45 : Hid (V3.heap.size ≤ V4.heap.size) := b2.size
      clear b2
      obtain ⟨A2, cap2, hv2, hcp2, hps2⟩ := hrow.parts
      have HLL : Hid (lk.length = n) := by have := congrArg List.length hmap; rw [List.length_map] at this; show _ = _; have := HN.out; omega
      rw [HLL.out] at hv2 hcp2
      subst hv2
      have HMAP := Lib.hid hmap; clear hmap hps2
      have hb3 : Below V4.heap.size V4 (V4.alloc (.cells #[.int .i64 c, .int .i64 0, .int .i64 0, .int .i64 0, .string ⟨#[]⟩, .slice none 0 0] 45)) := (Below.refl _ _).alloc (Nat.le_refl _) _
      have hvb := Blk.new V4 (.cells #[.int .i64 c, .int .i64 0, .int .i64 0, .int .i64 0, .string ⟨#[]⟩, .slice none 0 0] 45)
      obtain ⟨V5, hV5⟩ : ∃ W, V4.alloc (.cells #[.int .i64 c, .int .i64 0, .int .i64 0, .int .i64 0, .string ⟨#[]⟩, .slice none 0 0] 45) = W := ⟨_, rfl⟩
      rw [hV5] at hb3 hvb
      have hrow5 := hrow.below hb3
      have hky5 := hky.below hb3
      have hpl : p ≤ n := by have := HPP.out; have := HN.out; omega
      have HPN := Lib.hid hpl
      have q := insert13_any lk (newD c, .slice none 0 0) A2 n cap2 p V3.heap.size V4.heap.size V5 hrow5 HLL.out.symm hpl (by omega) (Nat.le_trans HS45.out hb3.size) hvb ⟨none, 0, 0, rfl⟩ (fun e => by have := (hrow.lt _ e).2; omega) hky5.sl
      have HKY5 := Lib.hid hky5; clear hky5 hky
      have HROW5 := Lib.hid hrow5; clear hrow5 hrow
      have HB6 := Lib.hid (bch HB5.out hb3)
      clear hb3 hvb
      have HNL : Hid (n + 1 = l.length + 1) := by show _ = _; rw [HN.out]
      go_wp2_with fail
      ((with_reducible refine q.mono ?_); rintro e V6 ⟨v3, rfl, hrow6, hgr6⟩)
      clear q hV5
      have hll : (lk.take p ++ (newD c, Value.slice none 0 0) :: lk.drop p).length = n + 1 := by
        rw [List.length_append, List.length_cons, List.length_take, List.length_drop, HLL.out]; have := HPN.out; omega
      have hky6 : KyT V6 (lk.take p ++ (newD c, Value.slice none 0 0) :: lk.drop p) := fun x hx => by
        have hk := HKY5.out.kept hgr6 HROW5.out.block
        rcases List.mem_append.1 hx with h1 | h1
        · exact hk x (List.mem_of_mem_take h1)
        · rcases List.mem_cons.1 h1 with rfl | h1
          · exact ⟨newD_w HCW.out, none, 0, 0, rfl, Nat.le_refl _, isSs_nil _ _, fun h => absurd h (by omega)⟩
          · exact hk x (List.mem_of_mem_drop h1)
      have hbv6 : Below W0.heap.size W0 V6 := HB6.out.grown hgr6 HB6.out.size (fun q hq => by have := (HROW5.out.lt _ hq).1; have := HVS.out; omega)
      obtain ⟨A3, cap3, hv3, hcp3, _⟩ := hrow6.parts
      rw [hll] at hv3 hcp3
      subst hv3
      have HPL : Hid (p < (lk.take p ++ (newD c, Value.slice none 0 0) :: lk.drop p).length) := by show _ < _; rw [hll]; omega
      have HCL : Hid ((atQ (lk.take p ++ (newD c, Value.slice none 0 0) :: lk.drop p) p).1.client = c) := by
        have hlt : (lk.take p).length = p := by rw [List.length_take]; have := HPN.out; have := HLL.out; omega
        show _ = _
        rw [atQ_get (by rw [hll]; omega), List.getElem_append_right (by omega)]
        simp [hlt, newD]
      have HU : Hid (((lk.take p ++ (newD c, Value.slice none 0 0) :: lk.drop p).map Prod.fst).set p ⟨c, i, r⟩ = putD l c i r) := by
        show _ = _
        rw [HPU.out, List.map_append, List.map_cons, List.map_take, List.map_drop, HMAP.out]
        have hlt : (l.take p).length = p := by rw [List.length_take]; have := HPP.out; omega
        rw [List.set_append_right _ _ (by omega), hlt, Nat.sub_self]
        rfl
      obtain ⟨LL, hLL⟩ : ∃ LL, lk.take p ++ (newD c, Value.slice none 0 0) :: lk.drop p = LL := ⟨_, rfl⟩
      rw [hLL] at hrow6 hky6 HPL HCL HU
      have HROW := Lib.hid hrow6; clear hrow6
      have HKY := Lib.hid hky6; clear hky6
      have HBV := Lib.hid hbv6; clear hbv6
      have hp0 : (0 : Int) ≤ (p : Int) := by omega
      have hp1 : (p : Int) < ((n + 1 : Nat) : Int) := by omega
      have hp2 : (p : Int) < (n : Int) + 1 := by omega
      clear hgr6 hLL hll HKY5 HROW5
      obtain ⟨g, hA3, hbg⟩ := HROW.out.at0 HPL.out
      subst hA3
      have hxv := Blk.below HX.out HBV.out
      have x0 := Blk.cell hxv 0
      have x1 := Blk.cell hxv 1
      have x2 := Blk.cell hxv 2
      have x3 := Blk.cell hxv 3
      simp only [List.getElem?_toArray, List.getElem?_cons_zero, List.getElem?_cons_succ] at x0 x1 x2 x3
      clear hxv
      have q := copiedR_any r K k kc V6 (HS.out.below HBV.out) H16.out
      unfold rpV at q
      go_wp2_with fail
      ((with_reducible refine q.mono ?_); rintro e W8 ⟨A5, m5, c5, rfl, hc5, hss5, hst5, b8⟩)
      unfold rpV
      clear q x0 x1 x2 x3
      have hrow8 := HROW.out.below b8
      have HFIN := Lib.hid (keep_fin (i := i) (r := r) (cc := c5) hrow8 HPL.out HCL.out (HKY.out.below b8) HDW.out hc5 ⟨hss5, hst5⟩ (bch (bch HB0.out HBV.out) b8) (by have := HSZ.out; have := HVS.out; omega) HU.out)
      unfold setRep at HFIN
      obtain ⟨_, y1, y2, y3, y4, y5⟩ := hrow8.six HPL.out
      have f1 : W8.frozen? ⟨g, p * 6 + 1, none⟩ = false := hrow8.frozen
      have f2 : W8.frozen? ⟨g, p * 6 + 2, none⟩ = false := hrow8.frozen
      have f3 : W8.frozen? ⟨g, p * 6 + 3, none⟩ = false := hrow8.frozen
      have f4 : W8.frozen? ⟨g, p * 6 + 4, none⟩ = false := hrow8.frozen
      have f5 : W8.frozen? ⟨g, p * 6 + 5, none⟩ = false := hrow8.frozen
      clear hrow8 hc5 hss5 hst5 b8 hbg
      generalize (atQ LL p).2 = yx at *
      generalize (atQ LL p).1 = yd at *
      go_wp2_with fail
      go_ret2
      rw [HE.out]
      exact HFIN.out
    | true =>
      obtain ⟨hpl0, hlk0⟩ := placeD_yes HR.out.2.1 hp
      have HE : Hid (KK = (putD l c i r, 0)) := by
        show _ = _
        rw [HKE.out, if_neg]
        rw [HLEN.out, if_neg (by rw [hlk0]; simp)]; have := HN.out; omega
      have HPU := Lib.hid (putD_set (i := i) (r := r) HR.out.2.1 hp)
      have HPL0 := Lib.hid hpl0; clear hpl0
      have HCP : Hid ((atD l p).client = c) := (lookD_mem hlk0).2
      clear hp hlk0
      have q := qc V3 HB4.out
      clear qc
      go_wp2_with fail
      ((with_reducible refine q.mono ?_); rintro e V4 ⟨v, lk, rfl, hrow, hmap, hky, b2⟩)
      clear q
      have HVS : Hid (W0.heap.size ≤ V3.heap.size) := HB4.out.size
      have hb5 := bch HB4.out b2
      clear b2
      obtain ⟨A2, cap2, hv2, hcp2, hps2⟩ := hrow.parts
      have HLL : Hid (lk.length = n) := by have := congrArg List.length hmap; rw [List.length_map] at this; show _ = _; have := HN.out; omega
      rw [HLL.out] at hv2 hcp2
      subst hv2
      have HPL : Hid (p < lk.length) := by show _ < _; have := HLL.out; have := HPL0.out; have := HN.out; omega
      have HCL : Hid ((atQ lk p).1.client = c) := by show _ = _; rw [atQ_map lk HPL.out, hmap]; exact HCP.out
      have HU : Hid ((lk.map Prod.fst).set p ⟨c, i, r⟩ = putD l c i r) := by show _ = _; rw [HPU.out, hmap]
      have HROW := Lib.hid hrow; clear hrow
      have HKY := Lib.hid hky; clear hky
      have HBV := Lib.hid hb5; clear hb5
      have hpn : p < n := by have := HPL.out; have := HLL.out; omega
      have hp0 : (0 : Int) ≤ (p : Int) := by omega
      have hp1 : (p : Int) < (n : Int) := by omega
      clear hmap hps2
      obtain ⟨g, hA3, hbg⟩ := HROW.out.at0 HPL.out
      subst hA3
      have hxv := Blk.below HX.out HBV.out
      have x0 := Blk.cell hxv 0
      have x1 := Blk.cell hxv 1
      have x2 := Blk.cell hxv 2
      have x3 := Blk.cell hxv 3
      simp only [List.getElem?_toArray, List.getElem?_cons_zero, List.getElem?_cons_succ] at x0 x1 x2 x3
      clear hxv
      have q := copiedR_any r K k kc V4 (HS.out.below HBV.out) H16.out
      unfold rpV at q
      go_wp2_with fail
      ((with_reducible refine q.mono ?_); rintro e W8 ⟨A5, m5, c5, rfl, hc5, hss5, hst5, b8⟩)
      unfold rpV
      clear q x0 x1 x2 x3
      have hrow8 := HROW.out.below b8
      have HFIN := Lib.hid (keep_fin (i := i) (r := r) (cc := c5) hrow8 HPL.out HCL.out (HKY.out.below b8) HDW.out hc5 ⟨hss5, hst5⟩ (bch (bch HB0.out HBV.out) b8) (by have := HSZ.out; have := HVS.out; omega) HU.out)
      unfold setRep at HFIN
      obtain ⟨_, y1, y2, y3, y4, y5⟩ := hrow8.six HPL.out
      have f1 : W8.frozen? ⟨g, p * 6 + 1, none⟩ = false := hrow8.frozen
      have f2 : W8.frozen? ⟨g, p * 6 + 2, none⟩ = false := hrow8.frozen
      have f3 : W8.frozen? ⟨g, p * 6 + 3, none⟩ = false := hrow8.frozen
      have f4 : W8.frozen? ⟨g, p * 6 + 4, none⟩ = false := hrow8.frozen
      have f5 : W8.frozen? ⟨g, p * 6 + 5, none⟩ = false := hrow8.frozen
      clear hrow8 hc5 hss5 hst5 b8 hbg
      generalize (atQ lk p).2 = yx at *
      generalize (atQ lk p).1 = yd at *
      go_wp2_with fail
      go_ret2
      rw [HE.out]
      exact HFIN.out
theorem keepQ_any : KeepQ := fun l c i r A K n cap k kc w _ h _ hc hi hr _ hs h16 => keep13_any l c i r A K n cap k kc w h hc hi hr hs h16
end Go.Proofs.Ytgckoihangccbaa
