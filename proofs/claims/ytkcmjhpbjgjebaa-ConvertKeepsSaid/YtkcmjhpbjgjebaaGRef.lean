import Derived.Test.YtkcmjhpbjgjebaaGCon
import Derived.Test.YtkcmjhpbjgjebaaRecEncode
import Derived.Test.YtkcmjhpbjgjebaaRecRefSame
/-
  The contracts of the document's own Up, Down and To: what upR, downR and toR say, in new memory; nothing that was in memory changes.
-/
namespace Go.Proofs.Ytkcmjhpbjgjebaa
open Go.RowKit

set_option maxRecDepth 100000 in
set_option maxHeartbeats 4000000 in
theorem refdown_any (r : Rcd) (A : Option Addr) (n cap : Nat) (w : World) (hr : RcWf r) (h : IsFs w A n r.extra) (hR : rightR 2 r = true) :
    Calls Try.prog 41 #[rcV r (.slice A n cap)] w (CopyPost w (downR r).1) := by
  have hwf := h.2.2.1
  have hp := rightR_iff.1 hR
  have hlf := life_bd hp
  have h64 : n ≤ 64 := by
    have := (rightB_iff.1 (extraB_iff.1 hp.2.2.2.2.2).1).1
    have := h.1
    omega
  have HE : Hid ((downR r).1 = ⟨r.key, r.value, r.rev, 0, ByteArray.empty, opt 4 (ob (numD r.life)) ++ (opt 5 (ob r.note) ++ r.extra)⟩) := by show _ = _; rw [downR_eq hR]
  have l4 := opt_len 4 (ob (numD r.life))
  have l5 := opt_len 5 (ob r.note)
  have kD := kDown_dec hp
  have kE := kDown_enc hp
  obtain ⟨CR, hCR⟩ : ∃ l, opt 4 (ob (numD r.life)) ++ opt 5 (ob r.note) = l := ⟨_, rfl⟩
  rw [← List.append_assoc, hCR] at HE
  rw [hCR] at kD
  have hlc : CR.length ≤ 2 := by rw [← hCR, List.length_append]; omega
  obtain ⟨L, hL⟩ : ∃ L, encL (fieldsR (kDown r)) = L := ⟨_, rfl⟩
  rw [hL] at kD kE
  have pE : ∀ W, Calls Try.prog 39 #[.int .i64 2, .agg #[.string ⟨#[107]⟩, .string ⟨#[]⟩, .int .i64 0, .int .i64 r.life, .string r.note, .slice none 0 0]] W fun e w' => e = .returned (.tuple #[.string (bs L), .int .i64 0]) ∧ Below W.heap.size W w' := fun W => by
    have q := refrEncode_any 2 (kDown r) none 0 0 W ⟨by show (⟨#[107]⟩ : ByteArray).size ≤ _; decide, by show ByteArray.empty.size ≤ _; decide, hr.2.2⟩ (isFs_nil _ _)
    rw [kE.1] at q
    exact q
  have pD : ∀ W, Calls Try.prog 40 #[.int .i64 1, .string (bs L)] W (RecPost W (⟨⟨#[107]⟩, ByteArray.empty, 0, 0, ByteArray.empty, CR⟩, 0)) := fun W => by
    have q := refrDecode_any 1 (bs L) (by rw [bs_size]; omega) W
    rw [show (bs L).data.toList = L from by simp [bs], kD] at q
    exact q
  generalize bs L = S at *
  obtain ⟨W, hW⟩ : ∃ W, (w.alloc (.cells #[.string r.key, .string r.value, .int .i64 r.rev, .int .i64 r.life, .string r.note, .slice A n cap] 24)).alloc (.cells #[.string ⟨#[]⟩, .string ⟨#[]⟩, .int .i64 0, .int .i64 0, .string ⟨#[]⟩, .slice none 0 0] 24) = W := ⟨_, rfl⟩
  obtain ⟨hb0, hr0, hz0, hsz⟩ := two_new w r (.slice A n cap) hW
  obtain ⟨c0, c1, c2, c3, c4, c5⟩ := hr0.cells
  have H0 := Lib.hid h
  have HN := Lib.hid h.1
  clear hCR l4 l5 hR hp hlf h kD kE hL
  go_enter Try.func41, Try.ntmps41
  go_upto_region 2 with fail
  clear c0 c1 c2 c3 c4 c5 hW
  obtain ⟨W3, hW3⟩ : ∃ W3, W.alloc (.cells #[.string r.key, .string r.value, .int .i64 r.rev, .int .i64 r.life, .string r.note, .slice none 0 0] 24) = W3 := ⟨_, rfl⟩
  have hsz3 : W3.heap.size = w.heap.size + 3 := by rw [← hW3]; simp; omega
  have hr3 : RcBlk W3 w.heap.size r (.slice A n cap) := by rw [← hW3]; exact hr0.alloc _
  have hz3 : RcBlk W3 (w.heap.size + 1) zeroR (.slice none 0 0) := by rw [← hW3]; exact hz0.alloc _
  have hd3 : RcBlk W3 (w.heap.size + 2) r (.slice none 0 0) := by rw [← hW3, ← hsz]; exact World.alloc_heap_new W _
  have hb3 : Below w.heap.size w W3 := by rw [← hW3]; exact hb0.alloc hb0.size _
  clear hr0 hz0 hb0
  go_upto_region 3 with fail
  clear hW3
  obtain ⟨c0, c1, c2, c3, c4, c5⟩ := hr3.cells
  go_wp2_with fail
  ((with_reducible refine (pE _).mono ?_); rintro e w4 ⟨rfl, b4⟩)
  clear c0 c1 c2 c3 c4 c5 pE
  go_wp2_with fail
  ((with_reducible refine (pD _).mono ?_); rintro e w5 ⟨A5, n5, cap5, rfl, hc5, hf5, hnew5, b5⟩)
  clear pD
  have hs4 := b4.size
  have b45 := bch b4 b5
  have hr5 := hr3.below b45
  have hz5 := hz3.below b45
  have hd5 := hd3.below b45
  have hb5 := bch hb3 b45
  have hs5 := b45.size
  have hf5' : IsFs w5 A5 n5 CR := hf5
  have HSZ := Lib.hid (show w.heap.size + 3 ≤ w5.heap.size by omega)
  clear b4 b5 b45 hr3 hz3 hd3 hb3 hf5
  obtain ⟨d0, d1, d2, d3, d4, d5⟩ := hd5.cells
  have g3 := hd5.frozen 3
  have g4 := hd5.frozen 4
  have hxd := lt_of_blk hd5
  go_upto_region 7 with fail
  obtain ⟨V, hV⟩ : ∃ V, (w5.setCell ⟨w.heap.size + 2, 3, none⟩ (.int .i64 0)).setCell ⟨w.heap.size + 2, 4, none⟩ (.string ⟨#[]⟩) = V := ⟨_, rfl⟩
  have hrV : RcBlk V w.heap.size r (.slice A n cap) := by rw [← hV]; exact (hr5.setOther (by omega)).setOther (by omega)
  have hzV : RcBlk V (w.heap.size + 1) zeroR (.slice none 0 0) := by rw [← hV]; exact (hz5.setOther (by omega)).setOther (by omega)
  have hdV : RcBlk V (w.heap.size + 2) ⟨r.key, r.value, r.rev, 0, ByteArray.empty, r.extra⟩ (.slice none 0 0) := by
    rw [← hV]
    exact heap_setCell_same _ (w.heap.size + 2) 4 _ _ _ (heap_setCell_same _ (w.heap.size + 2) 3 _ _ _ hd5)
  have hbV : Below w.heap.size w V := by rw [← hV]; exact (hb5.setCell (p := ⟨w.heap.size + 2, 3, none⟩) (by show w.heap.size ≤ w.heap.size + 2; omega) _).setCell (p := ⟨w.heap.size + 2, 4, none⟩) (by show w.heap.size ≤ w.heap.size + 2; omega) _
  have hfV : IsFs V A5 n5 CR := by
    rw [← hV]
    exact isFs_set (isFs_set hf5' (newAt_ne hnew5 (by omega)) 3 _) (newAt_ne hnew5 (by omega)) 4 _
  have hsV : V.heap.size = w5.heap.size := by rw [← hV]; simp
  rw [hV]
  rw [← hsV]
  clear hV hr5 hz5 hd5 hb5 hf5' d0 d1 d2 d3 d4 d5 g3 g4 hxd
  obtain ⟨W7, hW7⟩ : ∃ W7, V.alloc (.cells #[.string ⟨#[107]⟩, .string ByteArray.empty, .int .i64 0, .int .i64 0, .string ByteArray.empty, .slice A5 n5 cap5] 24) = W7 := ⟨_, rfl⟩
  have hy7 : RcBlk W7 V.heap.size ⟨⟨#[107]⟩, ByteArray.empty, 0, 0, ByteArray.empty, CR⟩ (.slice A5 n5 cap5) := by rw [← hW7]; exact World.alloc_heap_new V _
  have hr7 : RcBlk W7 w.heap.size r (.slice A n cap) := by rw [← hW7]; exact hrV.alloc _
  have hz7 : RcBlk W7 (w.heap.size + 1) zeroR (.slice none 0 0) := by rw [← hW7]; exact hzV.alloc _
  have hd7 : RcBlk W7.drew (w.heap.size + 2) ⟨r.key, r.value, r.rev, 0, ByteArray.empty, r.extra⟩ (.slice none 0 0) := by
    have h7 : RcBlk W7 (w.heap.size + 2) ⟨r.key, r.value, r.rev, 0, ByteArray.empty, r.extra⟩ (.slice none 0 0) := by rw [← hW7]; exact hdV.alloc _
    exact h7
  have hb7 : Below w.heap.size w W7 := by rw [← hW7]; exact hbV.alloc hbV.size _
  have hf7 : IsFs W7.drew A5 n5 CR := by
    have h7 : IsFs W7 A5 n5 CR := by rw [← hW7]; exact hfV.below ((Below.refl _ _).alloc (Nat.le_refl _) _)
    exact h7
  have hs7 : W7.drew.heap.size = V.heap.size + 1 := by show W7.heap.size = _; rw [← hW7]; simp
  rw [hW7]
  have hn5 : n5 ≤ 900 := by have := hf7.1; omega
  have HS : Hid (∀ X, X = W7.drew → (X.cell? ⟨V.heap.size, 5, none⟩ = some (.slice A5 n5 cap5) ∧ X.cell? ⟨w.heap.size, 5, none⟩ = some (.slice A n cap) ∧ RcBlk X (w.heap.size + 1) zeroR (.slice none 0 0) ∧ Below w.heap.size w X)) := by
    rintro X rfl
    exact ⟨hy7.cells.2.2.2.2.2, hr7.cells.2.2.2.2.2, hz7, hb7.drew⟩
  have HD7 := Lib.hid hd7
  have HF7 := Lib.hid hf7
  have hsv2 := HSZ.out
  rw [← hsV] at hsv2
  clear hsV
  clear hW7 hy7 hr7 hz7 hb7 hd7 hf7 hrV hzV hdV hbV hfV
  go_region_held3 (fun X => X.cell? ⟨V.heap.size, 5, none⟩ = some (.slice A5 n5 cap5) ∧ X.cell? ⟨w.heap.size, 5, none⟩ = some (.slice A n cap) ∧ RcBlk X (w.heap.size + 1) zeroR (.slice none 0 0) ∧ Below w.heap.size w X) (first | exact HS.out _ rfl | exact hS2 | exact rd_keep (by assumption) (by assumption) | exact rd_set (by assumption) (by omega) (by omega) (by omega) (by omega)) (first | ((with_reducible refine (refown_any A5 n5 cap5 CR W7.drew HF7.out hn5).mono ?_); rintro e w8 ⟨A1, cap1, rfl, hown1, hwf1, bq⟩) | (refine step_append_any rfl _ _ rfl _ _ CR rfl hown1 A n cap r.extra rfl (rd_fs (by assumption) H0.out) (by have := HN.out; omega) (by have := bq.size; omega) ?_; intro A2 cap2 V2 hown2 hgrow; have hrow := fun g hg => (hown1.lt g hg).1; have hS2 := rd_grow (by assumption) hgrow hrow (by omega) (by omega) (by omega) (by omega); have hd8 := (HD7.out.below bq).grown hgrow hrow (by omega); have c5' := hd8.cells.2.2.2.2.2; have f5' := hd8.frozen 5))
  rename_i hend
  have hd6 : RcBlk (V2.setCell ⟨w.heap.size + 2, 5, none⟩ (.slice A2 (CR.length + r.extra.length) cap2)) (w.heap.size + 2) ⟨r.key, r.value, r.rev, 0, ByteArray.empty, CR ++ r.extra⟩ (.slice A2 (CR.length + r.extra.length) cap2) := heap_setCell_same V2 (w.heap.size + 2) 5 _ _ _ hd8
  have hz6 := hend.2.2.1
  have hb6 := hend.2.2.2
  have hnew : NewAt (V.heap.size + 1) A2 := newAt_own hown2 (by omega)
  have hwf2 : FsWf (CR ++ r.extra) := hwf1.append hwf
  have hf6 : IsFs (V2.setCell ⟨w.heap.size + 2, 5, none⟩ (.slice A2 (CR.length + r.extra.length) cap2)) A2 (CR.length + r.extra.length) (CR ++ r.extra) := by
    obtain ⟨A9, cap9, hv9, _, hf9⟩ := isFs_own hown2 hwf2
    have e1 := slice_addr hv9
    subst e1
    rw [List.length_append] at hf9
    exact isFs_set hf9 (newAt_ne hnew (by omega)) 5 _
  have hcap2 : CR.length + r.extra.length ≤ cap2 := by
    obtain ⟨A9, cap9, hv9, hc9, _⟩ := isFs_own hown2 hwf2
    have e1 := slice_capc hv9
    subst e1
    rw [List.length_append] at hc9; exact hc9
  clear hend hown2 hgrow hrow hS2 hd8 c5' f5' hown1 bq hwf1 HS HD7 HF7
  generalize V2.setCell ⟨w.heap.size + 2, 5, none⟩ (.slice A2 (CR.length + r.extra.length) cap2) = V6 at *
  obtain ⟨d0, d1, d2, d3, d4, d5⟩ := hd6.cells
  have hxd := lt_of_blk hd6
  obtain ⟨z0, z1, z2, z3, z4, z5⟩ := hz6.cells
  have f0 := hz6.frozen 0
  have f1 := hz6.frozen 1
  have f2 := hz6.frozen 2
  have f3 := hz6.frozen 3
  have f4 := hz6.frozen 4
  have f5 := hz6.frozen 5
  have hxz := lt_of_blk hz6
  simp only [zeroR] at z0 z1 z2 z3 z4

  have HF6 := Lib.hid hf6
  have HB6 := Lib.hid hb6
  clear hz6 hd6 hf6 hb6
  go_wp2_with fail
  refine bodyPost_ret (v := rcV ⟨r.key, r.value, r.rev, 0, ByteArray.empty, CR ++ r.extra⟩ (.slice A2 (CR.length + r.extra.length) cap2)) (by simp [results, Try.results41, go_sem, z0, z1, z2, z3, z4, z5]) rfl ⟨A2, CR.length + r.extra.length, cap2, by first | (rw [HE.out]; done) | (rw [HE.out]; rfl), hcap2, ?_, hnew.mono (by omega), ?_⟩
  · rw [HE.out]
    exact isFs_set6 HF6.out (hnew) (by omega) _ _ _ _ _ _
  · exact below_set6b HB6.out (by omega) _ _ _ _ _ _
end Go.Proofs.Ytkcmjhpbjgjebaa


/-
  The contract of the document's own up.
-/
namespace Go.Proofs.Ytkcmjhpbjgjebaa
open Go.RowKit

theorem fs_take {w : World} {A : Option Addr} {n : Nat} {fs : List Fld} (h : IsFs w A n fs) {k : Nat} (hk : k ≤ n) : IsFs w A k (fs.take k) := by
  obtain ⟨h1, h2, h3, h4⟩ := h
  refine ⟨by rw [List.length_take]; omega, by omega, fun f hf => h3 f (List.mem_of_mem_take hf), fun hp => ?_⟩
  obtain ⟨b, off, rfl, hb, hat⟩ := h4 (by omega)
  refine ⟨b, off, rfl, hb, fun i hi => ?_⟩
  rw [List.length_take] at hi
  have e1 : tg (fs.take k) i = tg fs i := by unfold tg; rw [List.getD_eq_getElem?_getD, List.getD_eq_getElem?_getD, List.getElem?_take_of_lt (by omega)]
  have e2 : dt (fs.take k) i = dt fs i := by unfold dt; rw [List.getD_eq_getElem?_getD, List.getD_eq_getElem?_getD, List.getElem?_take_of_lt (by omega)]
  rw [e1, e2]
  exact hat i (by omega)
/-- 's[:k]' and 's[k:]'. -/
theorem slice_cut {w : World} {A : Option Addr} {n cap : Nat} {fs : List Fld} (h : IsFs w A n fs) {k : Nat} (hk : k ≤ n) (hc : n ≤ cap) :
    ((∀ W, (Instr.slice 22 (.slice A n cap) none (some (.int .i64 (k : Int))) none).run Try.prog W = .ok (.slice (if cap = 0 then A else A.map (·.add (0 * 2))) k cap) W) ∧ IsFs w (if cap = 0 then A else A.map (·.add (0 * 2))) k (fs.take k)) ∧
    (∀ W, (Instr.slice 22 (.slice A n cap) (some (.int .i64 (k : Int))) none none).run Try.prog W = .ok (.slice (if cap = k then A else A.map (·.add (k * 2))) (n - k) (cap - k)) W) ∧ IsFs w (if cap = k then A else A.map (·.add (k * 2))) (n - k) (fs.drop k) := by
  have hft := fs_take h hk
  obtain ⟨h1, h2, h3, h4⟩ := h
  refine ⟨⟨fun W => ?_, ?_⟩, fun W => ?_, by rw [List.length_drop]; omega, by omega, fun f hf => h3 f (List.mem_of_mem_drop hf), fun hp => ?_⟩
  · rw [run_slice_h W 22 A n cap Try.underlying22 .i64 (k : Int) (by omega) (by omega), show Try.prog.elem 22 = 44 from by kernel_rfl, Try.sizeOf44]
    simp [sliced]
  · obtain ⟨t1, t2, t3, t4⟩ := hft
    refine ⟨t1, t2, t3, fun hp => ?_⟩
    obtain ⟨b, off, rfl, hb, hat⟩ := t4 hp
    rw [if_neg (by omega)]
    exact ⟨b, off, by simp [Addr.add], hb, hat⟩
  · rw [run_slice_l W 22 A n cap Try.underlying22 .i64 (k : Int) (by omega) (by omega), show Try.prog.elem 22 = 44 from by kernel_rfl, Try.sizeOf44]
    rfl
  · have d1 : ∀ i, tg (fs.drop k) i = tg fs (k + i) := fun i => by unfold tg; rw [List.getD_eq_getElem?_getD, List.getD_eq_getElem?_getD, List.getElem?_drop]
    have d2 : ∀ i, dt (fs.drop k) i = dt fs (k + i) := fun i => by unfold dt; rw [List.getD_eq_getElem?_getD, List.getD_eq_getElem?_getD, List.getElem?_drop]
    rw [if_neg (by omega)]
    obtain ⟨b, off, rfl, hb, hat⟩ := h4 (by omega)
    rcases Nat.eq_zero_or_pos k with rfl | hk0
    · refine ⟨b, off, rfl, hb, fun i hi => ?_⟩
      rw [List.length_drop] at hi
      rw [d1, d2, Nat.zero_add]
      exact hat i (by omega)
    · refine ⟨b, off + k * 2, by simp [Addr.add]; omega, hb, fun i hi => ?_⟩
      rw [List.length_drop] at hi
      rw [d1, d2]
      have := hat (k + i) (by omega)
      rw [show off + (k + i) * 2 = off + k * 2 + i * 2 by omega] at this
      exact this
theorem upR_zero {r : Rcd} {x : Nat} (h : (upR r).2 = x) (hx : x ≠ 0) : upR r = (zeroR, x) := by
  cases hR : rightR 1 r with
  | false => rw [upR_arg hR] at h ⊢; simp only at h; rw [h]
  | true =>
    cases hq : recP 2 (fieldsR r) with
    | false => rw [upR_known hR hq] at h ⊢; simp only at h; rw [h]
    | true => rw [upR_ok hR hq] at h; simp only at h; exact absurd h.symm hx

set_option maxRecDepth 100000 in
set_option maxHeartbeats 4000000 in
theorem refup_any (r : Rcd) (A : Option Addr) (n cap : Nat) (w : World) (h : IsFs w A n r.extra) (hc : n ≤ cap) (hR : rightR 1 r = true) :
    Calls Try.prog 42 #[rcV r (.slice A n cap)] w (RecPost w (upR r)) := by
  have hwf := h.2.2.1
  have hp := rightR_iff.1 hR
  have h64 : n ≤ 64 := by
    have := (rightB_iff.1 (extraB_iff.1 hp.2.2.2.2.2).1).1
    have := h.1
    omega
  have kw : ∀ k, RcWf (kUp r k) := fun k => ⟨by show (⟨#[107]⟩ : ByteArray).size ≤ _; decide, by show ByteArray.empty.size ≤ _; decide, by show ByteArray.empty.size ≤ _; decide⟩
  obtain ⟨W, hW⟩ : ∃ W, (w.alloc (.cells #[.string r.key, .string r.value, .int .i64 r.rev, .int .i64 r.life, .string r.note, .slice A n cap] 24)).alloc (.cells #[.string ⟨#[]⟩, .string ⟨#[]⟩, .int .i64 0, .int .i64 0, .string ⟨#[]⟩, .slice none 0 0] 24) = W := ⟨_, rfl⟩
  obtain ⟨hb0, hr0, hz0, hsz⟩ := two_new w r (.slice A n cap) hW
  have c5 := hr0.cells.2.2.2.2.2
  have h0 := h.below hb0
  have H0 := Lib.hid h0
  have HN := Lib.hid h.1
  have HC := Lib.hid h0.2.2.2
  clear h h0 hR
  go_enter Try.func42, Try.ntmps42
  go_upto_region 1 with fail
  clear hW
  go_wp2_with fail
  go_loopw [4] (fun i wr => ∃ k : Nat, k ≤ n ∧ i = .int .i64 k ∧ Hid (∀ j, j < k → tg r.extra j ≤ 5) ∧ wr = W) (fun i _ => n - (intOf i).toNat)
  case atStart => exact ⟨0, by omega, rfl, fun j hj => by omega, rfl⟩
  case round =>
    obtain ⟨k, hk, rfl, hno, rfl⟩ := hrel
    have HKL : Hid (k ≤ r.extra.length) := by have := HN.out; show k ≤ r.extra.length; omega
    by_cases hlt : k < n
    · obtain ⟨b, off, hA, hb, hat⟩ := HC.out (by omega)
      subst hA
      have HK : Hid (k < r.extra.length) := by have := HN.out; show k < r.extra.length; omega
      have c1 := (hat k HK.out).1
      clear hat
      by_cases h5 : tg r.extra k ≤ 5
      · have HNX : Hid (∀ j, j < k + 1 → tg r.extra j ≤ 5) := fun j hj => by
          rcases Nat.lt_or_ge j k with h2 | h2
          · exact hno.out j h2
          · rw [show j = k by omega]; exact h5
        generalize tg r.extra k = t at *
        go_wp2_with fail
        go_roundw
        case rel => exact ⟨k + 1, by omega, by go_num, HNX, by trivial⟩
        case measure => simp [intOf]; omega
      · have HE5 : Hid (k < r.extra.length → 5 < tg r.extra k) := fun _ => by omega
        go_upto_region 4 with fail
        clear c1 HC hlt
        generalize (some ⟨b, off, none⟩ : Option Addr) = AA at *
        have hk2 := (lead_up hp (k := k) HKL.out hno.out HE5.out).1
        have hl2 := (lead_up hp (k := k) HKL.out hno.out HE5.out).2.1
        have hl3 := (lead_up hp (k := k) HKL.out hno.out HE5.out).2.2
        obtain ⟨kE1, kE2, kE3⟩ := kUp_enc hp hk2
        obtain ⟨_, _, hfr⟩ := slice_cut H0.out (k := k) (by omega) hc
        obtain ⟨AR, hif⟩ : ∃ A', (if cap = k then AA else Option.map (fun x => x.add (k * 2)) AA) = A' := ⟨_, rfl⟩
        rw [hif] at hfr
        have pE := refrEncode_any 1 (kUp r k) AA k cap wr (kw k) (fs_take H0.out (by omega))
        rw [kE1] at pE
        obtain ⟨L, hL⟩ : ∃ L, encL (fieldsR (kUp r k)) = L := ⟨_, rfl⟩
        rw [hL] at pE kE2 kE3
        have pD : ∀ V, Calls Try.prog 40 #[.int .i64 2, .string (bs L)] V (RecPost V (upR (kUp r k))) := fun V => by
          have q := refrDecode_any 2 (bs L) (by rw [bs_size]; omega) V
          rw [show (bs L).data.toList = L from by simp [bs], kE3] at q
          exact q
        have pE' : Calls Try.prog 39 #[.int .i64 1, .agg #[.string ⟨#[107]⟩, .string ⟨#[]⟩, .int .i64 0, .int .i64 0, .string ⟨#[]⟩, .slice AA k cap]] wr fun e w' => e = .returned (.tuple #[.string (bs L), .int .i64 0]) ∧ Below wr.heap.size wr w' := pE
        clear pE kE1 kE2 kE3 hL
        generalize bs L = S at *
        obtain ⟨⟨Y, x⟩, hY⟩ : ∃ Y, upR (kUp r k) = Y := ⟨_, rfl⟩
        rw [hY] at hl2 hl3 pD
        simp only at hl2 hl3
        have hx21 := upR_errs r
        rw [← hl2] at hx21 hl3
        clear hY
        have HFR := Lib.hid hfr
        have HDW : Hid (FsWf (r.extra.drop k)) := fun f hf => hwf f (List.mem_of_mem_drop hf)
        clear hfr
        go_upto_region 5 with fail
        ((with_reducible refine pE'.mono ?_); rintro e w4 ⟨rfl, b4⟩)
        have hs4 := b4.size
        clear c5 pE'
        go_wp2_with fail
        ((with_reducible refine (pD _).mono ?_); rintro e w5 ⟨A5, n5, cap5, rfl, hc5, hf5, hnew5, b5⟩)
        have hs5 := b5.size
        have b45 := bch b4 b5
        have hr5 := hr0.below b45
        have hz5 := hz0.below b45
        have hb5 := bch hb0 b45
        have HF5 := Lib.hid (HFR.out.below b45)
        clear b4 b5 b45 pD hf5 HFR hnew5 hc5
        by_cases hx : x = 0
        · subst hx
          have HE : Hid (upR r = (⟨r.key, r.value, r.rev, Y.life, Y.note, r.extra.drop k⟩, 0)) := by show _ = _; rw [← hl3 rfl, hl2]
          clear hl2 hl3 hx21
          obtain ⟨c0, c1, c2, c3, c4, c5⟩ := hr5.cells
          go_upto_region 8 with fail
          clear c0 c1 c2 c3 c4 c5
          obtain ⟨W7, hW7⟩ : ∃ W7, w5.alloc (.cells #[.string Y.key, .string Y.value, .int .i64 Y.rev, .int .i64 Y.life, .string Y.note, .slice A5 n5 cap5] 24) = W7 := ⟨_, rfl⟩
          have hy7 : RcBlk W7 w5.heap.size Y (.slice A5 n5 cap5) := by rw [← hW7]; exact World.alloc_heap_new w5 _
          have hr7 : RcBlk W7 w.heap.size r (.slice AA n cap) := by rw [← hW7]; exact hr5.alloc _
          have hz7 : RcBlk W7 (w.heap.size + 1) zeroR (.slice none 0 0) := by rw [← hW7]; exact hz5.alloc _
          have hb7 : Below w.heap.size w W7 := by rw [← hW7]; exact hb5.alloc hb5.size _
          have hf7 : IsFs W7 AR (n - k) (r.extra.drop k) := by rw [← hW7]; exact HF5.out.below ((Below.refl _ _).alloc (Nat.le_refl _) _)
          have hs7 : W7.heap.size = w5.heap.size + 1 := by rw [← hW7]; simp
          clear hr5 hz5 hb5 HF5
          rw [hW7]
          have hsw : w.heap.size + 2 ≤ w5.heap.size := by omega
          generalize w5.heap.size = yb at *
          clear hW7
          obtain ⟨c0, c1, c2, c3, c4, c5⟩ := hr7.cells
          obtain ⟨y0, y1, y2, y3, y4, y5⟩ := hy7.cells
          have hyl := lt_of_blk hy7
          have hxl := lt_of_blk hr7
          go_upto_region 11 with fail
          obtain ⟨W9, hW9⟩ : ∃ W9, W7.alloc (.cells #[.string r.key, .string r.value, .int .i64 r.rev, .int .i64 Y.life, .string Y.note, .slice AA n cap] 24) = W9 := ⟨_, rfl⟩
          have hd9 : RcBlk W9 (yb + 1) ⟨r.key, r.value, r.rev, Y.life, Y.note, r.extra⟩ (.slice AA n cap) := by rw [← hW9, ← hs7]; exact World.alloc_heap_new W7 _
          have hr9 : RcBlk W9 w.heap.size r (.slice AA n cap) := by rw [← hW9]; exact hr7.alloc _
          have hz9 : RcBlk W9 (w.heap.size + 1) zeroR (.slice none 0 0) := by rw [← hW9]; exact hz7.alloc _
          have hb9 : Below w.heap.size w W9 := by rw [← hW9]; exact hb7.alloc hb7.size _
          have hf9 : IsFs W9 AR (n - k) (r.extra.drop k) := by rw [← hW9]; exact hf7.below ((Below.refl _ _).alloc (Nat.le_refl _) _)
          have hs9 : W9.heap.size = yb + 2 := by rw [← hW9]; simp; omega
          rw [hW9]
          clear hW9 hy7 hr7 hz7 hb7 hf7 c0 c1 c2 c3 c4 c5 y0 y1 y2 y3 y4 y5 hyl hxl
          have c5 := hr9.cells.2.2.2.2.2
          have po := refown_any AR (n - k) (cap - k) (r.extra.drop k) W9 hf9 (by omega)
          clear hf9
          go_wp2_with fail
          ((with_reducible refine po.mono ?_); rintro e w10 ⟨A1, cap1, rfl, hown1, hwf1, b10⟩)
          have hd10 := hd9.below b10
          have hz10 := hz9.below b10
          have hb10 := bch hb9 b10
          have d5 := hd10.cells.2.2.2.2.2
          have g5 := hd10.frozen 5
          have hld := lt_of_blk hd10
          clear po hd9 hr9 hz9 hb9 b10 c5
          go_upto_region 12 with fail
          have hd6 : RcBlk (w10.setCell ⟨yb + 1, 5, none⟩ (.slice A1 (r.extra.length - k) cap1)) (yb + 1) ⟨r.key, r.value, r.rev, Y.life, Y.note, r.extra.drop k⟩ (.slice A1 (r.extra.length - k) cap1) := heap_setCell_same w10 (yb + 1) 5 _ _ _ hd10
          have hz6 : RcBlk (w10.setCell ⟨yb + 1, 5, none⟩ (.slice A1 (r.extra.length - k) cap1)) (w.heap.size + 1) zeroR (.slice none 0 0) := hz10.setOther (by omega)
          have hb6 := hb10.setCell (p := ⟨yb + 1, 5, none⟩) (by show w.heap.size ≤ yb + 1; omega) (.slice A1 (r.extra.length - k) cap1)
          have hnew : NewAt (yb + 2) A1 := newAt_own hown1 (by omega)
          have hdl : (r.extra.drop k).length = r.extra.length - k := List.length_drop
          obtain ⟨A9, cap9, hv9, hc9, hf9⟩ := isFs_own hown1 HDW.out
          have e1 := slice_addr hv9
          have e2 := slice_capc hv9
          subst e1 e2
          rw [hdl] at hc9 hf9
          have hf6 := isFs_set hf9 (newAt_ne hnew (by omega : yb + 1 < yb + 2)) 5 (.slice A1 (r.extra.length - k) cap1)
          clear hown1 hwf1 hd10 hz10 hb10 d5 g5 hld hf9 hv9 hif HDW
          generalize w10.setCell ⟨yb + 1, 5, none⟩ (.slice A1 (r.extra.length - k) cap1) = V6 at *
          obtain ⟨d0, d1, d2, d3, d4, d5⟩ := hd6.cells
          have hxd := lt_of_blk hd6
          obtain ⟨z0, z1, z2, z3, z4, z5⟩ := hz6.cells
          have f0 := hz6.frozen 0
          have f1 := hz6.frozen 1
          have f2 := hz6.frozen 2
          have f3 := hz6.frozen 3
          have f4 := hz6.frozen 4
          have f5 := hz6.frozen 5
          have hxz := lt_of_blk hz6
          simp only [zeroR] at z0 z1 z2 z3 z4

          have HF6 := Lib.hid hf6
          have HB6 := Lib.hid hb6
          have HC9 := Lib.hid hc9
          clear hz6 hd6 hf6 hb6 hc9
          generalize r.extra.length - k = nd at *
          go_wp2_with fail
          refine bodyPost_ret (v := .tuple #[rcV ⟨r.key, r.value, r.rev, Y.life, Y.note, r.extra.drop k⟩ (.slice A1 nd cap1), .int .i64 0]) (by simp [results, Try.results42, go_sem, z0, z1, z2, z3, z4, z5]) rfl ⟨A1, nd, cap1, by first | (rw [HE.out]; done) | (rw [HE.out]; rfl), HC9.out, ?_, hnew.mono (by omega), ?_⟩
          · rw [HE.out]
            exact isFs_set6 HF6.out (hnew) (by omega) _ _ _ _ _ _
          · exact below_set6b HB6.out (by omega) _ _ _ _ _ _
        · have HE := Lib.hid (upR_zero hl2.symm hx)
          have hxx : ((x : Int) != 0) = true := by simp; omega
          clear hl2 hl3 hx21 hr5 hx
          obtain ⟨z0, z1, z2, z3, z4, z5⟩ := hz5.cells
          have f0 := hz5.frozen 0
          have f1 := hz5.frozen 1
          have f2 := hz5.frozen 2
          have f3 := hz5.frozen 3
          have f4 := hz5.frozen 4
          have f5 := hz5.frozen 5
          have hxz := lt_of_blk hz5
          simp only [zeroR] at z0 z1 z2 z3 z4
          have HBW := Lib.hid hb5
          clear hb5 hz5
          go_wp2_with fail
          refine bodyPost_ret (v := .tuple #[.agg #[.string ⟨#[]⟩, .string ⟨#[]⟩, .int .i64 0, .int .i64 0, .string ⟨#[]⟩, .slice none 0 0], .int .i64 x]) (by simp [results, Try.results42, go_sem, z0, z1, z2, z3, z4, z5, hxz]) rfl ⟨none, 0, 0, by rw [HE.out]; rfl, Nat.le_refl _, by rw [HE.out]; exact isFs_nil _ _, newAt_none _, ?_⟩
          exact (below_set6b HBW.out (by omega) _ _ _ _ _ _).alloc (by simp; omega) _
    · have hkn : n = k := by omega
      have HE5 : Hid (k < r.extra.length → 5 < tg r.extra k) := fun h6 => by have := HN.out; omega
      go_upto_region 4 with fail
      clear hkn hlt HC
      have hk2 := (lead_up hp (k := k) HKL.out hno.out HE5.out).1
      have hl2 := (lead_up hp (k := k) HKL.out hno.out HE5.out).2.1
      have hl3 := (lead_up hp (k := k) HKL.out hno.out HE5.out).2.2
      obtain ⟨kE1, kE2, kE3⟩ := kUp_enc hp hk2
      obtain ⟨_, _, hfr⟩ := slice_cut H0.out (k := k) (by omega) hc
      obtain ⟨AR, hif⟩ : ∃ A', (if cap = k then A else Option.map (fun x => x.add (k * 2)) A) = A' := ⟨_, rfl⟩
      rw [hif] at hfr
      have pE := refrEncode_any 1 (kUp r k) A k cap wr (kw k) (fs_take H0.out (by omega))
      rw [kE1] at pE
      obtain ⟨L, hL⟩ : ∃ L, encL (fieldsR (kUp r k)) = L := ⟨_, rfl⟩
      rw [hL] at pE kE2 kE3
      have pD : ∀ V, Calls Try.prog 40 #[.int .i64 2, .string (bs L)] V (RecPost V (upR (kUp r k))) := fun V => by
        have q := refrDecode_any 2 (bs L) (by rw [bs_size]; omega) V
        rw [show (bs L).data.toList = L from by simp [bs], kE3] at q
        exact q
      have pE' : Calls Try.prog 39 #[.int .i64 1, .agg #[.string ⟨#[107]⟩, .string ⟨#[]⟩, .int .i64 0, .int .i64 0, .string ⟨#[]⟩, .slice A k cap]] wr fun e w' => e = .returned (.tuple #[.string (bs L), .int .i64 0]) ∧ Below wr.heap.size wr w' := pE
      clear pE kE1 kE2 kE3 hL
      generalize bs L = S at *
      obtain ⟨⟨Y, x⟩, hY⟩ : ∃ Y, upR (kUp r k) = Y := ⟨_, rfl⟩
      rw [hY] at hl2 hl3 pD
      simp only at hl2 hl3
      have hx21 := upR_errs r
      rw [← hl2] at hx21 hl3
      clear hY
      have HFR := Lib.hid hfr
      have HDW : Hid (FsWf (r.extra.drop k)) := fun f hf => hwf f (List.mem_of_mem_drop hf)
      clear hfr
      go_upto_region 5 with fail
      ((with_reducible refine pE'.mono ?_); rintro e w4 ⟨rfl, b4⟩)
      have hs4 := b4.size
      clear c5 pE'
      go_wp2_with fail
      ((with_reducible refine (pD _).mono ?_); rintro e w5 ⟨A5, n5, cap5, rfl, hc5, hf5, hnew5, b5⟩)
      have hs5 := b5.size
      have b45 := bch b4 b5
      have hr5 := hr0.below b45
      have hz5 := hz0.below b45
      have hb5 := bch hb0 b45
      have HF5 := Lib.hid (HFR.out.below b45)
      clear b4 b5 b45 pD hf5 HFR hnew5 hc5
      by_cases hx : x = 0
      · subst hx
        have HE : Hid (upR r = (⟨r.key, r.value, r.rev, Y.life, Y.note, r.extra.drop k⟩, 0)) := by show _ = _; rw [← hl3 rfl, hl2]
        clear hl2 hl3 hx21
        obtain ⟨c0, c1, c2, c3, c4, c5⟩ := hr5.cells
        go_upto_region 8 with fail
        clear c0 c1 c2 c3 c4 c5
        obtain ⟨W7, hW7⟩ : ∃ W7, w5.alloc (.cells #[.string Y.key, .string Y.value, .int .i64 Y.rev, .int .i64 Y.life, .string Y.note, .slice A5 n5 cap5] 24) = W7 := ⟨_, rfl⟩
        have hy7 : RcBlk W7 w5.heap.size Y (.slice A5 n5 cap5) := by rw [← hW7]; exact World.alloc_heap_new w5 _
        have hr7 : RcBlk W7 w.heap.size r (.slice A n cap) := by rw [← hW7]; exact hr5.alloc _
        have hz7 : RcBlk W7 (w.heap.size + 1) zeroR (.slice none 0 0) := by rw [← hW7]; exact hz5.alloc _
        have hb7 : Below w.heap.size w W7 := by rw [← hW7]; exact hb5.alloc hb5.size _
        have hf7 : IsFs W7 AR (n - k) (r.extra.drop k) := by rw [← hW7]; exact HF5.out.below ((Below.refl _ _).alloc (Nat.le_refl _) _)
        have hs7 : W7.heap.size = w5.heap.size + 1 := by rw [← hW7]; simp
        clear hr5 hz5 hb5 HF5
        rw [hW7]
        have hsw : w.heap.size + 2 ≤ w5.heap.size := by omega
        generalize w5.heap.size = yb at *
        clear hW7
        obtain ⟨c0, c1, c2, c3, c4, c5⟩ := hr7.cells
        obtain ⟨y0, y1, y2, y3, y4, y5⟩ := hy7.cells
        have hyl := lt_of_blk hy7
        have hxl := lt_of_blk hr7
        go_upto_region 11 with fail
        obtain ⟨W9, hW9⟩ : ∃ W9, W7.alloc (.cells #[.string r.key, .string r.value, .int .i64 r.rev, .int .i64 Y.life, .string Y.note, .slice A n cap] 24) = W9 := ⟨_, rfl⟩
        have hd9 : RcBlk W9 (yb + 1) ⟨r.key, r.value, r.rev, Y.life, Y.note, r.extra⟩ (.slice A n cap) := by rw [← hW9, ← hs7]; exact World.alloc_heap_new W7 _
        have hr9 : RcBlk W9 w.heap.size r (.slice A n cap) := by rw [← hW9]; exact hr7.alloc _
        have hz9 : RcBlk W9 (w.heap.size + 1) zeroR (.slice none 0 0) := by rw [← hW9]; exact hz7.alloc _
        have hb9 : Below w.heap.size w W9 := by rw [← hW9]; exact hb7.alloc hb7.size _
        have hf9 : IsFs W9 AR (n - k) (r.extra.drop k) := by rw [← hW9]; exact hf7.below ((Below.refl _ _).alloc (Nat.le_refl _) _)
        have hs9 : W9.heap.size = yb + 2 := by rw [← hW9]; simp; omega
        rw [hW9]
        clear hW9 hy7 hr7 hz7 hb7 hf7 c0 c1 c2 c3 c4 c5 y0 y1 y2 y3 y4 y5 hyl hxl
        have c5 := hr9.cells.2.2.2.2.2
        have po := refown_any AR (n - k) (cap - k) (r.extra.drop k) W9 hf9 (by omega)
        clear hf9
        go_wp2_with fail
        ((with_reducible refine po.mono ?_); rintro e w10 ⟨A1, cap1, rfl, hown1, hwf1, b10⟩)
        have hd10 := hd9.below b10
        have hz10 := hz9.below b10
        have hb10 := bch hb9 b10
        have d5 := hd10.cells.2.2.2.2.2
        have g5 := hd10.frozen 5
        have hld := lt_of_blk hd10
        clear po hd9 hr9 hz9 hb9 b10 c5
        go_upto_region 12 with fail
        have hd6 : RcBlk (w10.setCell ⟨yb + 1, 5, none⟩ (.slice A1 (r.extra.length - k) cap1)) (yb + 1) ⟨r.key, r.value, r.rev, Y.life, Y.note, r.extra.drop k⟩ (.slice A1 (r.extra.length - k) cap1) := heap_setCell_same w10 (yb + 1) 5 _ _ _ hd10
        have hz6 : RcBlk (w10.setCell ⟨yb + 1, 5, none⟩ (.slice A1 (r.extra.length - k) cap1)) (w.heap.size + 1) zeroR (.slice none 0 0) := hz10.setOther (by omega)
        have hb6 := hb10.setCell (p := ⟨yb + 1, 5, none⟩) (by show w.heap.size ≤ yb + 1; omega) (.slice A1 (r.extra.length - k) cap1)
        have hnew : NewAt (yb + 2) A1 := newAt_own hown1 (by omega)
        have hdl : (r.extra.drop k).length = r.extra.length - k := List.length_drop
        obtain ⟨A9, cap9, hv9, hc9, hf9⟩ := isFs_own hown1 HDW.out
        have e1 := slice_addr hv9
        have e2 := slice_capc hv9
        subst e1 e2
        rw [hdl] at hc9 hf9
        have hf6 := isFs_set hf9 (newAt_ne hnew (by omega : yb + 1 < yb + 2)) 5 (.slice A1 (r.extra.length - k) cap1)
        clear hown1 hwf1 hd10 hz10 hb10 d5 g5 hld hf9 hv9 hif HDW
        generalize w10.setCell ⟨yb + 1, 5, none⟩ (.slice A1 (r.extra.length - k) cap1) = V6 at *
        obtain ⟨d0, d1, d2, d3, d4, d5⟩ := hd6.cells
        have hxd := lt_of_blk hd6
        obtain ⟨z0, z1, z2, z3, z4, z5⟩ := hz6.cells
        have f0 := hz6.frozen 0
        have f1 := hz6.frozen 1
        have f2 := hz6.frozen 2
        have f3 := hz6.frozen 3
        have f4 := hz6.frozen 4
        have f5 := hz6.frozen 5
        have hxz := lt_of_blk hz6
        simp only [zeroR] at z0 z1 z2 z3 z4

        have HF6 := Lib.hid hf6
        have HB6 := Lib.hid hb6
        have HC9 := Lib.hid hc9
        clear hz6 hd6 hf6 hb6 hc9
        generalize r.extra.length - k = nd at *
        go_wp2_with fail
        refine bodyPost_ret (v := .tuple #[rcV ⟨r.key, r.value, r.rev, Y.life, Y.note, r.extra.drop k⟩ (.slice A1 nd cap1), .int .i64 0]) (by simp [results, Try.results42, go_sem, z0, z1, z2, z3, z4, z5]) rfl ⟨A1, nd, cap1, by first | (rw [HE.out]; done) | (rw [HE.out]; rfl), HC9.out, ?_, hnew.mono (by omega), ?_⟩
        · rw [HE.out]
          exact isFs_set6 HF6.out (hnew) (by omega) _ _ _ _ _ _
        · exact below_set6b HB6.out (by omega) _ _ _ _ _ _
      · have HE := Lib.hid (upR_zero hl2.symm hx)
        have hxx : ((x : Int) != 0) = true := by simp; omega
        clear hl2 hl3 hx21 hr5 hx
        obtain ⟨z0, z1, z2, z3, z4, z5⟩ := hz5.cells
        have f0 := hz5.frozen 0
        have f1 := hz5.frozen 1
        have f2 := hz5.frozen 2
        have f3 := hz5.frozen 3
        have f4 := hz5.frozen 4
        have f5 := hz5.frozen 5
        have hxz := lt_of_blk hz5
        simp only [zeroR] at z0 z1 z2 z3 z4
        have HBW := Lib.hid hb5
        clear hb5 hz5
        go_wp2_with fail
        refine bodyPost_ret (v := .tuple #[.agg #[.string ⟨#[]⟩, .string ⟨#[]⟩, .int .i64 0, .int .i64 0, .string ⟨#[]⟩, .slice none 0 0], .int .i64 x]) (by simp [results, Try.results42, go_sem, z0, z1, z2, z3, z4, z5, hxz]) rfl ⟨none, 0, 0, by rw [HE.out]; rfl, Nat.le_refl _, by rw [HE.out]; exact isFs_nil _ _, newAt_none _, ?_⟩
        exact (below_set6b HBW.out (by omega) _ _ _ _ _ _).alloc (by simp; omega) _
end Go.Proofs.Ytkcmjhpbjgjebaa


/-
  The contracts of the document's own by, Up, Down and To.
-/
namespace Go.Proofs.Ytkcmjhpbjgjebaa
open Go.RowKit

set_option maxRecDepth 100000 in
set_option maxHeartbeats 4000000 in
theorem refby12_any (r : Rcd) (A : Option Addr) (n cap : Nat) (w : World) (hr : RcWf r) (h : IsFs w A n r.extra) (hc : n ≤ cap) :
    Calls Try.prog 24 #[.int .i64 1, .int .i64 2, rcV r (.slice A n cap)] w (RecPost w (upR r)) := by
  obtain ⟨W, hW⟩ : ∃ W, (w.alloc (.cells #[.string r.key, .string r.value, .int .i64 r.rev, .int .i64 r.life, .string r.note, .slice A n cap] 24)).alloc (.cells #[.string ⟨#[]⟩, .string ⟨#[]⟩, .int .i64 0, .int .i64 0, .string ⟨#[]⟩, .slice none 0 0] 24) = W := ⟨_, rfl⟩
  obtain ⟨hb0, hr0, hz0, hsz⟩ := two_new w r (.slice A n cap) hW
  have p1 := refrEncode_any 1 r A n cap W hr (h.below hb0)
  obtain ⟨c0, c1, c2, c3, c4, c5⟩ := hr0.cells
  have HR0 := Lib.hid hr0
  have HZ0 := Lib.hid hz0
  have H0 := Lib.hid h
  clear hr0 hz0 h
  cases hR : rightR 1 r with
  | false =>
    have HE : Hid (upR r = (zeroR, 1)) := upR_arg hR
    rw [recE_no hR] at p1
    have p1' : Calls Try.prog 39 #[.int .i64 1, rcV r (.slice A n cap)] W fun e w' => e = .returned (.tuple #[.string ⟨#[]⟩, .int .i64 1]) ∧ Below W.heap.size W w' := p1
    clear hR p1
    go_enter Try.func24, Try.ntmps24
    go_wp2_with fail
    ((with_reducible refine p1'.mono ?_); rintro e w4 ⟨rfl, b4⟩)
    have hz4 := HZ0.out.below b4
    have hb4 := bch hb0 b4
    obtain ⟨z0, z1, z2, z3, z4, z5⟩ := hz4.cells
    have f0 := hz4.frozen 0
    have f1 := hz4.frozen 1
    have f2 := hz4.frozen 2
    have f3 := hz4.frozen 3
    have f4 := hz4.frozen 4
    have f5 := hz4.frozen 5
    have hxz := lt_of_blk hz4
    simp only [zeroR] at z0 z1 z2 z3 z4
    have HBW := Lib.hid hb4
    clear hb0 b4 hz4 p1' hb4
    go_wp2_with fail
    refine bodyPost_ret (v := .tuple #[.agg #[.string ⟨#[]⟩, .string ⟨#[]⟩, .int .i64 0, .int .i64 0, .string ⟨#[]⟩, .slice none 0 0], .int .i64 1]) (by simp [results, Try.results24, go_sem, z0, z1, z2, z3, z4, z5]) rfl ⟨none, 0, 0, by rw [HE.out]; rfl, Nat.le_refl _, by rw [HE.out]; exact isFs_nil _ _, newAt_none _, ?_⟩
    exact below_set6b HBW.out (by omega) _ _ _ _ _ _

  | true =>
    rw [recE_long hR] at p1
    by_cases hl : (encL (fieldsR r)).length ≤ 10000
    · rw [if_pos hl] at p1
      have hd := recD_up hR hl
      obtain ⟨L, hL⟩ : ∃ L, encL (fieldsR r) = L := ⟨_, rfl⟩
      rw [hL] at p1 hd hl
      have pD : ∀ V, Calls Try.prog 40 #[.int .i64 2, .string (bs L)] V (RecPost V (upR r)) := fun V => by
        have q := refrDecode_any 2 (bs L) (by rw [bs_size]; omega) V
        rw [show (bs L).data.toList = L from by simp [bs], hd] at q
        exact q
      obtain ⟨⟨R, x⟩, hTT⟩ : ∃ R, upR r = R := ⟨_, rfl⟩
      have HE := Lib.hid hTT
      rw [hTT] at pD
      have p1' : Calls Try.prog 39 #[.int .i64 1, rcV r (.slice A n cap)] W fun e w' => e = .returned (.tuple #[.string (bs L), .int .i64 0]) ∧ Below W.heap.size W w' := p1
      clear hd hL hl hTT p1 hR
      generalize bs L = S at *
      go_enter Try.func24, Try.ntmps24
      go_wp2_with fail
      ((with_reducible refine p1'.mono ?_); rintro e w4 ⟨rfl, b4⟩)
      have hz4 := HZ0.out.below b4
      have hb4 := bch hb0 b4
      have hs4 := b4.size
      clear hb0 b4 p1' c0 c1 c2 c3 c4 c5
      go_wp2_with fail
      ((with_reducible refine (pD _).mono ?_); rintro e w5 ⟨A5, n5, cap5, rfl, hc5, hf5, hnew, b5⟩)
      have hz5 := hz4.below b5
      have hb5 := bch hb4 b5
      have hs5 := b5.size
      obtain ⟨z0, z1, z2, z3, z4, z5⟩ := hz5.cells
      have f0 := hz5.frozen 0
      have f1 := hz5.frozen 1
      have f2 := hz5.frozen 2
      have f3 := hz5.frozen 3
      have f4 := hz5.frozen 4
      have f5 := hz5.frozen 5
      have hxz := lt_of_blk hz5
      simp only [zeroR] at z0 z1 z2 z3 z4
      have HBW := Lib.hid (hb5)
      have HF := Lib.hid hf5
      clear b5 hz4 hb4 hz5 hb5 hf5 pD
      go_wp2_with fail
      refine bodyPost_ret (v := .tuple #[rcV R (.slice A5 n5 cap5), .int .i64 x]) (by simp [results, Try.results24, go_sem, z0, z1, z2, z3, z4, z5]) rfl ⟨A5, n5, cap5, by first | (rw [HE.out]; done) | (rw [HE.out]; rfl), hc5, ?_, hnew.mono (by omega), ?_⟩
      · rw [HE.out]
        exact isFs_set6 HF.out hnew (by omega) _ _ _ _ _ _
      · exact below_set6b HBW.out (by omega) _ _ _ _ _ _

    · rw [if_neg hl] at p1
      obtain ⟨⟨R, x⟩, hTT⟩ : ∃ R, upR r = R := ⟨_, rfl⟩
      have HE := Lib.hid hTT
      have p1' : Calls Try.prog 39 #[.int .i64 1, rcV r (.slice A n cap)] W fun e w' => e = .returned (.tuple #[.string ⟨#[]⟩, .int .i64 12]) ∧ Below W.heap.size W w' := p1
      clear hl p1
      go_enter Try.func24, Try.ntmps24
      go_wp2_with fail
      ((with_reducible refine p1'.mono ?_); rintro e w4 ⟨rfl, b4⟩)
      have hr4 := HR0.out.below b4
      have hz4 := HZ0.out.below b4
      have hb4 := bch hb0 b4
      have hs4 := b4.size
      clear hb0 b4 p1' c0 c1 c2 c3 c4 c5
      obtain ⟨c0, c1, c2, c3, c4, c5⟩ := hr4.cells
      clear hr4
      have p2 := refup_any r A n cap w4 (H0.out.below hb4) hc hR
      rw [hTT] at p2
      clear hR hTT
      go_wp2_with fail
      ((with_reducible refine p2.mono ?_); rintro e w5 ⟨A5, n5, cap5, rfl, hc5, hf5, hnew, b5⟩)
      have hz5 := hz4.below b5
      have hb5 := bch hb4 b5
      have hs5 := b5.size
      obtain ⟨z0, z1, z2, z3, z4, z5⟩ := hz5.cells
      have f0 := hz5.frozen 0
      have f1 := hz5.frozen 1
      have f2 := hz5.frozen 2
      have f3 := hz5.frozen 3
      have f4 := hz5.frozen 4
      have f5 := hz5.frozen 5
      have hxz := lt_of_blk hz5
      simp only [zeroR] at z0 z1 z2 z3 z4
      have HBW := Lib.hid (hb5)
      have HF := Lib.hid hf5
      clear b5 hz4 hb4 hz5 hb5 hf5 c0 c1 c2 c3 c4 c5 p2
      go_wp2_with fail
      refine bodyPost_ret (v := .tuple #[rcV R (.slice A5 n5 cap5), .int .i64 x]) (by simp [results, Try.results24, go_sem, z0, z1, z2, z3, z4, z5]) rfl ⟨A5, n5, cap5, by first | (rw [HE.out]; done) | (rw [HE.out]; rfl), hc5, ?_, hnew.mono (by omega), ?_⟩
      · rw [HE.out]
        exact isFs_set6 HF.out hnew (by omega) _ _ _ _ _ _
      · exact below_set6b HBW.out (by omega) _ _ _ _ _ _



set_option maxRecDepth 100000 in
set_option maxHeartbeats 4000000 in
theorem refby21_any (r : Rcd) (A : Option Addr) (n cap : Nat) (w : World) (hr : RcWf r) (h : IsFs w A n r.extra) :
    Calls Try.prog 24 #[.int .i64 2, .int .i64 1, rcV r (.slice A n cap)] w (RecPost w (downR r)) := by
  obtain ⟨W, hW⟩ : ∃ W, (w.alloc (.cells #[.string r.key, .string r.value, .int .i64 r.rev, .int .i64 r.life, .string r.note, .slice A n cap] 24)).alloc (.cells #[.string ⟨#[]⟩, .string ⟨#[]⟩, .int .i64 0, .int .i64 0, .string ⟨#[]⟩, .slice none 0 0] 24) = W := ⟨_, rfl⟩
  obtain ⟨hb0, hr0, hz0, hsz⟩ := two_new w r (.slice A n cap) hW
  have p1 := refrEncode_any 2 r A n cap W hr (h.below hb0)
  obtain ⟨c0, c1, c2, c3, c4, c5⟩ := hr0.cells
  have HR0 := Lib.hid hr0
  have HZ0 := Lib.hid hz0
  have H0 := Lib.hid h
  clear hr0 hz0 h
  cases hR : rightR 2 r with
  | false =>
    have HE : Hid (downR r = (zeroR, 1)) := downR_arg hR
    rw [recE_no hR] at p1
    have p1' : Calls Try.prog 39 #[.int .i64 2, rcV r (.slice A n cap)] W fun e w' => e = .returned (.tuple #[.string ⟨#[]⟩, .int .i64 1]) ∧ Below W.heap.size W w' := p1
    clear hR p1
    go_enter Try.func24, Try.ntmps24
    go_wp2_with fail
    ((with_reducible refine p1'.mono ?_); rintro e w4 ⟨rfl, b4⟩)
    have hz4 := HZ0.out.below b4
    have hb4 := bch hb0 b4
    obtain ⟨z0, z1, z2, z3, z4, z5⟩ := hz4.cells
    have f0 := hz4.frozen 0
    have f1 := hz4.frozen 1
    have f2 := hz4.frozen 2
    have f3 := hz4.frozen 3
    have f4 := hz4.frozen 4
    have f5 := hz4.frozen 5
    have hxz := lt_of_blk hz4
    simp only [zeroR] at z0 z1 z2 z3 z4
    have HBW := Lib.hid hb4
    clear hb0 b4 hz4 p1' hb4
    go_wp2_with fail
    refine bodyPost_ret (v := .tuple #[.agg #[.string ⟨#[]⟩, .string ⟨#[]⟩, .int .i64 0, .int .i64 0, .string ⟨#[]⟩, .slice none 0 0], .int .i64 1]) (by simp [results, Try.results24, go_sem, z0, z1, z2, z3, z4, z5]) rfl ⟨none, 0, 0, by rw [HE.out]; rfl, Nat.le_refl _, by rw [HE.out]; exact isFs_nil _ _, newAt_none _, ?_⟩
    exact below_set6b HBW.out (by omega) _ _ _ _ _ _

  | true =>
    rw [recE_long hR] at p1
    by_cases hl : (encL (fieldsR r)).length ≤ 10000
    · rw [if_pos hl] at p1
      have hd := recD_down hR hl
      obtain ⟨L, hL⟩ : ∃ L, encL (fieldsR r) = L := ⟨_, rfl⟩
      rw [hL] at p1 hd hl
      have pD : ∀ V, Calls Try.prog 40 #[.int .i64 1, .string (bs L)] V (RecPost V (downR r)) := fun V => by
        have q := refrDecode_any 1 (bs L) (by rw [bs_size]; omega) V
        rw [show (bs L).data.toList = L from by simp [bs], hd] at q
        exact q
      obtain ⟨⟨R, x⟩, hTT⟩ : ∃ R, downR r = R := ⟨_, rfl⟩
      have HE := Lib.hid hTT
      rw [hTT] at pD
      have p1' : Calls Try.prog 39 #[.int .i64 2, rcV r (.slice A n cap)] W fun e w' => e = .returned (.tuple #[.string (bs L), .int .i64 0]) ∧ Below W.heap.size W w' := p1
      clear hd hL hl hTT p1 hR
      generalize bs L = S at *
      go_enter Try.func24, Try.ntmps24
      go_wp2_with fail
      ((with_reducible refine p1'.mono ?_); rintro e w4 ⟨rfl, b4⟩)
      have hz4 := HZ0.out.below b4
      have hb4 := bch hb0 b4
      have hs4 := b4.size
      clear hb0 b4 p1' c0 c1 c2 c3 c4 c5
      go_wp2_with fail
      ((with_reducible refine (pD _).mono ?_); rintro e w5 ⟨A5, n5, cap5, rfl, hc5, hf5, hnew, b5⟩)
      have hz5 := hz4.below b5
      have hb5 := bch hb4 b5
      have hs5 := b5.size
      obtain ⟨z0, z1, z2, z3, z4, z5⟩ := hz5.cells
      have f0 := hz5.frozen 0
      have f1 := hz5.frozen 1
      have f2 := hz5.frozen 2
      have f3 := hz5.frozen 3
      have f4 := hz5.frozen 4
      have f5 := hz5.frozen 5
      have hxz := lt_of_blk hz5
      simp only [zeroR] at z0 z1 z2 z3 z4
      have HBW := Lib.hid (hb5)
      have HF := Lib.hid hf5
      clear b5 hz4 hb4 hz5 hb5 hf5 pD
      go_wp2_with fail
      refine bodyPost_ret (v := .tuple #[rcV R (.slice A5 n5 cap5), .int .i64 x]) (by simp [results, Try.results24, go_sem, z0, z1, z2, z3, z4, z5]) rfl ⟨A5, n5, cap5, by first | (rw [HE.out]; done) | (rw [HE.out]; rfl), hc5, ?_, hnew.mono (by omega), ?_⟩
      · rw [HE.out]
        exact isFs_set6 HF.out hnew (by omega) _ _ _ _ _ _
      · exact below_set6b HBW.out (by omega) _ _ _ _ _ _

    · rw [if_neg hl] at p1
      obtain ⟨⟨R, x⟩, hTT⟩ : ∃ R, downR r = R := ⟨_, rfl⟩
      have HE := Lib.hid hTT
      have p1' : Calls Try.prog 39 #[.int .i64 2, rcV r (.slice A n cap)] W fun e w' => e = .returned (.tuple #[.string ⟨#[]⟩, .int .i64 12]) ∧ Below W.heap.size W w' := p1
      clear hl p1
      go_enter Try.func24, Try.ntmps24
      go_wp2_with fail
      ((with_reducible refine p1'.mono ?_); rintro e w4 ⟨rfl, b4⟩)
      have hr4 := HR0.out.below b4
      have hz4 := HZ0.out.below b4
      have hb4 := bch hb0 b4
      have hs4 := b4.size
      clear hb0 b4 p1' c0 c1 c2 c3 c4 c5
      obtain ⟨c0, c1, c2, c3, c4, c5⟩ := hr4.cells
      clear hr4
      have p2 := refdown_any r A n cap w4 hr (H0.out.below hb4) hR
      have hx0 : x = 0 := by have h9 := (downR_right r).2 hR; rw [hTT] at h9; exact h9
      subst hx0
      rw [hTT] at p2
      clear hR hTT
      go_wp2_with fail
      ((with_reducible refine p2.mono ?_); rintro e w5 ⟨A5, n5, cap5, rfl, hc5, hf5, hnew, b5⟩)
      have hz5 := hz4.below b5
      have hb5 := bch hb4 b5
      have hs5 := b5.size
      obtain ⟨z0, z1, z2, z3, z4, z5⟩ := hz5.cells
      have f0 := hz5.frozen 0
      have f1 := hz5.frozen 1
      have f2 := hz5.frozen 2
      have f3 := hz5.frozen 3
      have f4 := hz5.frozen 4
      have f5 := hz5.frozen 5
      have hxz := lt_of_blk hz5
      simp only [zeroR] at z0 z1 z2 z3 z4
      have HBW := Lib.hid (hb5)
      have HF := Lib.hid hf5
      clear b5 hz4 hb4 hz5 hb5 hf5 c0 c1 c2 c3 c4 c5 p2
      go_wp2_with fail
      refine bodyPost_ret (v := .tuple #[rcV R (.slice A5 n5 cap5), .int .i64 0]) (by simp [results, Try.results24, go_sem, z0, z1, z2, z3, z4, z5]) rfl ⟨A5, n5, cap5, by first | (rw [HE.out]; done) | (rw [HE.out]; rfl), hc5, ?_, hnew.mono (by omega), ?_⟩
      · rw [HE.out]
        exact isFs_set6 HF.out hnew (by omega) _ _ _ _ _ _
      · exact below_set6b HBW.out (by omega) _ _ _ _ _ _



set_option maxRecDepth 100000 in
set_option maxHeartbeats 4000000 in
theorem refUp_any (r : Rcd) (A : Option Addr) (n cap : Nat) (w : World) (hr : RcWf r) (h : IsFs w A n r.extra) (hc : n ≤ cap) :
    Calls Try.prog 11 #[rcV r (.slice A n cap)] w (RecPost w (upR r)) := by
  obtain ⟨W, hW⟩ : ∃ W, (w.alloc (.cells #[.string r.key, .string r.value, .int .i64 r.rev, .int .i64 r.life, .string r.note, .slice A n cap] 24)).alloc (.cells #[.string ⟨#[]⟩, .string ⟨#[]⟩, .int .i64 0, .int .i64 0, .string ⟨#[]⟩, .slice none 0 0] 24) = W := ⟨_, rfl⟩
  obtain ⟨hb4, hr0, hz4, hsz⟩ := two_new w r (.slice A n cap) hW
  have p1 := refby12_any r A n cap W hr (h.below hb4) hc
  obtain ⟨c0, c1, c2, c3, c4, c5⟩ := hr0.cells
  obtain ⟨⟨R, x⟩, hTT⟩ : ∃ R, upR r = R := ⟨_, rfl⟩
  have HE := Lib.hid hTT
  rw [hTT] at p1
  have HZ4 := Lib.hid hz4
  clear hr0 h hTT hz4
  go_enter Try.func11, Try.ntmps11
  go_wp2_with fail
  ((with_reducible refine p1.mono ?_); rintro e w5 ⟨A5, n5, cap5, rfl, hc5, hf5, hnew, b5⟩)
  have hz4 := HZ4.out
  have hz5 := hz4.below b5
  have hb5 := bch hb4 b5
  have hs5 := b5.size
  obtain ⟨z0, z1, z2, z3, z4, z5⟩ := hz5.cells
  have f0 := hz5.frozen 0
  have f1 := hz5.frozen 1
  have f2 := hz5.frozen 2
  have f3 := hz5.frozen 3
  have f4 := hz5.frozen 4
  have f5 := hz5.frozen 5
  have hxz := lt_of_blk hz5
  simp only [zeroR] at z0 z1 z2 z3 z4
  have HBW := Lib.hid (hb5)
  have HF := Lib.hid hf5
  clear b5 hz4 hb4 hz5 hb5 hf5 p1
  go_wp2_with fail
  refine bodyPost_ret (v := .tuple #[rcV R (.slice A5 n5 cap5), .int .i64 x]) (by simp [results, Try.results11, go_sem, z0, z1, z2, z3, z4, z5]) rfl ⟨A5, n5, cap5, by first | (rw [HE.out]; done) | (rw [HE.out]; rfl), hc5, ?_, hnew.mono (by omega), ?_⟩
  · rw [HE.out]
    exact isFs_set6 HF.out hnew (by omega) _ _ _ _ _ _
  · exact below_set6b HBW.out (by omega) _ _ _ _ _ _


set_option maxRecDepth 100000 in
set_option maxHeartbeats 4000000 in
theorem refDown_any (r : Rcd) (A : Option Addr) (n cap : Nat) (w : World) (hr : RcWf r) (h : IsFs w A n r.extra) :
    Calls Try.prog 14 #[rcV r (.slice A n cap)] w (RecPost w (downR r)) := by
  obtain ⟨W, hW⟩ : ∃ W, (w.alloc (.cells #[.string r.key, .string r.value, .int .i64 r.rev, .int .i64 r.life, .string r.note, .slice A n cap] 24)).alloc (.cells #[.string ⟨#[]⟩, .string ⟨#[]⟩, .int .i64 0, .int .i64 0, .string ⟨#[]⟩, .slice none 0 0] 24) = W := ⟨_, rfl⟩
  obtain ⟨hb4, hr0, hz4, hsz⟩ := two_new w r (.slice A n cap) hW
  have p1 := refby21_any r A n cap W hr (h.below hb4)
  obtain ⟨c0, c1, c2, c3, c4, c5⟩ := hr0.cells
  obtain ⟨⟨R, x⟩, hTT⟩ : ∃ R, downR r = R := ⟨_, rfl⟩
  have HE := Lib.hid hTT
  rw [hTT] at p1
  have HZ4 := Lib.hid hz4
  clear hr0 h hTT hz4
  go_enter Try.func14, Try.ntmps14
  go_wp2_with fail
  ((with_reducible refine p1.mono ?_); rintro e w5 ⟨A5, n5, cap5, rfl, hc5, hf5, hnew, b5⟩)
  have hz4 := HZ4.out
  have hz5 := hz4.below b5
  have hb5 := bch hb4 b5
  have hs5 := b5.size
  obtain ⟨z0, z1, z2, z3, z4, z5⟩ := hz5.cells
  have f0 := hz5.frozen 0
  have f1 := hz5.frozen 1
  have f2 := hz5.frozen 2
  have f3 := hz5.frozen 3
  have f4 := hz5.frozen 4
  have f5 := hz5.frozen 5
  have hxz := lt_of_blk hz5
  simp only [zeroR] at z0 z1 z2 z3 z4
  have HBW := Lib.hid (hb5)
  have HF := Lib.hid hf5
  clear b5 hz4 hb4 hz5 hb5 hf5 p1
  go_wp2_with fail
  refine bodyPost_ret (v := .tuple #[rcV R (.slice A5 n5 cap5), .int .i64 x]) (by simp [results, Try.results14, go_sem, z0, z1, z2, z3, z4, z5]) rfl ⟨A5, n5, cap5, by first | (rw [HE.out]; done) | (rw [HE.out]; rfl), hc5, ?_, hnew.mono (by omega), ?_⟩
  · rw [HE.out]
    exact isFs_set6 HF.out hnew (by omega) _ _ _ _ _ _
  · exact below_set6b HBW.out (by omega) _ _ _ _ _ _


set_option maxRecDepth 100000 in
set_option maxHeartbeats 4000000 in
theorem refTo_any (v u : Int) (r : Rcd) (A : Option Addr) (n cap : Nat) (w : World) (hr : RcWf r) (h : IsFs w A n r.extra) (hc : n ≤ cap) :
    Calls Try.prog 17 #[.int .i64 v, .int .i64 u, rcV r (.slice A n cap)] w (RecPost w (toR v u r)) := by
  obtain ⟨W, hW⟩ : ∃ W, (w.alloc (.cells #[.string r.key, .string r.value, .int .i64 r.rev, .int .i64 r.life, .string r.note, .slice A n cap] 24)).alloc (.cells #[.string ⟨#[]⟩, .string ⟨#[]⟩, .int .i64 0, .int .i64 0, .string ⟨#[]⟩, .slice none 0 0] 24) = W := ⟨_, rfl⟩
  obtain ⟨hb0, hr0, hz0, hsz⟩ := two_new w r (.slice A n cap) hW
  have p1 := refrRight_any v r A n cap W hr (h.below hb0)
  obtain ⟨c0, c1, c2, c3, c4, c5⟩ := hr0.cells
  have HR0 := Lib.hid hr0
  have HZ0 := Lib.hid hz0
  have H0 := Lib.hid h
  have hwf := h.2.2.1
  have hnl := h.1
  clear hr0 hz0 h
  by_cases hOK : rightR v r = true ∧ (u = 1 ∨ u = 2)
  · obtain ⟨hR, hu⟩ := hOK
    rw [hR] at p1
    have hp := rightR_iff.1 hR
    have h64 : n ≤ 64 := by
      have := (rightB_iff.1 (extraB_iff.1 hp.2.2.2.2.2).1).1
      omega
    have hv := hp.1
    clear hp
    by_cases hvu : v = u
    · subst hvu
      have HE : Hid (toR v v r = (r, 0)) := toR_same hR
      clear hR hu hnl
      rcases hv with rfl | rfl
      all_goals
        go_enter Try.func17, Try.ntmps17
        go_wp2_with fail
        ((with_reducible refine p1.mono ?_); rintro e w1 ⟨rfl, b1⟩)
        have hr1 := HR0.out.below b1
        have hz1 := HZ0.out.below b1
        have hb1 := bch hb0 b1
        have hs1 := b1.size
        clear c0 c1 c2 c3 c4 c5 hb0 b1 p1 hW
        obtain ⟨c0, c1, c2, c3, c4, c5⟩ := hr1.cells
        go_upto_region 6 with fail
        clear c0 c1 c2 c3 c4 c5
        obtain ⟨W3, hW3⟩ : ∃ W3, w1.alloc (.cells #[.string r.key, .string r.value, .int .i64 r.rev, .int .i64 r.life, .string r.note, .slice A n cap] 24) = W3 := ⟨_, rfl⟩
        have hd3 : RcBlk W3 w1.heap.size r (.slice A n cap) := by rw [← hW3]; exact World.alloc_heap_new w1 _
        have hr3 : RcBlk W3 w.heap.size r (.slice A n cap) := by rw [← hW3]; exact hr1.alloc _
        have hz3 : RcBlk W3 (w.heap.size + 1) zeroR (.slice none 0 0) := by rw [← hW3]; exact hz1.alloc _
        have hb3 : Below w.heap.size w W3 := by rw [← hW3]; exact hb1.alloc hb1.size _
        have hs3 : W3.heap.size = w1.heap.size + 1 := by rw [← hW3]; simp
        rw [hW3]
        have po := refown_any A n cap r.extra W3 (H0.out.below hb3) (by omega)
        have c5 := hr3.cells.2.2.2.2.2
        clear hr1 hz1 hb1 hW3 hr3
        go_wp2_with fail
        ((with_reducible refine po.mono ?_); rintro e w5 ⟨A1, cap1, rfl, hown1, hwf1, b5⟩)
        have hd5 := hd3.below b5
        have hz5 := hz3.below b5
        have hb5 := bch hb3 b5
        have d5 := hd5.cells.2.2.2.2.2
        have g5 := hd5.frozen 5
        have hld := lt_of_blk hd5
        clear po hd3 hz3 hb3 b5 c5
        go_upto_region 7 with fail
        have hd6 : RcBlk (w5.setCell ⟨w1.heap.size, 5, none⟩ (.slice A1 r.extra.length cap1)) w1.heap.size r (.slice A1 r.extra.length cap1) := heap_setCell_same w5 w1.heap.size 5 _ _ _ hd5
        have hz6 : RcBlk (w5.setCell ⟨w1.heap.size, 5, none⟩ (.slice A1 r.extra.length cap1)) (w.heap.size + 1) zeroR (.slice none 0 0) := hz5.setOther (by omega)
        have hb6 := hb5.setCell (p := ⟨w1.heap.size, 5, none⟩) (by show w.heap.size ≤ w1.heap.size; omega) (.slice A1 r.extra.length cap1)
        have hnew : NewAt (w1.heap.size + 1) A1 := newAt_own hown1 (by omega)
        obtain ⟨A9, cap9, hv9, hc9, hf9⟩ := isFs_own hown1 hwf
        have e1 := slice_addr hv9
        have e2 := slice_capc hv9
        subst e1 e2
        have hf6 := isFs_set hf9 (newAt_ne hnew (by omega : w1.heap.size < w1.heap.size + 1)) 5 (.slice A1 r.extra.length cap1)
        clear hown1 hwf1 hd5 hz5 hb5 d5 g5 hld hf9 hv9
        generalize w5.setCell ⟨w1.heap.size, 5, none⟩ (.slice A1 r.extra.length cap1) = V6 at *
        obtain ⟨d0, d1, d2, d3, d4, d5⟩ := hd6.cells
        have hxd := lt_of_blk hd6
        obtain ⟨z0, z1, z2, z3, z4, z5⟩ := hz6.cells
        have f0 := hz6.frozen 0
        have f1 := hz6.frozen 1
        have f2 := hz6.frozen 2
        have f3 := hz6.frozen 3
        have f4 := hz6.frozen 4
        have f5 := hz6.frozen 5
        have hxz := lt_of_blk hz6
        simp only [zeroR] at z0 z1 z2 z3 z4

        have HF6 := Lib.hid hf6
        have HB6 := Lib.hid hb6
        clear hz6 hd6 hf6 hb6
        go_wp2_with fail
        refine bodyPost_ret (v := .tuple #[rcV r (.slice A1 r.extra.length cap1), .int .i64 0]) (by simp [results, Try.results17, go_sem, z0, z1, z2, z3, z4, z5]) rfl ⟨A1, r.extra.length, cap1, by first | (rw [HE.out]; done) | (rw [HE.out]; rfl), hc9, ?_, hnew.mono (by omega), ?_⟩
        · rw [HE.out]
          exact isFs_set6 HF6.out (hnew) (by omega) _ _ _ _ _ _
        · exact below_set6b HB6.out (by omega) _ _ _ _ _ _
    · have hEU : u = 2 → toR v u r = upR r := fun h2 => by subst h2; exact toR_up hR hvu
      have hED : u = 1 → toR v u r = downR r := fun h2 => by subst h2; exact toR_down hR hvu
      clear hR hwf hnl
      generalize toR v u r = TT at *
      rcases hu with rfl | rfl
      · have hv2 : v = 2 := by omega
        subst hv2
        have hE := hED rfl
        clear hEU hED hv hvu
        obtain ⟨⟨R, x⟩, hTT⟩ : ∃ R, downR r = R := ⟨_, rfl⟩
        rw [hTT] at hE
        have HE := Lib.hid hE
        clear hE
        go_enter Try.func17, Try.ntmps17
        go_wp2_with fail
        ((with_reducible refine p1.mono ?_); rintro e w1 ⟨rfl, b1⟩)
        have hr1 := HR0.out.below b1
        have hz4 := HZ0.out.below b1
        have hb4 := bch hb0 b1
        have hs1 := b1.size
        clear c0 c1 c2 c3 c4 c5 hb0 b1 p1
        obtain ⟨c0, c1, c2, c3, c4, c5⟩ := hr1.cells
        clear hr1
        have p2 := refby21_any r A n cap w1 hr (H0.out.below hb4)
        rw [hTT] at p2
        clear hTT
        go_wp2_with fail
        ((with_reducible refine p2.mono ?_); rintro e w5 ⟨A5, n5, cap5, rfl, hc5, hf5, hnew, b5⟩)
        have hz5 := hz4.below b5
        have hb5 := bch hb4 b5
        have hs5 := b5.size
        obtain ⟨z0, z1, z2, z3, z4, z5⟩ := hz5.cells
        have f0 := hz5.frozen 0
        have f1 := hz5.frozen 1
        have f2 := hz5.frozen 2
        have f3 := hz5.frozen 3
        have f4 := hz5.frozen 4
        have f5 := hz5.frozen 5
        have hxz := lt_of_blk hz5
        simp only [zeroR] at z0 z1 z2 z3 z4
        have HBW := Lib.hid (hb5)
        have HF := Lib.hid hf5
        clear b5 hz4 hb4 hz5 hb5 hf5 p2 c0 c1 c2 c3 c4 c5
        go_wp2_with fail
        refine bodyPost_ret (v := .tuple #[rcV R (.slice A5 n5 cap5), .int .i64 x]) (by simp [results, Try.results17, go_sem, z0, z1, z2, z3, z4, z5]) rfl ⟨A5, n5, cap5, by first | (rw [HE.out]; done) | (rw [HE.out]; rfl), hc5, ?_, hnew.mono (by omega), ?_⟩
        · rw [HE.out]
          exact isFs_set6 HF.out hnew (by omega) _ _ _ _ _ _
        · exact below_set6b HBW.out (by omega) _ _ _ _ _ _

      · have hv2 : v = 1 := by omega
        subst hv2
        have hE := hEU rfl
        clear hEU hED hv hvu
        obtain ⟨⟨R, x⟩, hTT⟩ : ∃ R, upR r = R := ⟨_, rfl⟩
        rw [hTT] at hE
        have HE := Lib.hid hE
        clear hE
        go_enter Try.func17, Try.ntmps17
        go_wp2_with fail
        ((with_reducible refine p1.mono ?_); rintro e w1 ⟨rfl, b1⟩)
        have hr1 := HR0.out.below b1
        have hz4 := HZ0.out.below b1
        have hb4 := bch hb0 b1
        have hs1 := b1.size
        clear c0 c1 c2 c3 c4 c5 hb0 b1 p1
        obtain ⟨c0, c1, c2, c3, c4, c5⟩ := hr1.cells
        clear hr1
        have p2 := refby12_any r A n cap w1 hr (H0.out.below hb4) hc
        rw [hTT] at p2
        clear hTT
        go_wp2_with fail
        ((with_reducible refine p2.mono ?_); rintro e w5 ⟨A5, n5, cap5, rfl, hc5, hf5, hnew, b5⟩)
        have hz5 := hz4.below b5
        have hb5 := bch hb4 b5
        have hs5 := b5.size
        obtain ⟨z0, z1, z2, z3, z4, z5⟩ := hz5.cells
        have f0 := hz5.frozen 0
        have f1 := hz5.frozen 1
        have f2 := hz5.frozen 2
        have f3 := hz5.frozen 3
        have f4 := hz5.frozen 4
        have f5 := hz5.frozen 5
        have hxz := lt_of_blk hz5
        simp only [zeroR] at z0 z1 z2 z3 z4
        have HBW := Lib.hid (hb5)
        have HF := Lib.hid hf5
        clear b5 hz4 hb4 hz5 hb5 hf5 p2 c0 c1 c2 c3 c4 c5
        go_wp2_with fail
        refine bodyPost_ret (v := .tuple #[rcV R (.slice A5 n5 cap5), .int .i64 x]) (by simp [results, Try.results17, go_sem, z0, z1, z2, z3, z4, z5]) rfl ⟨A5, n5, cap5, by first | (rw [HE.out]; done) | (rw [HE.out]; rfl), hc5, ?_, hnew.mono (by omega), ?_⟩
        · rw [HE.out]
          exact isFs_set6 HF.out hnew (by omega) _ _ _ _ _ _
        · exact below_set6b HBW.out (by omega) _ _ _ _ _ _

  · have HE : Hid (toR v u r = (zeroR, 1)) := by show _ = _; unfold toR; rw [if_neg hOK]
    cases hR : rightR v r with
    | false =>
      rw [hR] at p1
      clear hR hOK hwf hnl
      go_enter Try.func17, Try.ntmps17
      go_wp2_with fail
      ((with_reducible refine p1.mono ?_); rintro e w1 ⟨rfl, b1⟩)
      have hz1 := HZ0.out.below b1
      have hb1 := bch hb0 b1
      obtain ⟨z0, z1, z2, z3, z4, z5⟩ := hz1.cells
      have f0 := hz1.frozen 0
      have f1 := hz1.frozen 1
      have f2 := hz1.frozen 2
      have f3 := hz1.frozen 3
      have f4 := hz1.frozen 4
      have f5 := hz1.frozen 5
      have hxz := lt_of_blk hz1
      simp only [zeroR] at z0 z1 z2 z3 z4
      have HBW := Lib.hid hb1
      clear hb0 b1 hz1 p1 hb1
      go_wp2_with fail
      refine bodyPost_ret (v := .tuple #[.agg #[.string ⟨#[]⟩, .string ⟨#[]⟩, .int .i64 0, .int .i64 0, .string ⟨#[]⟩, .slice none 0 0], .int .i64 1]) (by simp [results, Try.results17, go_sem, z0, z1, z2, z3, z4, z5]) rfl ⟨none, 0, 0, by rw [HE.out]; rfl, Nat.le_refl _, by rw [HE.out]; exact isFs_nil _ _, newAt_none _, ?_⟩
      exact below_set6b HBW.out (by omega) _ _ _ _ _ _

    | true =>
      rw [hR] at p1
      have e1 : (u != 1) = true := by simp; intro h2; exact hOK ⟨hR, .inl h2⟩
      have e2 : (u != 2) = true := by simp; intro h2; exact hOK ⟨hR, .inr h2⟩
      clear hR hOK hwf hnl
      go_enter Try.func17, Try.ntmps17
      go_wp2_with fail
      ((with_reducible refine p1.mono ?_); rintro e w1 ⟨rfl, b1⟩)
      have hz1 := HZ0.out.below b1
      have hb1 := bch hb0 b1
      obtain ⟨z0, z1, z2, z3, z4, z5⟩ := hz1.cells
      have f0 := hz1.frozen 0
      have f1 := hz1.frozen 1
      have f2 := hz1.frozen 2
      have f3 := hz1.frozen 3
      have f4 := hz1.frozen 4
      have f5 := hz1.frozen 5
      have hxz := lt_of_blk hz1
      simp only [zeroR] at z0 z1 z2 z3 z4
      have HBW := Lib.hid hb1
      clear hb0 b1 hz1 p1 hb1
      go_wp2_with fail
      refine bodyPost_ret (v := .tuple #[.agg #[.string ⟨#[]⟩, .string ⟨#[]⟩, .int .i64 0, .int .i64 0, .string ⟨#[]⟩, .slice none 0 0], .int .i64 1]) (by simp [results, Try.results17, go_sem, z0, z1, z2, z3, z4, z5]) rfl ⟨none, 0, 0, by rw [HE.out]; rfl, Nat.le_refl _, by rw [HE.out]; exact isFs_nil _ _, newAt_none _, ?_⟩
      exact below_set6b HBW.out (by omega) _ _ _ _ _ _

end Go.Proofs.Ytkcmjhpbjgjebaa


/-
  The contract of the law package's own 'awake': chapter 4's example, and more.
-/
namespace Go.Proofs.Ytkcmjhpbjgjebaa
open Go.RowKit

def rC : Rcd := ⟨⟨#[97]⟩, ⟨#[]⟩, 0, 7, ⟨#[110]⟩, []⟩
def dC : Rcd := ⟨⟨#[97]⟩, ⟨#[]⟩, 0, 0, ⟨#[]⟩, [(4, ⟨#[7]⟩), (5, ⟨#[110]⟩)]⟩
def xC : Rcd := ⟨⟨#[97]⟩, ⟨#[]⟩, 0, 0, ⟨#[]⟩, [(4, ⟨#[]⟩)]⟩
def kC : Rcd := ⟨⟨#[97]⟩, ⟨#[]⟩, 0, 0, ⟨#[]⟩, []⟩
theorem aw1 : downR rC = (dC, 0) := by
  have e0 : numD 7 = ⟨#[7]⟩ := by unfold numD; rw [if_neg (by decide), show (7 : Int).toNat = 7 from rfl, vb_small (by omega)]; rfl
  rw [downR_eq (by decide)]
  show ((⟨_, _, _, _, _, opt 4 (ob (numD 7)) ++ (opt 5 (ob ⟨#[110]⟩) ++ [])⟩ : Rcd), 0) = _
  rw [e0]; rfl
theorem aw2 : upR dC = (rC, 0) := (down_up aw1).2.2.1
theorem aw3 : upR xC = (zeroR, 21) := by rfl
theorem aw4 : upR rC = (zeroR, 1) := by rfl
theorem aw5 : toR 1 3 kC = (zeroR, 1) := by rfl
theorem rC_wf : RcWf rC := by refine ⟨?_, ?_, ?_⟩ <;> decide
theorem dC_wf : RcWf dC := by refine ⟨?_, ?_, ?_⟩ <;> decide
theorem xC_wf : RcWf xC := by refine ⟨?_, ?_, ?_⟩ <;> decide
theorem kC_wf : RcWf kC := by refine ⟨?_, ?_, ?_⟩ <;> decide

/-- A call's answer, written out. -/
def CLit (k v : ByteArray) (r l : Int) (nt : ByteArray) (ex : List Fld) (err : Int) (w : World) (e : Ending) (w' : World) : Prop :=
  ∃ A n cap, e = .returned (.tuple #[.agg #[.string k, .string v, .int .i64 r, .int .i64 l, .string nt, .slice A n cap], .int .i64 err]) ∧ IsFs w' A n ex ∧ Below w.heap.size w w'
theorem cLit_of {f : Nat} {args : Array Value} {w : World} {r : Rcd} {x : Nat} (h : Calls Try.prog f args w (RecPost w (r, x))) : Calls Try.prog f args w (CLit r.key r.value r.rev r.life r.note r.extra x w) := by
  refine h.mono ?_
  rintro e w' ⟨A, n, cap, rfl, h3, h4, _, h5⟩
  exact ⟨A, n, cap, rfl, h4, h5⟩
theorem awD (W : World) : Calls Try.prog 13 #[.agg #[.string ⟨#[97]⟩, .string ⟨#[]⟩, .int .i64 0, .int .i64 7, .string ⟨#[110]⟩, .slice none 0 0]] W (CLit ⟨#[97]⟩ ⟨#[]⟩ 0 0 ⟨#[]⟩ [(4, ⟨#[7]⟩), (5, ⟨#[110]⟩)] 0 W) := by
  have q := cDown_any rC none 0 0 W rC_wf (isFs_nil _ _)
  rw [aw1] at q; exact cLit_of q
theorem awU (W : World) (A : Option Addr) (cap : Nat) (h : IsFs W A 2 [(4, ⟨#[7]⟩), (5, ⟨#[110]⟩)]) : Calls Try.prog 10 #[.agg #[.string ⟨#[97]⟩, .string ⟨#[]⟩, .int .i64 0, .int .i64 0, .string ⟨#[]⟩, .slice A 2 cap]] W (CLit ⟨#[97]⟩ ⟨#[]⟩ 0 7 ⟨#[110]⟩ [] 0 W) := by
  have q := cUp_any dC A 2 cap W dC_wf h
  rw [aw2] at q; exact cLit_of q
theorem awX (W : World) (A : Option Addr) (h : IsFs W A 1 [(4, ⟨#[]⟩)]) : Calls Try.prog 10 #[.agg #[.string ⟨#[97]⟩, .string ⟨#[]⟩, .int .i64 0, .int .i64 0, .string ⟨#[]⟩, .slice A 1 1]] W (CLit ⟨#[]⟩ ⟨#[]⟩ 0 0 ⟨#[]⟩ [] 21 W) := by
  have q := cUp_any xC A 1 1 W xC_wf h
  rw [aw3] at q; exact cLit_of q
theorem awR (W : World) : Calls Try.prog 10 #[.agg #[.string ⟨#[97]⟩, .string ⟨#[]⟩, .int .i64 0, .int .i64 7, .string ⟨#[110]⟩, .slice none 0 0]] W (CLit ⟨#[]⟩ ⟨#[]⟩ 0 0 ⟨#[]⟩ [] 1 W) := by
  have q := cUp_any rC none 0 0 W rC_wf (isFs_nil _ _)
  rw [aw4] at q; exact cLit_of q
theorem awT (W : World) : Calls Try.prog 16 #[.int .i64 1, .int .i64 3, .agg #[.string ⟨#[97]⟩, .string ⟨#[]⟩, .int .i64 0, .int .i64 0, .string ⟨#[]⟩, .slice none 0 0]] W (CLit ⟨#[]⟩ ⟨#[]⟩ 0 0 ⟨#[]⟩ [] 1 W) := by
  have q := cTo_any 1 3 kC none 0 0 W kC_wf (isFs_nil _ _)
  rw [aw5] at q; exact cLit_of q

set_option maxRecDepth 100000 in
set_option maxHeartbeats 8000000 in
theorem awake4_any (w : World) : Calls Try.prog 8 #[] w fun e w' => e = .returned (.bool true) ∧ Below w.heap.size w w' := by
  have hr0 : RcBlk (w.alloc (.cells #[.string ⟨#[97]⟩, .string ⟨#[]⟩, .int .i64 0, .int .i64 7, .string ⟨#[110]⟩, .slice none 0 0] 24)) w.heap.size rC (.slice none 0 0) := World.alloc_heap_new w _
  have hb0 : Below w.heap.size w (w.alloc (.cells #[.string ⟨#[97]⟩, .string ⟨#[]⟩, .int .i64 0, .int .i64 7, .string ⟨#[110]⟩, .slice none 0 0] 24)) := (Below.refl _ _).alloc (Nat.le_refl _) _
  have HR0 := Lib.hid hr0
  clear hr0
  go_enter Try.func8, Try.ntmps8
  go_wp2_with fail
  ((with_reducible refine (awD _).mono ?_); rintro e w1 ⟨A1, n1, cap1, rfl, hf1, b1⟩)
  have hn1 : n1 = 2 := hf1.1
  subst hn1
  have hr1 := HR0.out.below b1
  have hb1 := bch hb0 b1
  clear hb0 HR0 b1
  go_upto_region 3 with fail
  obtain ⟨W1, hW1⟩ : ∃ W1, w1.alloc (.cells #[.string ⟨#[97]⟩, .string ⟨#[]⟩, .int .i64 0, .int .i64 0, .string ⟨#[]⟩, .slice A1 2 cap1] 24) = W1 := ⟨_, rfl⟩
  have hd2 : RcBlk W1 w1.heap.size dC (.slice A1 2 cap1) := by rw [← hW1]; exact World.alloc_heap_new w1 _
  have hr2 : RcBlk W1 w.heap.size rC (.slice none 0 0) := by rw [← hW1]; exact hr1.alloc _
  have hb2 : Below w.heap.size w W1 := by rw [← hW1]; exact hb1.alloc hb1.size _
  have hf2 : IsFs W1 A1 2 dC.extra := by rw [← hW1]; exact hf1.below ((Below.refl _ _).alloc (Nat.le_refl _) _)
  have hs2 : W1.heap.size = w1.heap.size + 1 := by rw [← hW1]; simp
  have hlt2 : w.heap.size < w1.heap.size := lt_of_blk hr1
  rw [hW1]
  generalize w1.heap.size = y1 at *
  clear hf1 hb1 hr1 hW1
  obtain ⟨c0, c1, c2, c3, c4, c5⟩ := hd2.cells
  simp only [dC] at c0 c1 c2 c3 c4
  go_wp2_with fail
  ((with_reducible refine (awU _ _ _ hf2).mono ?_); rintro e w2 ⟨A2, n2, cap2, rfl, hf3, b2⟩)
  have hn2 : n2 = 0 := hf3.1
  subst hn2
  clear hf3 c0 c1 c2 c3 c4 c5
  have hr3 := hr2.below b2
  have hd3 := hd2.below b2
  have hb3 := bch hb2 b2
  have hf3 := hf2.below b2
  clear hr2 hd2 hb2 hf2 b2 hs2
  go_upto_region 4 with fail
  obtain ⟨W2, hW2⟩ : ∃ W2, w2.alloc (.cells #[.string ⟨#[97]⟩, .string ⟨#[]⟩, .int .i64 0, .int .i64 7, .string ⟨#[110]⟩, .slice A2 0 cap2] 24) = W2 := ⟨_, rfl⟩
  have hu4 : RcBlk W2 w2.heap.size rC (.slice A2 0 cap2) := by rw [← hW2]; exact World.alloc_heap_new w2 _
  have hr4 : RcBlk W2 w.heap.size rC (.slice none 0 0) := by rw [← hW2]; exact hr3.alloc _
  have hd4 : RcBlk W2 y1 dC (.slice A1 2 cap1) := by rw [← hW2]; exact hd3.alloc _
  have hb4 : Below w.heap.size w W2 := by rw [← hW2]; exact hb3.alloc hb3.size _
  have hf4 : IsFs W2 A1 2 dC.extra := by rw [← hW2]; exact hf3.below ((Below.refl _ _).alloc (Nat.le_refl _) _)
  have hlt3 : y1 < w2.heap.size := lt_of_blk hd3
  rw [hW2]
  generalize w2.heap.size = y2 at *
  clear hr3 hd3 hb3 hf3 hW2
  have hx5 : IsFs (W2.alloc (.cells #[.int .i64 4, .string ⟨#[]⟩] 44)) (some ⟨W2.heap.size, 0, none⟩) 1 [(4, ⟨#[]⟩)] := by
    have hx := World.alloc_heap_new W2 (.cells #[.int .i64 4, .string ⟨#[]⟩] 44)
    exact isFs_one (cell_blk hx 0) (cell_blk hx 1) wf4 (by decide)
  go_wp2_with fail
  ((with_reducible refine (awX _ _ hx5).mono ?_); rintro e w3 ⟨A3, n3, cap3, rfl, _, b3⟩)
  have hu5 := (hu4.alloc (.cells #[.int .i64 4, .string ⟨#[]⟩] 44)).below b3
  have hr5 := (hr4.alloc (.cells #[.int .i64 4, .string ⟨#[]⟩] 44)).below b3
  have hd5 := (hd4.alloc (.cells #[.int .i64 4, .string ⟨#[]⟩] 44)).below b3
  have hb5 := bch (hb4.alloc hb4.size (.cells #[.int .i64 4, .string ⟨#[]⟩] 44)) b3
  have hf5 := (hf4.below ((Below.refl _ _).alloc (Nat.le_refl _) (.cells #[.int .i64 4, .string ⟨#[]⟩] 44))).below b3
  clear hu4 hr4 hd4 hb4 hf4 b3 hx5
  go_upto_region 5 with fail
  obtain ⟨W3, hW3⟩ : ∃ W3, w3.alloc (.cells #[.string ⟨#[]⟩, .string ⟨#[]⟩, .int .i64 0, .int .i64 0, .string ⟨#[]⟩, .slice A3 n3 cap3] 24) = W3 := ⟨_, rfl⟩
  have hu6 : RcBlk W3 y2 rC (.slice A2 0 cap2) := by rw [← hW3]; exact hu5.alloc _
  have hr6 : RcBlk W3 w.heap.size rC (.slice none 0 0) := by rw [← hW3]; exact hr5.alloc _
  have hd6 : RcBlk W3 y1 dC (.slice A1 2 cap1) := by rw [← hW3]; exact hd5.alloc _
  have hb6 : Below w.heap.size w W3 := by rw [← hW3]; exact hb5.alloc hb5.size _
  have hf6 : IsFs W3 A1 2 dC.extra := by rw [← hW3]; exact hf5.below ((Below.refl _ _).alloc (Nat.le_refl _) _)
  rw [hW3]
  clear hu5 hr5 hd5 hb5 hf5 hW3
  obtain ⟨c0, c1, c2, c3, c4, c5⟩ := hr6.cells
  simp only [rC] at c0 c1 c2 c3 c4
  go_wp2_with fail
  ((with_reducible refine (awR _).mono ?_); rintro e w4 ⟨A4, n4, cap4, rfl, _, b4⟩)
  have hu7 := hu6.below b4
  have hd7 := hd6.below b4
  have hb7 := bch hb6 b4
  have hf7 := hf6.below b4
  clear hu6 hr6 hd6 hb6 hf6 b4 c0 c1 c2 c3 c4 c5
  go_upto_region 6 with fail
  obtain ⟨W4, hW4⟩ : ∃ W4, w4.alloc (.cells #[.string ⟨#[]⟩, .string ⟨#[]⟩, .int .i64 0, .int .i64 0, .string ⟨#[]⟩, .slice A4 n4 cap4] 24) = W4 := ⟨_, rfl⟩
  have hu8 : RcBlk W4 y2 rC (.slice A2 0 cap2) := by rw [← hW4]; exact hu7.alloc _
  have hd8 : RcBlk W4 y1 dC (.slice A1 2 cap1) := by rw [← hW4]; exact hd7.alloc _
  have hb8 : Below w.heap.size w W4 := by rw [← hW4]; exact hb7.alloc hb7.size _
  have hf8 : IsFs W4 A1 2 dC.extra := by rw [← hW4]; exact hf7.below ((Below.refl _ _).alloc (Nat.le_refl _) _)
  rw [hW4]
  clear hu7 hd7 hb7 hf7 hW4
  go_wp2_with fail
  ((with_reducible refine (awT _).mono ?_); rintro e w5 ⟨A5, n5, cap5, rfl, _, b5⟩)
  have hu9 := hu8.below b5
  have hd9 := hd8.below b5
  have hb9 := bch hb8 b5
  have hf9 := hf8.below b5
  clear hu8 hd8 hb8 hf8 b5
  go_upto_region 7 with fail
  obtain ⟨W5, hW5⟩ : ∃ W5, w5.alloc (.cells #[.string ⟨#[]⟩, .string ⟨#[]⟩, .int .i64 0, .int .i64 0, .string ⟨#[]⟩, .slice A5 n5 cap5] 24) = W5 := ⟨_, rfl⟩
  have hu : RcBlk W5 y2 rC (.slice A2 0 cap2) := by rw [← hW5]; exact hu9.alloc _
  have hd : RcBlk W5 y1 dC (.slice A1 2 cap1) := by rw [← hW5]; exact hd9.alloc _
  have hb : Below w.heap.size w W5 := by rw [← hW5]; exact hb9.alloc hb9.size _
  have hf : IsFs W5 A1 2 dC.extra := by rw [← hW5]; exact hf9.below ((Below.refl _ _).alloc (Nat.le_refl _) _)
  rw [hW5]
  clear hu9 hd9 hb9 hf9 hW5
  obtain ⟨c0, c1, c2, c3, c4, c5⟩ := hd.cells
  obtain ⟨u0, u1, u2, u3, u4, u5⟩ := hu.cells
  simp only [dC] at c0 c1 c2 c3 c4
  simp only [rC] at u0 u1 u2 u3 u4
  obtain ⟨b, off, hA, hbl, hat⟩ := hf.2.2.2 (by omega)
  subst hA
  obtain ⟨e1, e2⟩ : W5.cell? ⟨b, off, none⟩ = some (.int .i64 4) ∧ W5.cell? ⟨b, off + 1, none⟩ = some (.string ⟨#[7]⟩) := by
    have h := hat 0 (by decide)
    exact h
  clear hat hd hu hf
  have hgu := guardFld
  have heq : ∀ w, (Op.equalIn 10000 44 (.agg #[.int .i64 4, .string ⟨#[7]⟩]) (.agg #[.int .i64 4, .string ⟨#[7]⟩])).run Try.prog w = .ok true w := fun w => by rw [eqFld]; simp
  go_wp2_with fail
  go_ret
  exact ⟨rfl, hb⟩
end Go.Proofs.Ytkcmjhpbjgjebaa

