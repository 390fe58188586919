import Derived.Test.YtljjbpgbddaekaaMailPb
import Derived.Test.YtljjbpgbddaekaaRange
import Derived.Test.YtljjbpgbddaekaaPut
import Derived.RegionIn
import Derived.BigRegionIn
import Derived.OwnWalkIn
/-
  The contracts of the program's own lettersTo (an iterator) and For (stage 11).
-/
namespace Go.Proofs.Ytljjbpgbddaekaa
open Go.RowKit Go.Shelf

attribute [local go_sem] Oper.semAt_some
set_option linter.unusedVariables false
set_option linter.unusedSimpArgs false

/-- One's letters among the first k, with their places. -/
def forP (l : List Lt) (t : Int) : Nat → List (Nat × Lt)
  | 0 => []
  | k + 1 => forP l t k ++ (if (atL l k).to = t then [(k, atL l k)] else [])
theorem forP_map (l : List Lt) (t : Int) : ∀ k, (forP l t k).map (fun x => (x.1 : Int)) = forK l t k := by
  intro k
  induction k with
  | zero => rfl
  | succ k ih =>
    rw [forP, forK, List.map_append, ih]
    split <;> simp
theorem forP_len (l : List Lt) (t : Int) (k : Nat) : (forP l t k).length ≤ k := by
  have := for_len l t k
  rw [← forP_map, List.length_map] at this
  exact this
/-- What the iterator asks of a round that goes on: its two boxes and all below 'b0' lie as they lay. -/
def KpFor (b0 B1 B2 : Nat) (X Y : World) : Prop := ∀ k, k < b0 ∨ k = B1 ∨ k = B2 → Y.heap[k]? = X.heap[k]?
theorem KpFor.box {b0 B1 B2 B : Nat} {X Y : World} (h : KpFor b0 B1 B2 X Y) {t : TypeId} {v : Value} (hb : B = B1 ∨ B = B2) (hx : Boxed X B t v) : Boxed Y B t v := (h B (.inr hb)).trans hx
theorem KpFor.isLs {b0 B1 B2 : Nat} {X Y : World} (h : KpFor b0 B1 B2 X Y) {A : Option Addr} {n : Nat} {l : List Lt} (hA : 0 < n → ∀ b off, A = some ⟨b, off, none⟩ → b < b0) (hx : IsLs X A n l) : IsLs Y A n l := by
  obtain ⟨h1, h2, h3, h4⟩ := hx
  refine ⟨h1, h2, h3, fun hn => ?_⟩
  obtain ⟨b, off, rfl, hlt, hc⟩ := h4 hn
  have hb := h b (.inl (hA hn b off rfl))
  have hk : ∀ i, Y.cell? ⟨b, i, none⟩ = X.cell? ⟨b, i, none⟩ := fun i => by
    unfold World.cell?
    rw [show (⟨b, i, none⟩ : Addr).block = b from rfl, hb]
  refine ⟨b, off, rfl, ?_, fun i hi => by rw [hk, hk, hk]; exact hc i hi⟩
  have e := Array.getElem?_eq_getElem hlt
  rw [← hb] at e
  exact (Array.getElem?_eq_some_iff.1 e).1
theorem boxed_below {w W : World} {B : Nat} {t : TypeId} {v : Value} (h : Boxed w B t v) (hb : Below w.heap.size w W) : Boxed W B t v := (hb.block B h.lt).trans h

set_option maxRecDepth 100000 in
set_option maxHeartbeats 4000000 in
theorem lettersTo1_seq (n b0 B1 B2 : Nat) (l : List Lt) (t : Int) (A : Option Addr) (m cap : Nat) (w : World) (hb1 : Boxed w B1 23 (.slice A m cap)) (hb2 : Boxed w B2 3 (.int .i64 t)) (hls : IsLs w A m l) (hA : 0 < m → ∀ b off, A = some ⟨b, off, none⟩ → b < b0) (hm : m ≤ 9223372036854775806) :
    SeqSt n Try.prog 29 #[.pointer (some ⟨B1, 0, none⟩), .pointer (some ⟨B2, 0, none⟩)] (fun x : Nat × Lt => #[Value.int .i64 x.1, ltV x.2]) (fun X Y => Below X.heap.size X Y) (KpFor b0 B1 B2) (fun xs => xs = forP l t l.length) (fun _ => True)
      (fun pre x => ∃ k, k < l.length ∧ pre = forP l t k ∧ x = (k, atL l k) ∧ (atL l k).to = t) w := by
  intro lp J Jx W hW hJs _ hY h0
  have hb1' := boxed_below hb1 hW
  have hb2' := boxed_below hb2 hW
  have hls' := hls.below hW
  have c1 := hb1'.cell
  have HA := Lib.hid hA; clear hA
  have HML : Hid (m = l.length) := hls.1
  clear hb1 hb2 hls
  refine callsIn_of_wp Try.func29 rfl trivial ?_ rfl
  simp only [Try.ntmps29, List.size_toArray, List.length_cons, List.length_nil, Nat.reduceAdd, Nat.reduceSub, Array.replicate_succ, Array.replicate_zero, List.push_toArray, List.append_toArray, List.nil_append, List.cons_append]
  gi_wp2
  gi_loopw [8] (fun i wr => ∃ k : Nat, i = .int .i64 k ∧ k ≤ m ∧ Boxed wr B1 23 (.slice A m cap) ∧ Boxed wr B2 3 (.int .i64 t) ∧ IsLs wr A m l ∧ J (forP l t k) wr) (fun i _ => m - (intOf i).toNat)
  case atStart => exact ⟨0, rfl, Nat.zero_le _, hb1', hb2', hls', h0⟩
  case round =>
    obtain ⟨k, rfl, hk, h1, h2, h3, hJ⟩ := hrel
    clear hb1' hb2' hls' c1 h0
    by_cases hlt : k < m
    · have HK : Hid (k < l.length) := by have := HML.out; show k < l.length; omega
      obtain ⟨b, off, hAe, hb, hc⟩ := h3.2.2.2 (by omega)
      subst hAe
      obtain ⟨x0, x1, x2⟩ := hc k HK.out
      have hS : forP l t (k + 1) = forP l t k ++ (if (atL l k).to = t then [(k, atL l k)] else []) := rfl
      have hNx : (atL l k).to = t → ∃ k', k' < l.length ∧ forP l t k = forP l t k' ∧ (k, atL l k) = (k', atL l k') ∧ (atL l k').to = t := fun h => ⟨k, HK.out, rfl, rfl, h⟩
      have hm0 := LtBlk.new wr (atL l k)
      have hbw : Below wr.heap.size wr (wr.alloc (.cells #[.int .i64 (atL l k).frm, .int .i64 (atL l k).to, .string (atL l k).bytes] 25)) := (Below.refl _ _).alloc (Nat.le_refl _) _
      have hJ1 := hJs _ _ _ hJ hbw
      have HS := Lib.hid hS; clear hS
      have HNX := Lib.hid hNx; clear hNx
      obtain ⟨x, hx⟩ : ∃ x, atL l k = x := ⟨_, rfl⟩
      rw [hx] at x0 x1 x2 HS HNX hm0 hbw hJ1
      obtain ⟨W1, hW1⟩ : ∃ W, wr.alloc (.cells #[.int .i64 x.frm, .int .i64 x.to, .string x.bytes] 25) = W := ⟨_, rfl⟩
      rw [hW1] at hm0 hbw hJ1
      have h1' := boxed_below h1 hbw
      have h2' := boxed_below h2 hbw
      have h3' := Lib.hid (h3.below hbw)
      have H1 := Lib.hid h1'
      have H2 := Lib.hid h2'
      obtain ⟨z0, z1, z2⟩ := hm0.cells
      have ct := h2'.cell
      have HXW : Hid (LtWf x) := by rw [← hx]; exact h3.2.2.1.at HK.out
      have HX := Lib.hid hx
      clear hc hx h1 h2 h3 hbw hm0 h1' h2' hJ
      by_cases hz : x.to = t
      · have ez : (x.to == t) = true := by simpa using hz
        obtain ⟨fn, tmps, assign, body, hy, hR⟩ := hY (forP l t k) (k, x) W1 hJ1 (HNX.out hz)
        have HS2 : Hid (forP l t (k + 1) = forP l t k ++ [(k, x)]) := by show _ = _; rw [HS.out, if_pos hz]
        dsimp only at hy
        clear hz HS HNX
        gi_wp2
        refine ⟨fun h => (by cases h), hR.mono ?_⟩
        rintro e W3 (⟨rfl, hJ3, hk3⟩ | ⟨rfl, hJx3⟩)
        · have g1 := Lib.hid (hk3.box (.inl rfl) H1.out)
          have g2 := Lib.hid (hk3.box (.inr rfl) H2.out)
          have g3 := Lib.hid (hk3.isLs HA.out h3'.out)
          rw [← HS2.out] at hJ3
          gi_wp2
          go_roundw
          case rel => exact ⟨k + 1, by go_num, hlt, g1.out, g2.out, g3.out, hJ3⟩
          case measure => simp [intOf]; omega
        · gi_wp2
          refine bodyPost_ret (results_none rfl _ _ _) rfl ?_
          exact ⟨⟨_, rfl⟩, .inr ⟨_, trivial, hJx3⟩⟩
      · have ez : (x.to == t) = false := by simpa using hz
        have HS2 : Hid (forP l t (k + 1) = forP l t k) := by show _ = _; rw [HS.out, if_neg hz, List.append_nil]
        rw [← HS2.out] at hJ1
        clear hz HS HNX
        gi_wp2
        refine ⟨(by intro f hf; cases hf), ?_⟩
        gi_wp2
        go_roundw
        case rel => exact ⟨k + 1, by go_num, hlt, H1.out, H2.out, h3'.out, hJ1⟩
        case measure => simp [intOf]; omega
    · have hke : k = l.length := by have := HML.out; omega
      rw [hke] at hJ
      have hge : m ≤ k := by omega
      clear hke hlt
      gi_wp2
      go_end0
      exact ⟨⟨_, rfl⟩, .inl ⟨_, rfl, hJ⟩⟩

theorem lettersTo_any (n : Nat) (A : Option Addr) (m cap : Nat) (t : Int) (w : World) :
    CallsIn Fence.wide n Try.prog 27 #[.slice A m cap, .int .i64 t] w fun e w' => e = .returned (.func (.func 29) #[] #[.pointer (some ⟨w.heap.size, 0, none⟩), .pointer (some ⟨w.heap.size + 1, 0, none⟩)]) ∧ w' = (w.alloc (.cells #[.slice A m cap] 23)).alloc (.cells #[.int .i64 t] 3) := by
  refine callsIn_of_wp Try.func27 rfl trivial ?_ rfl
  simp only [Try.ntmps27, List.size_toArray, List.length_cons, List.length_nil, Nat.reduceAdd, Nat.reduceSub, Array.replicate_succ, Array.replicate_zero, List.push_toArray, List.append_toArray, List.nil_append, List.cons_append]
  gi_wp2
  go_ret
  exact ⟨rfl, rfl⟩

theorem own_base {w : World} {a b size n : Nat} {e : TypeId} {v : Value} {xs : List Value} (h : b ≤ a) (hr : w.ownsRow a e size v n xs) : w.ownsRow b e size v n xs := by
  refine ⟨hr.1, ?_⟩
  rcases hr.2 with h2 | ⟨g, cap, cur, h1, h2, h3⟩
  · exact .inl h2
  · exact .inr ⟨g, cap, cur, h1, Nat.le_trans h h2, h3⟩

set_option maxRecDepth 100000 in
set_option maxHeartbeats 4000000 in
theorem forC : ForQ := fun l t A n cap w ht hcap h h32 => by
  obtain ⟨i0, hi, hz0, hz1, hz2⟩ := info_parts infoI
  have hA : 0 < n → ∀ b off, A = some ⟨b, off, none⟩ → b < w.heap.size := fun hn b off e => by
    obtain ⟨b2, o2, e2, hlt, _⟩ := h.2.2.2 hn
    rw [e] at e2
    simp only [Option.some.injEq, Addr.mk.injEq, and_true] at e2
    omega
  have HN : Hid (n = l.length) := h.1
  refine (callsIn_wide (n := 9)).1 ?_
  refine callsIn_of_wp_marks Try.func22 rfl trivial ?_ rfl
  simp only [Try.ntmps22, List.size_toArray, List.length_cons, List.length_nil, Nat.reduceAdd, Nat.reduceSub, Array.replicate_succ, Array.replicate_zero, List.push_toArray, List.append_toArray, List.nil_append, List.cons_append]
  gi_wp2_with (refine ⟨trivial, ?_⟩; gi_at_call 27; refine (lettersTo_any _ _ _ _ _ _).mono ?_; rintro e w' ⟨rfl, rfl⟩)
  obtain ⟨B, hB⟩ : ∃ B, w.heap.size = B := ⟨_, rfl⟩
  rw [hB] at hA ⊢
  obtain ⟨W0, hW0⟩ : ∃ W0, ((w.alloc (.cells #[.slice none 0 0] 34)).alloc (.cells #[.slice A n cap] 23)).alloc (.cells #[.int .i64 t] 3) = W0 := ⟨_, rfl⟩
  have hsz : W0.heap.size = B + 3 := by rw [← hW0]; simp; omega
  have b1 : Boxed W0 B 34 (.slice none 0 0) := by rw [← hW0, ← hB]; exact ((Boxed.new w _ _).alloc _).alloc _
  have b2 : Boxed W0 (B + 1) 23 (.slice A n cap) := by rw [← hW0, ← hB]; have := ((Boxed.new (w.alloc (.cells #[.slice none 0 0] 34)) 23 (.slice A n cap)).alloc (.cells #[.int .i64 t] 3)); rwa [World.size_alloc] at this
  have b3 : Boxed W0 (B + 1 + 1) 3 (.int .i64 t) := by rw [← hW0, ← hB]; have := (Boxed.new ((w.alloc (.cells #[.slice none 0 0] 34)).alloc (.cells #[.slice A n cap] 23)) 3 (.int .i64 t)); rwa [World.size_alloc, World.size_alloc] at this
  have hBe : Below B w W0 := by rw [← hW0, ← hB]; exact (((Below.refl _ _).alloc (Nat.le_refl _) _).alloc (by simp) _).alloc (by simp; omega) _
  have hls0 : IsLs W0 A n l := h.below (by rw [hB]; exact hBe)
  have hA0 : 0 < n → ∀ b off, A = some ⟨b, off, none⟩ → b < B := hA
  rw [hW0]
  refine range_law (by decide) (gf := 29) (lb := #[.pointer (some ⟨B + 1, 0, none⟩), .pointer (some ⟨B + 1 + 1, 0, none⟩)]) rfl (enters_of Try.func29 (by kernel_rfl) rfl)
    (lettersTo1_seq _ B (B + 1) (B + 1 + 1) l t A n cap W0 b2 b3 hls0 hA0 (by omega)) ?hKt ?hKb ?hSt (fun _ => rfl)
    (fun pre W => (∃ v, Boxed W B 34 v ∧ W.ownsRow (B + 3) 3 1 v pre.length (pre.map fun x => Value.int .i64 x.1)) ∧ Boxed W (B + 1) 23 (.slice A n cap) ∧ Boxed W (B + 1 + 1) 3 (.int .i64 t) ∧ Below B w W)
    (fun _ _ _ => False) ?hI (fun _ _ _ _ _ h => h.elim) ?hIs (fun _ _ _ _ h => h.elim) ⟨⟨_, b1, World.ownsRow_nil _ _ _ _⟩, b2, b3, hBe⟩
    (fun x => { tmps := #[Value.slice A n cap, Value.int IntKind.i64 t, undef, undef, Value.slice none 0 0,
          Value.pointer (some { block := B, off := 0 }), Value.int IntKind.i64 x.1, Value.slice A n cap, Value.int IntKind.i64 t,
          Value.func (Fn.func 29) #[] #[Value.pointer (some { block := B + 1, off := 0 }), Value.pointer (some { block := B + 1 + 1, off := 0 })], Value.int IntKind.i64 x.1, ltV x.2,
          undef, undef, undef, undef, undef], defers := [] }) ?assign ?body ?done ?stop
  case assign =>
    intro lp x W K hK
    gi_wp2
    exact hK
  case hKt => intro X Y Z h1 h2 k hk; exact (h2 k hk).trans (h1 k hk)
  case hKb => intro W lp o' hl k hk; exact World.putObj_heap_other (by omega)
  case hSt => intro X Y hb; exact ⟨hb.size, fun k o _ hk _ => (hb.block k (Array.getElem?_eq_some_iff.1 hk).1).trans hk⟩
  case hIs =>
    rintro s X Y ⟨⟨v, hv, hrow⟩, h1, h2, hBw⟩ hb
    exact ⟨⟨v, boxed_below hv hb, ownsI_below hrow hb⟩, boxed_below h1 hb, boxed_below h2 hb, by rw [← hB] at hBw ⊢; exact bch hBw hb⟩
  case hI =>
    have hh := Own.from (holdsRow_own (B + 3) B 34 3 1 (fun pre : List (Nat × Lt) => pre.length) (fun pre => pre.map fun x => Value.int .i64 x.1) (fun _ _ => True)) W0.heap.size
    refine OwnFrom.and ?_ (OwnFrom.and (Own.from (boxed_own (B + 1) 23 (fun _ => Value.slice A n cap)) _) (OwnFrom.and (Own.from (boxed_own (B + 1 + 1) 3 (fun _ => Value.int .i64 t)) _) (ownFrom_below (by omega) (by omega))))
    rintro s X Y row ⟨v, h1, h2⟩ hg hr
    obtain ⟨v', h1', h2', _⟩ := hh s X Y row ⟨v, h1, h2, trivial⟩ hg hr
    exact ⟨v', h1', h2'⟩
  case body =>
    rintro lp pre x W ⟨⟨v, hv, hrow⟩, h1, h2, hBw⟩ ⟨k, hk, hpre, rfl, -⟩
    have hlen := forP_len l t k
    rw [← hpre] at hlen
    have hc := hv.cell
    have hB3 : B + 3 ≤ W.heap.size := by
      have := h2.lt
      omega
    have HLN : Hid (pre.length + 1 ≤ n) := by have := HN.out; show pre.length + 1 ≤ n; omega
    have HB3 := Lib.hid hB3
    clear hlen hpre hB3
    gi_wp2_with (gi_at_builtin; go_loud (refine wpListIn_append_own _ rfl _ _ 34 rfl (B + 3) 3 i0 (.int .i64 0) 1 8 Try.underlying34 hi hz0 hz1 hz2 rfl (by decide) _ _ _ rfl (hrow.alloc _) ⟨W.heap.size, 0, none⟩ 1 1 [.int .i64 k] rfl rfl (Go.cell_one_new _ _ _) (by simp [Value.oneCell']) (by have := HLN.out; unfold maxLen; omega) (by have := HLN.out; omega) (by have := HB3.out; simp; omega) ?_; intro v' w2 hown' hgrow' _; obtain ⟨g', cap', rfl⟩ := ownsRow_succ hown'; obtain ⟨hv1, hv2, hr2, hk2, hb2⟩ := hv.appended (n₀ := B) (by decide) (own_base (Nat.le_add_right B 3) hrow) (by have := HB3.out; omega) (Nat.le_refl _) (own_base (Nat.le_add_right B 3) hown') hgrow'; have hc1 := hv1.cell; have hf1 := hv1.frozen))
    have n2 : some (B + 1 + 1) ≠ v.ownBlock := fun e => by have := (hrow.lt _ e.symm).1; omega
    have hu1 : Boxed (w2.setCell ⟨B, 0, none⟩ (.slice (some ⟨g', 0, none⟩) (pre.length + 1) cap')) (B + 1) 23 (.slice A n cap) := (((h1.alloc _).kept hgrow' (h1.not_row (by decide) hrow)).other (by omega) _)
    have hu2 : Boxed (w2.setCell ⟨B, 0, none⟩ (.slice (some ⟨g', 0, none⟩) (pre.length + 1) cap')) (B + 1 + 1) 3 (.int .i64 t) := (((h2.alloc _).kept hgrow' n2).other (by omega) _)
    have hr3 := hown'.kept (grownBy_setCell' w2 B (.slice (some ⟨g', 0, none⟩) (pre.length + 1) cap')) (.inr (hv1.not_row (by decide) hown').symm)
    refine ⟨hk2.from _, ?_, ⟨_, hv2, by simpa using hr3⟩, hu1, hu2, by have := hBw; rw [← hB] at this hb2 ⊢; exact this.trans hb2⟩
    rintro k (h | rfl | rfl)
    · exact hb2.block k h
    · exact Eq.trans hu1 (Eq.symm h1)
    · exact Eq.trans hu2 (Eq.symm h2)
  case done =>
    rintro D ys W hD rfl ⟨⟨v, hv, hrow⟩, h1, h2, hBw⟩ hK
    have hc := hv.cell
    have hrow2 : RowI W B v (forL l t) := by
      have h := own_base (Nat.le_add_right B 3) hrow
      unfold RowI cellsI forL
      rw [← forP_map, List.length_map, List.map_map]
      exact h
    have hwf : IntsWf (forL l t) := fun z hz => by have := for_bound l t l.length z hz; exact wf_within (by omega) (by have := HN.out; omega)
    obtain ⟨Av, cv, hv2, hcv, hnv⟩ := hrow2.isNs hwf
    subst hv2
    have hgp : W.grownBy (W.putObj D (.deferred none)) (some D) := grownBy_putObj' W D _
    have hnv2 : IsNs (W.putObj D (.deferred none)) Av (forL l t).length (forL l t) := hnv.kept hgp (fun hn b off e => by
      intro e2
      obtain ⟨b2, o2, e3, hl3, hc3⟩ := hnv.2.2.2 hn
      rw [e] at e3
      simp only [Option.some.injEq, Addr.mk.injEq, and_true] at e3
      obtain ⟨rfl, rfl⟩ := e3
      simp only [Option.some.injEq] at e2
      subst e2
      have := hc3 0 hn
      unfold World.cell? at this
      rw [show (⟨b, off + 0, none⟩ : Addr).block = b from rfl, hK] at this
      simp at this)
    have HNV := Lib.hid hnv2
    have HNW := Lib.hid hrow2.new
    have HBF : Hid (Below B w (W.putObj D (.deferred none))) := hBw.trans (belowK_b (w := W0) (by omega) W D _ _ hD hK rfl rfl)
    clear hnv hnv2 hrow hrow2 hgp
    gi_wp2
    refine ⟨by simp, .inl ⟨_, _, rfl, run_takeDeferred hK, ?_⟩⟩
    exact ⟨_, results_tmp rfl _ _ _, ⟨Av, _, cv, rfl, hcv, HNV.out, by rw [hB]; exact HNW.out, by rw [hB]; exact HBF.out⟩⟩
  case stop =>
    rintro D c pre W _ _ h _
    exact h.elim
end Go.Proofs.Ytljjbpgbddaekaa
