import Derived.Test.YtkcmjhpbjgjebaaOpen
import Derived.Test.YtkcmjhpbjgjebaaDecode
/-
  The contract of the law's own helper 'Fields': at most twenty fields that may be, in new memory.
-/
namespace Go.Proofs.Ytkcmjhpbjgjebaa
open Go.RowKit

theorem tg_snoc_lt (fs : List Fld) (x : Fld) {i : Nat} (h : i < fs.length) : tg (fs ++ [x]) i = tg fs i := by
  unfold tg; rw [List.getD_eq_getElem?_getD, List.getD_eq_getElem?_getD, List.getElem?_append_left h]
theorem dt_snoc_lt (fs : List Fld) (x : Fld) {i : Nat} (h : i < fs.length) : dt (fs ++ [x]) i = dt fs i := by
  unfold dt; rw [List.getD_eq_getElem?_getD, List.getD_eq_getElem?_getD, List.getElem?_append_left h]
theorem tg_snoc (fs : List Fld) (x : Fld) : tg (fs ++ [x]) fs.length = x.1 := by
  unfold tg; rw [List.getD_eq_getElem?_getD, List.getElem?_append_right (Nat.le_refl _), Nat.sub_self]; rfl
theorem dt_snoc (fs : List Fld) (x : Fld) : dt (fs ++ [x]) fs.length = x.2 := by
  unfold dt; rw [List.getD_eq_getElem?_getD, List.getElem?_append_right (Nat.le_refl _), Nat.sub_self]; rfl
theorem hd_snoc_le (fs : List Fld) (x : Fld) {i : Nat} (h : i ≤ fs.length) : hd (fs ++ [x]) i = hd fs i := by
  unfold hd
  by_cases h0 : i = 0
  · rw [if_pos h0, if_pos h0]
  · rw [if_neg h0, if_neg h0, tg_snoc_lt _ _ (by omega)]

/-- What Fields makes: at most twenty, rising tags, short texts. -/
def Nice (fs : List Fld) : Prop := fs.length ≤ 20 ∧ ∀ i, i < fs.length → hd fs i < tg fs i ∧ tg fs i ≤ 200 * ((i : Int) + 1) ∧ (dt fs i).size ≤ 300
theorem Nice.nil : Nice [] := ⟨by simp, fun i h => by simp at h⟩
theorem Nice.snoc {fs : List Fld} {x : Fld} (h : Nice fs) (h20 : fs.length < 20) (h1 : hd fs fs.length < x.1) (h2 : x.1 ≤ 200 * ((fs.length : Int) + 1)) (h3 : x.2.size ≤ 300) : Nice (fs ++ [x]) := by
  refine ⟨by simp; omega, fun i hi => ?_⟩
  simp only [List.length_append, List.length_singleton] at hi
  rcases Nat.lt_or_ge i fs.length with hl | hl
  · rw [hd_snoc_le _ _ (by omega), tg_snoc_lt _ _ hl, dt_snoc_lt _ _ hl]; exact h.2 i hl
  · obtain rfl : i = fs.length := by omega
    rw [hd_snoc_le _ _ (Nat.le_refl _), tg_snoc, dt_snoc]
    exact ⟨h1, h2, h3⟩
theorem Nice.ok {fs : List Fld} (h : Nice fs) {i : Nat} (hi : i < fs.length) : okAt fs i = true := by
  have := h.2 i hi
  have := h.1
  exact okAt_iff.2 (by omega)
theorem Nice.right {fs : List Fld} (h : Nice fs) : rightB fs = true := rightB_yes (by have := h.1; omega) fun i hi => h.ok hi
theorem Nice.hd_le {fs : List Fld} (h : Nice fs) {i : Nat} (hi : i ≤ fs.length) : 0 ≤ hd fs i ∧ hd fs i ≤ 200 * (i : Int) := by
  rcases Nat.eq_zero_or_pos i with rfl | hp
  · rw [hd_zero]; omega
  · obtain ⟨q, rfl⟩ : ∃ q, i = q + 1 := ⟨i - 1, by omega⟩
    have h1 := hd_nonneg (q + 1) hi (fun j hj => h.ok (by omega))
    have h2 := h.2 q (by omega)
    rw [hd_succ] at *
    omega
theorem Nice.wf {fs : List Fld} (h : Nice fs) : FsWf fs := by
  intro f hf
  obtain ⟨i, hi, rfl⟩ := List.mem_iff_getElem.1 hf
  have h1 := h.2 i hi
  have h2 := h.hd_le (Nat.le_of_lt hi)
  have h3 := h.1
  rw [tg_at hi, dt_at hi] at h1
  refine ⟨?_, by omega⟩
  have := wf_of (t := (fs[i].1).toNat) (by omega)
  rwa [Int.toNat_of_nonneg (by omega)] at this
theorem Nice.len {fs : List Fld} (h : Nice fs) : ∀ i, i ≤ fs.length → (encL (fs.take i)).length ≤ 305 * i := by
  intro i
  induction i with
  | zero => intro _; simp [encL]
  | succ i ih =>
    intro h1
    have h4 := h.2 i (by omega)
    have h5 := ih (by omega)
    have h20 := h.1
    rw [List.take_succ_eq_append_getElem (by omega), encL_append, List.length_append]
    rw [tg_at (by omega), dt_at (by omega)] at h4
    have h6 := enc1_len (f := fs[i]) (by omega) (by omega)
    have h8 : encL [fs[i]] = enc1 fs[i] := by simp [encL]
    rw [h8]; omega
theorem Nice.enc {fs : List Fld} (h : Nice fs) : (encL fs).length ≤ 6100 := by
  have := h.len fs.length (Nat.le_refl _)
  rw [List.take_of_length_le (Nat.le_refl _)] at this
  have := h.1
  omega
theorem nice_encR {fs : List Fld} (h : Nice fs) : encR fs = (encL fs, 0) := by
  have := h.enc
  unfold encR; rw [h.right, if_pos rfl, if_pos (by omega)]

/-- What Fields leaves. -/
def FieldsPost (w : World) (e : Ending) (w' : World) : Prop :=
  ∃ A n cap fs, e = .returned (.slice A n cap) ∧ n ≤ cap ∧ cap ≤ 9223372036854775807 ∧ IsFs w' A n fs ∧ Nice fs ∧ Below w.heap.size w w'

theorem isFs_own2 {w : World} {base n : Nat} {v : Value} {fs : List Fld} (h : w.ownsRow base 44 2 v n (cellsF fs)) (hwf : FsWf fs) :
    ∃ A cap, v = .slice A n cap ∧ n ≤ cap ∧ cap ≤ 9223372036854775807 ∧ IsFs w A n fs := by
  obtain ⟨A, cap, rfl, h1, h2⟩ := isFs_own h hwf
  refine ⟨A, cap, rfl, h1, ?_, h2⟩
  rcases h.2 with ⟨h3, h4⟩ | ⟨g, cap', cur, h3, _, _, _, h4, _⟩
  · injection h3 with _ _ h3; omega
  · injection h3 with _ _ h3; unfold maxLen at h4; omega

/-- .. and that it is the call's own row. -/
def FieldsOwn (w : World) (e : Ending) (w' : World) : Prop :=
  ∃ A n cap fs, e = .returned (.slice A n cap) ∧ n ≤ cap ∧ cap ≤ 9223372036854775807 ∧ IsFs w' A n fs ∧ Nice fs ∧ Below w.heap.size w w' ∧ w'.ownsRow w.heap.size 44 2 (.slice A n cap) fs.length (cellsF fs)

set_option maxRecDepth 100000 in
set_option maxHeartbeats 4000000 in
theorem fields_own (A : Option Addr) (n cap : Nat) (f : Nat → Nat → Int) (B : Option Addr) (m cap2 : Nat) (g : Nat → ByteArray) (w : World) (h : IsRaw w A n 2 f) (h2 : IsStrs w B m g) :
    Calls Try.prog 21 #[.slice A n cap, .slice B m cap2] w (FieldsOwn w) := by
  obtain ⟨hm, hc⟩ := h
  obtain ⟨hm2, hc2⟩ := h2
  have HC := Lib.hid hc; clear hc
  have HC2 := Lib.hid hc2; clear hc2
  obtain ⟨i0, hi, hz0, hz1, hz2⟩ := info_parts infoFld
  go_enter Try.func21, Try.ntmps21
  go_wp2_with fail
  go_loopw [5, 6, 7] (fun l t i wr => ∃ (pre : List Fld), pre.length ≤ n ∧ Nice pre ∧ i = .int .i64 pre.length ∧ t = .int .i64 (hd pre pre.length) ∧ wr.ownsRow w.heap.size 44 2 l pre.length (cellsF pre) ∧ Below w.heap.size w wr) (fun _ _ i _ => 20 - (intOf i).toNat)
  case atStart => exact ⟨[], by simp, Nice.nil, rfl, rfl, World.ownsRow_nil _ _ _ _, Below.refl _ _⟩
  case round =>
    obtain ⟨pre, hpn, hni, rfl, rfl, hown, hbw⟩ := hrel
    obtain ⟨A1, cap1, hv, hcap, hcm, hfs⟩ := isFs_own2 hown hni.wf
    subst hv
    by_cases hlt : pre.length < n
    · by_cases h20 : pre.length < 20
      · obtain ⟨b, off, hA, hb, hat⟩ := HC.out (by omega)
        subst hA
        obtain ⟨c1, wf1⟩ := hat pre.length 0 hlt (by omega)
        obtain ⟨c2, wf2⟩ := hat pre.length 1 hlt (by omega)
        have hle := hbw.size
        have hc1 := (hbw.cell (p := ⟨b, off + pre.length * 2 + 0, none⟩) hb).trans c1
        have hc2 := (hbw.cell (p := ⟨b, off + pre.length * 2 + 1, none⟩) hb).trans c2
        rw [Nat.add_zero] at hc1
        clear hat c1 c2
        have hhd := hni.hd_le (Nat.le_refl _)
        have p1 := pick_any (f pre.length 0) 200 (by omega) (by omega) (bounds_i64 wf1).1 (bounds_i64 wf1).2
        have q1 := pickZ_lo (f pre.length 0) 200 (by omega)
        have q2 := pickZ_hi (f pre.length 0) 200 (by omega)
        have hcell2 := cell_two_new
        have HHD := Lib.hid hhd
        generalize pickZ (f pre.length 0) 200 = z at p1 q1 q2
        by_cases hm0 : 0 < m
        · obtain ⟨b2, off2, hA2, hb2, hat2⟩ := HC2.out hm0
          subst hA2
          have p2 := pick_nat (f pre.length 1) m (by omega) (by omega) wf2
          have q3 := pickN_lt (f pre.length 1) m (by omega)
          generalize pickN (f pre.length 1) m = y at p2 q3
          obtain ⟨c3, hsz3⟩ := hat2 y (by omega)
          have hc3 := (hbw.cell (p := ⟨b2, off2 + y, none⟩) hb2).trans c3
          clear hat2 c3
          generalize g y = T at hc3 hsz3
          have hmin0 : 0 ≤ min (T.size : Int) 300 := by omega
          have hmin1 : min (T.size : Int) 300 ≤ (T.size : Int) := by omega
          have HN : Hid (Nice (pre ++ [(hd pre pre.length + 1 + z, T.extract 0 (min (T.size : Int) 300).toNat)])) := hni.snoc h20 (by show _ < hd pre pre.length + 1 + z; omega) (by show hd pre pre.length + 1 + z ≤ _; omega) (by show (T.extract 0 (min (T.size : Int) 300).toNat).size ≤ 300; rw [ByteArray.size_extract]; omega)
          have hown1 : (wr.alloc (.cells #[.int .i64 (hd pre pre.length + 1 + z), .string (T.extract 0 (min (T.size : Int) 300).toNat)] 44)).ownsRow w.heap.size 44 2 (.slice A1 pre.length cap1) pre.length (cellsF pre) := hown.alloc _
          generalize hh : hd pre pre.length = q at *
          have HQ := Lib.hid hh; clear hh
          go_wp2_with fail
          refine (p1 _).mono ?_; rintro e V1 ⟨rfl, rfl⟩
          go_wp2_with fail
          refine (p2 _).mono ?_; rintro e V1 ⟨rfl, rfl⟩
          go_wp2_with (at_builtin; refine wpList_append_own_at _ rfl _ _ 22 rfl w.heap.size 44 i0 (.agg #[.int .i64 0, .string ⟨#[]⟩]) 2 24 Try.underlying22 hi hz0 hz1 hz2 rfl (by decide) _ _ _ rfl hown1 ⟨wr.heap.size, 0, none⟩ 1 1 [.int .i64 (q + 1 + z), .string (T.extract 0 (min (T.size : Int) 300).toNat)] rfl rfl ?c1 ?c2 ?c3 ?c4 ?c5 ?_)
          case c1 => exact cell_two_new wr (.int .i64 (q + 1 + z)) (.string _) 44
          case c2 => intro u hu; simp at hu; rcases hu with rfl | rfl <;> rfl
          case c3 => unfold maxLen; omega
          case c4 => omega
          case c5 => simp; omega
          intro v' V2 hown2 hgrow _ hat
          go_wp2_with fail
          go_roundw
          case rel =>
            refine ⟨pre ++ [(q + 1 + z, T.extract 0 (min (T.size : Int) 300).toNat)], by simp; omega, HN.out, by simp, ?_, ?_, (hbw.alloc (by omega) _).grown hgrow (by simp; omega) (fun g hg => (hown1.lt g hg).1)⟩
            · rw [List.length_append, List.length_singleton, hd_succ, tg_snoc]
            · rw [cellsF_append, List.length_append]; exact hown2
          case measure => simp [intOf]; omega
        · have HN : Hid (Nice (pre ++ [(hd pre pre.length + 1 + z, ByteArray.empty)])) := hni.snoc h20 (by show _ < hd pre pre.length + 1 + z; omega) (by show hd pre pre.length + 1 + z ≤ _; omega) (by show ByteArray.empty.size ≤ _; decide)
          have hm0' : m = 0 := by omega
          subst hm0'
          have hown1 : (wr.alloc (.cells #[.int .i64 (hd pre pre.length + 1 + z), .string ByteArray.empty] 44)).ownsRow w.heap.size 44 2 (.slice A1 pre.length cap1) pre.length (cellsF pre) := hown.alloc _
          generalize hh : hd pre pre.length = q at *
          have HQ := Lib.hid hh; clear hh
          go_wp2_with fail
          refine (p1 _).mono ?_; rintro e V1 ⟨rfl, rfl⟩
          go_wp2_with (at_builtin; refine wpList_append_own_at _ rfl _ _ 22 rfl w.heap.size 44 i0 (.agg #[.int .i64 0, .string ⟨#[]⟩]) 2 24 Try.underlying22 hi hz0 hz1 hz2 rfl (by decide) _ _ _ rfl hown1 ⟨wr.heap.size, 0, none⟩ 1 1 [.int .i64 (q + 1 + z), .string ByteArray.empty] rfl rfl ?c6 ?c7 ?c8 ?c9 ?c10 ?_)
          case c6 => exact cell_two_new wr (.int .i64 (q + 1 + z)) (.string ByteArray.empty) 44
          case c7 => intro u hu; simp at hu; rcases hu with rfl | rfl <;> rfl
          case c8 => unfold maxLen; omega
          case c9 => omega
          case c10 => simp; omega
          intro v' V2 hown2 hgrow _ hat
          go_wp2_with fail
          go_roundw
          case rel =>
            refine ⟨pre ++ [(q + 1 + z, ByteArray.empty)], by simp; omega, HN.out, by simp, ?_, ?_, (hbw.alloc (by omega) _).grown hgrow (by simp; omega) (fun g hg => (hown1.lt g hg).1)⟩
            · rw [List.length_append, List.length_singleton, hd_succ, tg_snoc]
            · rw [cellsF_append, List.length_append]; exact hown2
          case measure => simp [intOf]; omega
      · go_wp2_with fail
        go_ret
        exact ⟨A1, _, cap1, pre, rfl, hcap, hcm, hfs, hni, hbw, hown⟩
    · go_wp2_with fail
      go_ret
      exact ⟨A1, _, cap1, pre, rfl, hcap, hcm, hfs, hni, hbw, hown⟩
theorem fields_any (A : Option Addr) (n cap : Nat) (f : Nat → Nat → Int) (B : Option Addr) (m cap2 : Nat) (g : Nat → ByteArray) (w : World) (h : IsRaw w A n 2 f) (h2 : IsStrs w B m g) :
    Calls Try.prog 21 #[.slice A n cap, .slice B m cap2] w (FieldsPost w) :=
  (fields_own A n cap f B m cap2 g w h h2).mono fun _ _ ⟨A1, n1, cap1, fs, h1, h2, h3, h4, h5, h6, _⟩ => ⟨A1, n1, cap1, fs, h1, h2, h3, h4, h5, h6⟩
end Go.Proofs.Ytkcmjhpbjgjebaa
