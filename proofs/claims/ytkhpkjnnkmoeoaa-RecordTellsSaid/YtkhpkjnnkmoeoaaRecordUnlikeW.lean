/-
  The walk of the law RecordUnlike.
-/
import Derived.Test.YtkhpkjnnkmoeoaaRecLaw
import Derived.Deep.DeepCutAuto
namespace Go.Proofs.Ytkhpkjnnkmoeoaa
open Go.RowKit
set_option linter.unusedVariables false
set_option linter.unusedSimpArgs false

theorem tg_drop (fs : List Fld) (i k : Nat) : tg (fs.drop k) i = tg fs (k + i) := by
  unfold tg; rw [List.getD_eq_getElem?_getD, List.getD_eq_getElem?_getD, List.getElem?_drop]
theorem dt_drop (fs : List Fld) (i k : Nat) : dt (fs.drop k) i = dt fs (k + i) := by
  unfold dt; rw [List.getD_eq_getElem?_getD, List.getD_eq_getElem?_getD, List.getElem?_drop]
theorem slice_fs_from {w : World} {A : Option Addr} {n cap : Nat} {fs : List Fld} (h : IsFs w A n fs) {k : Nat} (hk : k ≤ n) (hc : n ≤ cap) :
    ∃ A', (∀ W, (Instr.slice 22 (.slice A n cap) (some (.int .i64 (k : Int))) none none).run Try.prog W = .ok (.slice A' (n - k) (cap - k)) W) ∧ IsFs w A' (n - k) (fs.drop k) := by
  obtain ⟨h1, h2, h3, h4⟩ := h
  refine ⟨if cap = k then A else A.map (·.add (k * 2)), fun W => ?_, by rw [List.length_drop]; omega, by omega, fun f hf => h3 f (List.mem_of_mem_drop hf), fun hp => ?_⟩
  · rw [run_slice_l W 22 A n cap Try.underlying22 .i64 (k : Int) (by omega) (by omega), show Try.prog.elem 22 = 46 from by kernel_rfl, Try.sizeOf46]
    rfl
  · rw [if_neg (by omega)]
    obtain ⟨b, off, rfl, hb, hat⟩ := h4 (by omega)
    rcases Nat.eq_zero_or_pos k with rfl | hk0
    · refine ⟨b, off, rfl, hb, fun i hi => ?_⟩
      rw [List.length_drop] at hi
      rw [tg_drop, dt_drop, Nat.zero_add]
      exact hat i (by omega)
    · refine ⟨b, off + k * 2, by simp [Addr.add]; omega, hb, fun i hi => ?_⟩
      rw [List.length_drop] at hi
      rw [tg_drop, dt_drop]
      have := hat (k + i) (by omega)
      rw [show off + (k + i) * 2 = off + k * 2 + i * 2 by omega] at this
      exact this
theorem chain_drop1 {v : Int} {E : List Fld} (h : chain (topT v) E) : chain (topT v) (E.drop 1) := by
  cases E with
  | nil => trivial
  | cons f E =>
    simp only [chain] at h
    exact chain_mono h.2 (by omega)
theorem nice_drop {v : Int} {r : Rcd} (h : RecNice v r) : RecNice v { r with extra := r.extra.drop 1 } := by
  obtain ⟨⟨hv, h1, h2, h3, h4, h5⟩, h6, h7⟩ := h
  obtain ⟨e1, e2, e3⟩ := extraB_iff.1 h5
  have hc := chain_drop1 (chain_up e1 e3)
  have hl : (r.extra.drop 1).length ≤ 6 := by rw [List.length_drop]; omega
  refine ⟨⟨hv, h1, h2, h3, h4, (right_extra hc (by omega)).2 (Nat.le_trans (few_le _) (by omega))⟩, hl, fun f hf => h7 f (List.mem_of_mem_drop hf)⟩
theorem nice_rev {v : Int} {r : Rcd} (h : RecNice v r) (z : Nat) (hz : (z : Int) < 400) : RecNice v { r with rev := (z : Int) } := by
  obtain ⟨⟨hv, h1, h2, h3, h4, h5⟩, h6, h7⟩ := h
  exact ⟨⟨hv, h1, h2, by show 0 ≤ (z : Int) ∧ (z : Int) ≤ _; omega, h4, h5⟩, h6, h7⟩
theorem unlike_bytes {v : Int} {a b : Rcd} (ha : RecNice v a) (hb : RecNice v b) : ((bs (encL (fieldsR a))).toList == (bs (encL (fieldsR b))).toList) = sameR a b := by
  rw [Bool.eq_iff_iff, sameR_iff, beq_iff_eq, bs_toList, bs_toList]
  constructor
  · intro h
    have h1 := ha.recD
    rw [h, hb.recD] at h1
    have := congrArg Prod.fst h1
    exact this.symm
  · rintro rfl; rfl

/-- Six cells of a record's block written anew. -/
def set6 (w : World) (B : Nat) (r : Rcd) (x : Value) : World := ((((((w.setCell ⟨B, 0, none⟩ (.string r.key)).setCell ⟨B, 1, none⟩ (.string r.value)).setCell ⟨B, 2, none⟩ (.int .i64 r.rev)).setCell ⟨B, 3, none⟩ (.int .i64 r.life)).setCell ⟨B, 4, none⟩ (.string r.note)).setCell ⟨B, 5, none⟩ x)
theorem set6_rc {w : World} {B : Nat} {r0 : Rcd} {x0 : Value} (h : RcBlk w B r0 x0) (r : Rcd) (x : Value) : RcBlk (set6 w B r x) B r x := by
  have h0 := heap_setCell_same w B 0 _ _ (.string r.key) h
  have h1 := heap_setCell_same _ B 1 _ _ (.string r.value) h0
  have h2 := heap_setCell_same _ B 2 _ _ (.int .i64 r.rev) h1
  have h3 := heap_setCell_same _ B 3 _ _ (.int .i64 r.life) h2
  have h4 := heap_setCell_same _ B 4 _ _ (.string r.note) h3
  exact heap_setCell_same _ B 5 _ _ x h4
theorem set6_below {a w : World} {B : Nat} (h : Below B a w) (r : Rcd) (x : Value) : Below B a (set6 w B r x) := below_set6 h _ _ _ _ _ _
/-- A Bool that is true only where there is something. -/
def CutB (n : Nat) (w wx : World) (s : Value) : Prop := ∃ b : Bool, s = .bool b ∧ (b = true → 0 < n) ∧ w = wx
/-- The second record, as it may have become. -/
def SecondR (j : Int) (w3 wx : World) (s : Value) : Prop :=
  s = .pointer (some ⟨w3.heap.size, 0, none⟩) ∧ ∃ rb Ab nb capb, RcBlk wx w3.heap.size rb (.slice Ab nb capb) ∧ nb ≤ capb ∧ IsFs w3 Ab nb rb.extra ∧ RecNice j rb ∧ Below w3.heap.size w3 wx

set_option maxRecDepth 100000 in
set_option maxHeartbeats 8000000 in
theorem recordUnlike_walk (x0 x1 x2 x3 x4 u0 u1 u2 u3 u4 : Int) (A : Option Addr) (n cap : Nat) (f : Nat → Nat → Int) (B : Option Addr) (m cap2 : Nat) (g : Nat → ByteArray) (which : Int) (w : World) (h0 : (Lit.int .i64 x0).wf = true) (h1 : (Lit.int .i64 x1).wf = true) (h2 : (Lit.int .i64 x2).wf = true) (h3 : (Lit.int .i64 x3).wf = true) (h4 : (Lit.int .i64 x4).wf = true) (t0 : (Lit.int .i64 u0).wf = true) (t1 : (Lit.int .i64 u1).wf = true) (t2 : (Lit.int .i64 u2).wf = true) (t3 : (Lit.int .i64 u3).wf = true) (t4 : (Lit.int .i64 u4).wf = true) (hra : IsRaw w A n 2 f) (hst : IsStrs w B m g) (hwh : (Lit.int .i64 which).wf = true) :
    Calls Try.prog 7 #[.agg #[.int .i64 x0, .int .i64 x1, .int .i64 x2, .int .i64 x3, .int .i64 x4], .agg #[.int .i64 u0, .int .i64 u1, .int .i64 u2, .int .i64 u3, .int .i64 u4], .slice A n cap, .slice B m cap2, .int .i64 which] w fun e w' => e = .returned (.bool true) ∧ Below w.heap.size w w' := by
  have hb0 : Below w.heap.size w ((w.alloc (.cells #[.int .i64 x0, .int .i64 x1, .int .i64 x2, .int .i64 x3, .int .i64 x4] 25)).alloc (.cells #[.int .i64 u0, .int .i64 u1, .int .i64 u2, .int .i64 u3, .int .i64 u4] 25)) := ((Below.refl _ _).alloc (Nat.le_refl _) _).alloc (by simp) _
  have harr : Arr5 ((w.alloc (.cells #[.int .i64 x0, .int .i64 x1, .int .i64 x2, .int .i64 x3, .int .i64 x4] 25)).alloc (.cells #[.int .i64 u0, .int .i64 u1, .int .i64 u2, .int .i64 u3, .int .i64 u4] 25)) w.heap.size x0 x1 x2 x3 x4 := Arr5.alloc (show Arr5 (w.alloc (.cells #[.int .i64 x0, .int .i64 x1, .int .i64 x2, .int .i64 x3, .int .i64 x4] 25)) w.heap.size x0 x1 x2 x3 x4 from World.alloc_heap_new w _) _
  have harr2 : Arr5 ((w.alloc (.cells #[.int .i64 x0, .int .i64 x1, .int .i64 x2, .int .i64 x3, .int .i64 x4] 25)).alloc (.cells #[.int .i64 u0, .int .i64 u1, .int .i64 u2, .int .i64 u3, .int .i64 u4] 25)) (w.heap.size + 1) u0 u1 u2 u3 u4 := by
    have hx := World.alloc_heap_new (w.alloc (.cells #[.int .i64 x0, .int .i64 x1, .int .i64 x2, .int .i64 x3, .int .i64 x4] 25)) (.cells #[.int .i64 u0, .int .i64 u1, .int .i64 u2, .int .i64 u3, .int .i64 u4] 25)
    rw [show (w.alloc (.cells #[.int .i64 x0, .int .i64 x1, .int .i64 x2, .int .i64 x3, .int .i64 x4] 25)).heap.size = w.heap.size + 1 from by simp] at hx
    exact hx
  go_enter Try.func7, Try.ntmps7
  go_wp2_with fail
  ((with_reducible refine (awake3_any _).mono ?_); rintro e w1 ⟨rfl, b1⟩)
  have ha1 := harr.below b1
  have ha2 := harr2.below b1
  have hb1 := bch hb0 b1
  clear harr harr2 hb0 b1
  go_wp2_with fail
  go_loopw [12] (fun i wr => ∃ j : Nat, 1 ≤ j ∧ j ≤ 3 ∧ i = .int .i64 j ∧ Arr5 wr w.heap.size x0 x1 x2 x3 x4 ∧ Arr5 wr (w.heap.size + 1) u0 u1 u2 u3 u4 ∧ Below w.heap.size w wr) (fun i _ => 3 - (intOf i).toNat)
  case atStart => exact ⟨1, by omega, by omega, rfl, ha1, ha2, hb1⟩
  case round =>
    clear ha1 ha2 hb1
    obtain ⟨j, hj1, hj3, rfl, harr, harr2, hbw⟩ := hrel
    by_cases hlt : j ≤ 2
    · have hv : (j : Int) = 1 ∨ (j : Int) = 2 := by omega
      have p1 := record_any (j : Int) hv x0 x1 x2 x3 x4 h0 h1 h2 h3 h4 A n cap f B m cap2 g wr (hra.below hbw) (hst.below hbw)
      obtain ⟨c0, c1, c2, c3, c4⟩ := harr.cells
      have HA := Lib.hid harr
      have HA2 := Lib.hid harr2
      clear harr harr2
      go_wp2_with fail
      ((with_reducible refine p1.mono ?_); rintro e w2 ⟨A1, n1, cap1, ra, rfl, hc1, hf1, hN, b2⟩)
      clear p1 c0 c1 c2 c3 c4
      have bb2 : Below w2.heap.size w2 (w2.alloc (.cells #[.string ra.key, .string ra.value, .int .i64 ra.rev, .int .i64 ra.life, .string ra.note, .slice A1 n1 cap1] 24)) := (Below.refl _ _).alloc (Nat.le_refl _) _
      have ha2 := (HA.out.below b2).below bb2
      have ha2' := (HA2.out.below b2).below bb2
      have hr2 := rcBlk_mk w2 ra (.slice A1 n1 cap1)
      have hf2 := hf1.below bb2
      have hb2 := bch (bch hbw b2) bb2
      clear HA HA2 hf1 hbw b2 bb2
      have p2 := record_any (j : Int) hv u0 u1 u2 u3 u4 t0 t1 t2 t3 t4 A n cap f B m cap2 g _ (hra.below hb2) (hst.below hb2)
      obtain ⟨c0, c1, c2, c3, c4⟩ := ha2'.cells
      have HA := Lib.hid ha2
      have HA2 := Lib.hid ha2'
      have HR := Lib.hid hr2
      have HF := Lib.hid hf2
      clear ha2 ha2' hr2 hf2
      go_wp2_with fail
      ((with_reducible refine p2.mono ?_); rintro e w3 ⟨A3, n3, cap3, rb, rfl, hc3, hf3, hNb, b3⟩)
      clear p2 c0 c1 c2 c3 c4
      have ha3 := HA.out.below b3
      have ha3' := HA2.out.below b3
      have hr3 := HR.out.below b3
      have hfa := HF.out.below b3
      have hb3 := bch hb2 b3
      clear HA HA2 HR HF hb2 b3
      have hrb := rcBlk_mk w3 rb (.slice A3 n3 cap3)
      have bb3 : Below w3.heap.size w3 (w3.alloc (.cells #[.string rb.key, .string rb.value, .int .i64 rb.rev, .int .i64 rb.life, .string rb.note, .slice A3 n3 cap3] 24)) := (Below.refl _ _).alloc (Nat.le_refl _) _
      have q1 := pickL_any which 3 (by omega) (by omega) (bounds_i64 hwh).1 (bounds_i64 hwh).2
      generalize pickZ which 3 = z at q1
      have q2 := pickL_nat u2 400 (by omega) (by omega) t2
      have k2 := pickN_lt u2 400 (by omega)
      generalize pickN u2 400 = z2 at q2 k2
      have hga := lt_of_blk hr3
      generalize hgae : w2.heap.size = ga at *
      clear hgae
      have hpz : (z == 0) = true ∨ (z == 0) = false := by cases (z == 0); exact .inr rfl; exact .inl rfl
      have hpz1 : (z == 1) = true ∨ (z == 1) = false := by cases (z == 1); exact .inr rfl; exact .inl rfl
      have hsec : SecondR (j : Int) w3 (w3.alloc (.cells #[.string rb.key, .string rb.value, .int .i64 rb.rev, .int .i64 rb.life, .string rb.note, .slice A3 n3 cap3] 24)) (.pointer (some ⟨w3.heap.size, 0, none⟩)) := ⟨rfl, rb, A3, n3, cap3, hrb, hc3, hf3, hNb, bb3⟩
      have ha4 := ha3'.below bb3
      obtain ⟨c0, c1, c2, c3, c4⟩ := ha4.cells
      have hr4 := hr3.below bb3
      obtain ⟨y0, y1, y2, y3, y4, y5⟩ := hr4.cells
      obtain ⟨v0, v1, v2, v3, v4, v5⟩ := hrb.cells
      have f0 := hrb.frozen 0
      have f1 := hrb.frozen 1
      have f2 := hrb.frozen 2
      have f3 := hrb.frozen 3
      have f4 := hrb.frozen 4
      have f5 := hrb.frozen 5
      have hz3 : w3.heap.size < (w3.alloc (.cells #[.string rb.key, .string rb.value, .int .i64 rb.rev, .int .i64 rb.life, .string rb.note, .slice A3 n3 cap3] 24)).heap.size := by simp
      obtain ⟨W4, hW4⟩ : ∃ W, w3.alloc (.cells #[.string rb.key, .string rb.value, .int .i64 rb.rev, .int .i64 rb.life, .string rb.note, .slice A3 n3 cap3] 24) = W := ⟨_, rfl⟩
      rw [hW4] at hsec c0 c1 c2 c3 c4 y0 y1 y2 y3 y4 y5 v0 v1 v2 v3 v4 v5 f0 f1 f2 f3 f4 f5 hz3 hrb bb3
      have HSEC := Lib.hid hsec
      have HBB3 := Lib.hid bb3
      have HRB := Lib.hid hrb
      clear ha4 hr4 hsec bb3 hrb
      have H3 : Hid (Arr5 w3 w.heap.size x0 x1 x2 x3 x4 ∧ Arr5 w3 (w.heap.size + 1) u0 u1 u2 u3 u4 ∧ RcBlk w3 ga ra (.slice A1 n1 cap1) ∧ IsFs w3 A1 n1 ra.extra ∧ Below w.heap.size w w3) := ⟨ha3, ha3', hr3, hfa, hb3⟩
      clear hra hst hv ha3 ha3' hr3 hfa hb3 hNb hf3 hc3 h0 h1 h2 h3 h4 t0 t1 t2 t3 t4 c0 c1 c2 c3 c4 v0 v1 v2 v3 v4 v5 hlt
      go_upto_region 7 with fail
      clear hW4
      go_wp2_with fail
      ((with_reducible refine (q1 _).mono ?_); rintro e w9 ⟨rfl, rfl⟩)
      go_upto_if 37 with fail
      go_cut [14] (fun s14 wx => SecondR (j : Int) w3 wx s14)
      case first =>
        have v0 := HRB.out.cells.1
        have v1 := HRB.out.cells.2.1
        have v2 := HRB.out.cells.2.2.1
        have v3 := HRB.out.cells.2.2.2.1
        have v4 := HRB.out.cells.2.2.2.2.1
        have v5 := HRB.out.cells.2.2.2.2.2
        obtain ⟨W5, hW5⟩ : ∃ W, set6 W4 w3.heap.size ra (.slice A1 n1 cap1) = W := ⟨_, rfl⟩
        have hr5 := set6_rc HRB.out ra (.slice A1 n1 cap1)
        have hb5 := set6_below HBB3.out ra (.slice A1 n1 cap1)
        rw [hW5] at hr5 hb5
        have ha5 := H3.out.2.1.below hb5
        have hz5 := lt_of_blk hr5
        have hy2 := hr5.cells.2.2.1
        have hf2 := hr5.frozen 2
        have hca := ha5.cells.2.2.1
        have HR5 := Lib.hid hr5
        have HB5 := Lib.hid hb5
        unfold set6 at hW5
        have hz0 : z = 0 ∨ z ≠ 0 := by omega
        clear hr5 hb5 ha5
        rcases hz0 with hp | hp
        · subst hp
          clear hpz hpz1
          go_upto_region 9 with fail
          clear hW5 v0 v1 v2 v3 v4 v5 y0 y1 y2 y3 y4 y5 f0 f1 f2 f3 f4 f5 HBB3 HRB HSEC hz3
          go_wp2_with fail
          ((with_reducible refine (q2 _).mono ?_); rintro e w9 ⟨rfl, rfl⟩)
          go_wp2_with fail
          go_meet
          refine ⟨rfl, { ra with rev := (z2 : Int) }, A1, n1, cap1, ?_, hc1, H3.out.2.2.2.1, nice_rev hN z2 k2, HB5.out.setCell (p := ⟨w3.heap.size, 2, none⟩) (Nat.le_refl _) _⟩
          exact heap_setCell_same _ w3.heap.size 2 _ _ _ HR5.out
        · rcases hpz with hp | hp
          · exact absurd (by simpa using hp) ‹z ≠ 0›
          · clear hW5
            go_wp2_with fail
            go_meet
            exact HSEC.out
      case rest =>
        clear y0 y1 y2 y3 y4 y5 f0 f1 f2 f3 f4 f5 HSEC HBB3 HRB hz3 q2 k2 hpz
        obtain ⟨rfl, rb, A3, n3, cap3, hrb, hc3, hf3, hNb, hbb⟩ := hcut
        have HSEC : Hid (SecondR (j : Int) w3 wc (.pointer (some ⟨w3.heap.size, 0, none⟩))) := ⟨rfl, rb, A3, n3, cap3, hrb, hc3, hf3, hNb, hbb⟩
        have hr4 := H3.out.2.2.1.below hbb
        obtain ⟨y0, y1, y2, y3, y4, y5⟩ := hr4.cells
        have hlt4 := lt_of_blk hr4
        have HRB := Lib.hid hrb
        have HBB := Lib.hid hbb
        have hzb := lt_of_blk hrb
        clear hr4 hbb hc3 hf3 hNb
        go_upto_region 10 with fail
        go_cut [51] (fun s51 wx => CutB n1 wc wx s51)
        case first =>
          have hz1 : z = 1 ∨ z ≠ 1 := by omega
          rcases hz1 with hp | hp
          · subst hp
            clear hpz1
            by_cases hn0 : 0 < n1
            · go_wp2_with fail
              ((with_reducible refine (q1 _).mono ?_); rintro e w9 ⟨rfl, rfl⟩)
              go_wp2_with fail
              go_meet
              exact ⟨true, rfl, fun _ => hn0, rfl⟩
            · have hn0' : n1 = 0 := by omega
              subst hn0'
              go_wp2_with fail
              ((with_reducible refine (q1 _).mono ?_); rintro e w9 ⟨rfl, rfl⟩)
              go_wp2_with fail
              go_meet
              exact ⟨false, rfl, fun h => (by cases h), rfl⟩
          · rcases hpz1 with hp1 | hp1
            · exact absurd (by simpa using hp1) hp
            · clear hp
              go_wp2_with fail
              ((with_reducible refine (q1 _).mono ?_); rintro e w9 ⟨rfl, rfl⟩)
              go_wp2_with fail
              go_meet
              exact ⟨false, rfl, fun h => (by cases h), rfl⟩
        case rest =>
          clear hpz1 q1
          obtain ⟨b, rfl, hbn, rfl⟩ := hcut
          go_upto_if 51 with fail
          go_cut [14] (fun s14 wx => SecondR (j : Int) w3 wx s14)
          case first =>
            cases b with
            | false =>
              clear hbn
              go_wp2_with fail
              go_meet
              exact HSEC.out
            | true =>
              have hn0 : 1 ≤ n1 := by have := hbn rfl; omega
              clear hbn
              obtain ⟨A', hsl, hfsl⟩ := slice_fs_from H3.out.2.2.2.1 (k := 1) hn0 hc1
              have hsl1 : ∀ W, (Instr.slice 22 (.slice A1 n1 cap1) (some (.int .i64 1)) none none).run Try.prog W = .ok (.slice A' (n1 - 1) (cap1 - 1)) W := hsl
              clear hsl
              have v0 := HRB.out.cells.1
              have v1 := HRB.out.cells.2.1
              have v2 := HRB.out.cells.2.2.1
              have v3 := HRB.out.cells.2.2.2.1
              have v4 := HRB.out.cells.2.2.2.2.1
              have v5 := HRB.out.cells.2.2.2.2.2
              have f0 := HRB.out.frozen 0
              have f1 := HRB.out.frozen 1
              have f2 := HRB.out.frozen 2
              have f3 := HRB.out.frozen 3
              have f4 := HRB.out.frozen 4
              have f5 := HRB.out.frozen 5
              obtain ⟨W5, hW5⟩ : ∃ W, set6 wc w3.heap.size ra (.slice A1 n1 cap1) = W := ⟨_, rfl⟩
              have hr5 := set6_rc HRB.out ra (.slice A1 n1 cap1)
              have hb5 := set6_below HBB.out ra (.slice A1 n1 cap1)
              rw [hW5] at hr5 hb5
              have hra5 := H3.out.2.2.1.below hb5
              have hz5 := lt_of_blk hr5
              have hg5 := lt_of_blk hra5
              have hy5 := hr5.cells.2.2.2.2.2
              have hf5 := hr5.frozen 5
              have hya := hra5.cells.2.2.2.2.2
              have HR5 := Lib.hid hr5
              have HB5 := Lib.hid hb5
              have HFSL := Lib.hid hfsl
              have hn1c : (1 : Int) ≤ (n1 : Int) := by omega
              unfold set6 at hW5
              clear hr5 hb5 hra5 hfsl
              go_upto_region 12 with fail
              clear hW5 v0 v1 v2 v3 v4 v5 y0 y1 y2 y3 y4 y5 f0 f1 f2 f3 f4 f5 HBB HRB HSEC
              go_wp2_with fail
              go_meet
              refine ⟨rfl, { ra with extra := ra.extra.drop 1 }, A', n1 - 1, cap1 - 1, ?_, by omega, HFSL.out, nice_drop hN, HB5.out.setCell (p := ⟨w3.heap.size, 5, none⟩) (Nat.le_refl _) _⟩
              exact heap_setCell_same _ w3.heap.size 5 _ _ _ HR5.out
          case rest =>
            clear y0 y1 y2 y3 y4 y5 HRB HBB HSEC hzb hlt4 hbn
            obtain ⟨rfl, rb, A3, n3, cap3, hrb, hc3, hf3, hNb, hbb⟩ := hcut
            have hra4 := H3.out.2.2.1.below hbb
            have hfa4 := H3.out.2.2.2.1.below hbb
            have hfb4 := hf3.below hbb
            have haa4 := H3.out.1.below hbb
            have hab4 := H3.out.2.1.below hbb
            have hbw4 := bch H3.out.2.2.2.2 hbb
            have hsame := unlike_bytes hN hNb
            have p1 := rEncode_any (j : Int) ra A1 n1 cap1 wc hN.wf hfa4
            rw [hN.recE] at p1
            have p2 := fun W h => rEncode_any (j : Int) rb A3 n3 cap3 W hNb.wf h
            rw [hNb.recE] at p2
            have p3 := fun W h h' => refSame_any ra rb A1 A3 n1 n3 cap1 cap3 W h h'
            have p4 := fun W h h' => rSame_any ra rb A1 A3 n1 n3 cap1 cap3 W h h'
            have p5 := fun W h h' => rSame_any rb ra A3 A1 n3 n1 cap3 cap1 W h h'
            rw [sameR_comm rb ra] at p5
            generalize bs (encL (fieldsR ra)) = S1 at p1 hsame
            generalize bs (encL (fieldsR rb)) = S2 at p2 hsame
            generalize sameR ra rb = sm at p3 p4 p5 hsame
            have P2 := Lib.hid p2
            have P3 := Lib.hid p3
            have P4 := Lib.hid p4
            have P5 := Lib.hid p5
            have HFA := Lib.hid hfa4
            have HFB := Lib.hid hfb4
            have HRA := Lib.hid hra4
            have HRB := Lib.hid hrb
            have HAA := Lib.hid haa4
            have HAB := Lib.hid hab4
            obtain ⟨y0, y1, y2, y3, y4, y5⟩ := hra4.cells
            clear p2 p3 p4 p5 hfa4 hfb4 hra4 hrb haa4 hab4 hbb hf3 hN hNb H3 hc3 hc1
            go_wp2_with fail
            ((with_reducible refine p1.mono ?_); rintro e w5 ⟨rfl, b5⟩)
            clear y0 y1 y2 y3 y4 y5 p1
            have hb5 := HRB.out.below b5
            obtain ⟨v0, v1, v2, v3, v4, v5⟩ := hb5.cells
            clear hb5
            go_wp2_with fail
            ((with_reducible refine (P2.out _ (HFB.out.below b5)).mono ?_); rintro e w6 ⟨rfl, b6⟩)
            clear v0 v1 v2 v3 v4 v5
            have ha6 := (HRA.out.below b5).below b6
            have hb6 := (HRB.out.below b5).below b6
            obtain ⟨y0, y1, y2, y3, y4, y5⟩ := ha6.cells
            obtain ⟨v0, v1, v2, v3, v4, v5⟩ := hb6.cells
            clear ha6 hb6
            go_wp2_with fail
            ((with_reducible refine (P3.out _ ((HFA.out.below b5).below b6) ((HFB.out.below b5).below b6)).mono ?_); rintro e w7 ⟨rfl, b7⟩)
            clear y0 y1 y2 y3 y4 y5 v0 v1 v2 v3 v4 v5
            have ha7 := ((HRA.out.below b5).below b6).below b7
            have hb7 := ((HRB.out.below b5).below b6).below b7
            obtain ⟨y0, y1, y2, y3, y4, y5⟩ := ha7.cells
            obtain ⟨v0, v1, v2, v3, v4, v5⟩ := hb7.cells
            clear ha7 hb7
            cases sm
            all_goals
              go_wp2_with fail
              ((with_reducible refine (P4.out _ (((HFA.out.below b5).below b6).below b7) (((HFB.out.below b5).below b6).below b7)).mono ?_); rintro e w8 ⟨rfl, b8⟩)
              clear y0 y1 y2 y3 y4 y5 v0 v1 v2 v3 v4 v5
              have ha8 := (((HRA.out.below b5).below b6).below b7).below b8
              have hb8 := (((HRB.out.below b5).below b6).below b7).below b8
              obtain ⟨y0, y1, y2, y3, y4, y5⟩ := ha8.cells
              obtain ⟨v0, v1, v2, v3, v4, v5⟩ := hb8.cells
              clear ha8 hb8
              go_wp2_with fail
              ((with_reducible refine (P5.out _ ((((HFB.out.below b5).below b6).below b7).below b8) ((((HFA.out.below b5).below b6).below b7).below b8)).mono ?_); rintro e w9 ⟨rfl, b9⟩)
              clear y0 y1 y2 y3 y4 y5 v0 v1 v2 v3 v4 v5
              go_wp2_with fail
              go_roundw
              case rel => (first | exact ⟨j + 1, by omega, by omega, by go_num, ((((HAA.out.below b5).below b6).below b7).below b8).below b9, ((((HAB.out.below b5).below b6).below b7).below b8).below b9, bch (bch (bch (bch (bch hbw4 b5) b6) b7) b8) b9⟩ | ((repeat apply Exists.intro); exact ⟨⟨j + 1, by omega, by omega, by go_num, ((((HAA.out.below b5).below b6).below b7).below b8).below b9, ((((HAB.out.below b5).below b6).below b7).below b8).below b9, bch (bch (bch (bch (bch hbw4 b5) b6) b7) b8) b9⟩, rfl⟩))
              case measure => simp [intOf]; omega
    · go_wp2_with fail
      go_ret
      exact ⟨rfl, hbw⟩
end Go.Proofs.Ytkhpkjnnkmoeoaa
