import Derived.Test.YtndkmepdnekigaaCtPe
import Derived.Test.YtndkmepdnekigaaCtRefL
/-
  The contracts of the program's own loadOf and Balance's closures, of slices.MaxFunc and MinFunc over members (stage 18).
-/
namespace Go.Proofs.Ytndkmepdnekigaa
open Go.RowKit Go.Lib
set_option linter.unusedVariables false
set_option linter.unusedSimpArgs false

set_option maxRecDepth 100000 in
set_option maxHeartbeats 8000000 in
theorem loadOf9_any (pl : List PlR) (B : Option Addr) (m cm : Nat) (x : Int) (w : World) (hc : IsG s3 w B m pl) (hm24 : m ≤ 17592186044416) :
    Calls Try.prog 45 #[.slice B m cm, .int .i64 x] w fun e w' => e = .returned (.int .i64 (loadC pl x : Nat)) ∧ Below w.heap.size w w' := by
  have hm := hc.1
  have HHC := Lib.hid hc
  have HHB : Hid (Below w.heap.size w w) := Below.refl _ _
  clear hc
  have HM := Lib.hid hm; clear hm
  have HFUL : Hid (pl.take m = pl) := by show _ = _; rw [HM.out, List.take_length]
  have HCNT : Hid (∀ k, loadC (pl.take k) x ≤ k) := fun k => Nat.le_trans List.countP_le_length (by simp; omega)
  have HST : Hid (∀ k, k < pl.length → loadC (pl.take (k + 1)) x = loadC (pl.take k) x + (if hasP x (atP9 pl k) = true then 1 else 0)) := fun k h => load_take pl x k h
  go_enter Try.func45, Try.ntmps45
  go_wp2_with fail
  go_loopw [5, 10] (fun s i wr => ∃ k : Nat, k ≤ m ∧ i = .int .i64 k ∧ s = .int .i64 (loadC (pl.take k) x : Nat) ∧ Hid (Below w.heap.size w wr)) (fun _ i _ => m - (intOf i).toNat)
  case atStart => exact ⟨0, by omega, rfl, rfl, Below.refl _ _⟩
  case round =>
    obtain ⟨k, hk, rfl, rfl, hbw⟩ := hrel
    by_cases hlt : k < m
    · have HK : Hid (k < pl.length) := by show k < _; rw [← HM.out]; exact hlt
      obtain ⟨b, off, hA, hb, y0, y1, y2⟩ := is3_at (HHC.out.below hbw.out) (atP9_get HK.out)
      subst hA
      have hnx := HST.out k HK.out
      have hle := HCNT.out k
      generalize hp : atP9 pl k = z at *
      clear hp
      generalize loadC (pl.take k) x = q at *
      obtain ⟨ow, ep, tz⟩ := z
      simp only at y0 y1 y2
      have hh : hasP x (ow, ep, tz) = (tz == x || (tz == 0 && ow == x)) := rfl
      rw [hh] at hnx
      clear hh
      go_upto_region 5 with fail
      have HM2 := Blk.new wr (.cells #[.int .i64 ow, .int .i64 ep, .int .i64 tz] 48)
      have hb2 := hbw.out.alloc hbw.out.size (.cells #[.int .i64 ow, .int .i64 ep, .int .i64 tz] 48)
      obtain ⟨W2, hW2⟩ : ∃ W, wr.alloc (.cells #[.int .i64 ow, .int .i64 ep, .int .i64 tz] 48) = W := ⟨_, rfl⟩
      rw [hW2] at HM2 hb2
      rw [hW2]
      clear hW2 y0 y1 y2
      have x0 := Blk.cell HM2 0
      have x1 := Blk.cell HM2 1
      have x2 := Blk.cell HM2 2
      simp only [List.getElem?_toArray, List.getElem?_cons_zero, List.getElem?_cons_succ] at x0 x1 x2
      have HB2 := Lib.hid hb2
      clear HM2 hb2
      by_cases g1 : tz = x
      · have HNX : Hid (loadC (pl.take (k + 1)) x = q + 1) := by show _ = _; rw [hnx] <;> simp [g1]
        subst g1
        clear hnx
        go_wp2_with fail
        go_roundw
        case rel => exact ⟨k + 1, by omega, by go_num, by rw [HNX.out] <;> first | rfl | (congr 1; simp; done), HB2.out⟩
        case measure => simp [intOf]; omega
      have e1 : (tz == x) = false := by simpa using g1
      by_cases g2 : tz = 0
      · subst g2
        by_cases g3 : ow = x
        · have HNX : Hid (loadC (pl.take (k + 1)) x = q + 1) := by show _ = _; rw [hnx] <;> simp [g3]
          subst g3
          clear hnx g1
          go_wp2_with fail
          go_roundw
          case rel => exact ⟨k + 1, by omega, by go_num, by rw [HNX.out] <;> first | rfl | (congr 1; simp; done), HB2.out⟩
          case measure => simp [intOf]; omega
        · have HNX : Hid (loadC (pl.take (k + 1)) x = q) := by show _ = _; rw [hnx] <;> simp [e1, g3]
          have e3 : (ow == x) = false := by simpa using g3
          clear hnx g1 g3
          go_wp2_with fail
          go_roundw
          case rel => exact ⟨k + 1, by omega, by go_num, by rw [HNX.out] <;> first | rfl | (congr 1; simp; done), HB2.out⟩
          case measure => simp [intOf]; omega
      · have HNX : Hid (loadC (pl.take (k + 1)) x = q) := by show _ = _; rw [hnx] <;> simp [g1, g2]
        have e2 : (tz == 0) = false := by simpa using g2
        clear hnx g1 g2
        go_wp2_with fail
        go_roundw
        case rel => exact ⟨k + 1, by omega, by go_num, by rw [HNX.out] <;> first | rfl | (congr 1; simp; done), HB2.out⟩
        case measure => simp [intOf]; omega
    · have hke : k = m := by omega
      subst hke
      go_wp2_with fail
      go_ret
      exact ⟨by rw [HFUL.out]; rfl, bch HHB.out hbw.out⟩
set_option maxRecDepth 100000 in
set_option maxHeartbeats 8000000 in
theorem bal1_any (c : CtR) (A B : Option Addr) (n cap m cm g : Nat) (x b : Int) (w : World) (hg : Blk w g (ctB c A n cap B m cm)) (h : IsG s3 w B m c.pl) (hm24 : m ≤ 17592186044416) :
    Calls Try.prog 44 #[.agg #[.int .i64 x, .int .i64 b], .pointer (some ⟨g, 0, none⟩)] w fun e w' => e = .returned (.int .i64 (loadC c.pl x : Nat)) ∧ Below w.heap.size w w' := by
  have hb0 := (Below.refl w.heap.size w).alloc (Nat.le_refl _) (.cells #[.int .i64 x, .int .i64 b] 45)
  have hg2 := Blk.cell (Blk.below hg hb0) 2
  simp only [List.getElem?_toArray, List.getElem?_cons_zero, List.getElem?_cons_succ] at hg2
  have q := loadOf9_any c.pl B m cm x _ (h.below hb0) hm24
  generalize loadC c.pl x = z at *
  clear hg h
  go_enter Try.func44, Try.ntmps44
  go_wp2_with fail
  ((with_reducible refine (q).mono ?_); rintro e V ⟨rfl, b1⟩)
  have HB := Lib.hid (bch hb0 b1)
  clear q hb0 b1 hg2
  go_wp2_with fail
  go_ret
  exact ⟨rfl, HB.out⟩
theorem cf9bal1 (args : Array Value) (w : World) : (callFunc 44 args).run Try.prog w = .ok (.enter 44 args) w := run_callFunc_body9 Try.func44 (by kernel_rfl) (by kernel_rfl) args w
theorem cf9bal2 (args : Array Value) (w : World) : (callFunc 46 args).run Try.prog w = .ok (.enter 46 args) w := run_callFunc_body9 Try.func46 (by kernel_rfl) (by kernel_rfl) args w
set_option maxRecDepth 100000 in
set_option maxHeartbeats 8000000 in
theorem bal2_any (c : CtR) (A B : Option Addr) (n cap m cm g gl : Nat) (x b y d : Int) (w : World) (hg : Blk w g (ctB c A n cap B m cm)) (hl : Blk w gl (.cells #[.func (.func 44) #[] #[.pointer (some ⟨g, 0, none⟩)]] 61)) (h : IsG s3 w B m c.pl) (hm24 : m ≤ 17592186044416) :
    Calls Try.prog 46 #[.agg #[.int .i64 x, .int .i64 b], .agg #[.int .i64 y, .int .i64 d], .pointer (some ⟨gl, 0, none⟩)] w fun e w' => e = .returned (.int .i64 (cmp9 (loadC c.pl x : Nat) (loadC c.pl y : Nat))) ∧ Below w.heap.size w w' := by
  have hb0 := ((ba9 w (.cells #[.int .i64 x, .int .i64 b] 45)).alloc (ba9 w (.cells #[.int .i64 x, .int .i64 b] 45)).size (.cells #[.int .i64 y, .int .i64 d] 45))
  have hx := Blk.below (Blk.new w (.cells #[.int .i64 x, .int .i64 b] 45)) (ba9 (w.alloc (.cells #[.int .i64 x, .int .i64 b] 45)) (.cells #[.int .i64 y, .int .i64 d] 45))
  have hy := Blk.new (w.alloc (.cells #[.int .i64 x, .int .i64 b] 45)) (.cells #[.int .i64 y, .int .i64 d] 45)
  rw [World.size_alloc] at hy
  have hg2 := Blk.below hg hb0
  have hl2 := Blk.below hl hb0
  have hi2 := h.below hb0
  obtain ⟨W, hW⟩ : ∃ W, (w.alloc (.cells #[.int .i64 x, .int .i64 b] 45)).alloc (.cells #[.int .i64 y, .int .i64 d] 45) = W := ⟨_, rfl⟩
  rw [hW] at hb0 hx hy hg2 hl2 hi2
  have HB := Lib.hid hb0; clear hb0
  have HX := Lib.hid hx; clear hx
  have HY := Lib.hid hy; clear hy
  have HG := Lib.hid hg2; clear hg2
  have HLL := Lib.hid hl2; clear hl2
  have HII := Lib.hid hi2; clear hi2
  have HM := Lib.hid hm24; clear hm24
  have cf1 := cf9bal1
  clear hg hl h
  go_enter Try.func46, Try.ntmps46
  go_upto_region 1 with fail
  try rw [hW]
  clear hW
  refine wp_region_noPanic ?_
  refine wp_region_held_drew (S := (fun V => Below W.heap.size W V)) (by kernel_rfl) ((Below.refl _ _).drew) (fun hHeld => ?_)
  refine wpAnyH_take (i := 0) (v := ?_) rfl (by kernel_rfl) (by kernel_rfl) (by kernel_rfl) (fun _ _ _ h => h) (Or.inl ⟨by rfl, ?_⟩) (by assumption) ?_
  rotate_left
  · (intro w hSw; (try dsimp only at hSw); have z0 := Blk.cell (Blk.below HLL.out hSw) 0; have x0 := Blk.cell (Blk.below HX.out hSw) 0; have x1 := Blk.cell (Blk.below HX.out hSw) 1; have y0 := Blk.cell (Blk.below HY.out hSw) 0; have y1 := Blk.cell (Blk.below HY.out hSw) 1; simp only [List.getElem?_toArray, List.getElem?_cons_zero, List.getElem?_cons_succ] at z0 x0 x1 y0 y1; go_simp; (try with_reducible rfl))
  simp only [Act.put, List.getElem_toArray, List.getElem_cons_zero, List.setIfInBounds_toArray, List.set_cons_zero, List.set_cons_succ]
  refine wpAnyH_take (i := 1) (v := ?_) rfl (by kernel_rfl) (by kernel_rfl) (by kernel_rfl) (fun _ _ _ h => h) (Or.inl ⟨by rfl, ?_⟩) (by assumption) ?_
  rotate_left
  · (intro w hSw; (try dsimp only at hSw); have z0 := Blk.cell (Blk.below HLL.out hSw) 0; have x0 := Blk.cell (Blk.below HX.out hSw) 0; have x1 := Blk.cell (Blk.below HX.out hSw) 1; have y0 := Blk.cell (Blk.below HY.out hSw) 0; have y1 := Blk.cell (Blk.below HY.out hSw) 1; simp only [List.getElem?_toArray, List.getElem?_cons_zero, List.getElem?_cons_succ] at z0 x0 x1 y0 y1; go_simp; (try with_reducible rfl))
  simp only [Act.put, List.getElem_toArray, List.getElem_cons_zero, List.getElem_cons_succ, List.setIfInBounds_toArray, List.set_cons_zero, List.set_cons_succ]
  refine wpAnyH_take (i := 3) (v := ?_) rfl (by kernel_rfl) (by kernel_rfl) (by kernel_rfl) (fun _ _ _ h => h) (Or.inl ⟨by rfl, ?_⟩) (by assumption) ?_
  rotate_left
  · (intro w hSw; (try dsimp only at hSw); have z0 := Blk.cell (Blk.below HLL.out hSw) 0; have x0 := Blk.cell (Blk.below HX.out hSw) 0; have x1 := Blk.cell (Blk.below HX.out hSw) 1; have y0 := Blk.cell (Blk.below HY.out hSw) 0; have y1 := Blk.cell (Blk.below HY.out hSw) 1; simp only [List.getElem?_toArray, List.getElem?_cons_zero, List.getElem?_cons_succ] at z0 x0 x1 y0 y1; go_simp; (try with_reducible rfl))
  simp only [Act.put, List.getElem_toArray, List.getElem_cons_zero, List.getElem_cons_succ, List.setIfInBounds_toArray, List.set_cons_zero, List.set_cons_succ]
  refine wpAnyH_take (i := 4) (v := ?_) rfl (by kernel_rfl) (by kernel_rfl) (by kernel_rfl) (fun _ _ _ h => h) (Or.inl ⟨by rfl, ?_⟩) (by assumption) ?_
  rotate_left
  · (intro w hSw; (try dsimp only at hSw); have z0 := Blk.cell (Blk.below HLL.out hSw) 0; have x0 := Blk.cell (Blk.below HX.out hSw) 0; have x1 := Blk.cell (Blk.below HX.out hSw) 1; have y0 := Blk.cell (Blk.below HY.out hSw) 0; have y1 := Blk.cell (Blk.below HY.out hSw) 1; simp only [List.getElem?_toArray, List.getElem?_cons_zero, List.getElem?_cons_succ] at z0 x0 x1 y0 y1; go_simp; (try with_reducible rfl))
  simp only [Act.put, List.getElem_toArray, List.getElem_cons_zero, List.getElem_cons_succ, List.setIfInBounds_toArray, List.set_cons_zero, List.set_cons_succ]
  refine wpAnyH_ready (rs := [2]) (by kernel_rfl) (by simp) ?_
  refine AllReadyH.cons rfl (fun K hK => ?_) AllReadyH.nil
  rw [if_pos (by rfl)]
  go_simp
  ((with_reducible refine (bal1_any c A B n cap m cm g x b _ (Blk.below HG.out hHeld) (HII.out.below hHeld) HM.out).mono ?_); rintro e Vx ⟨rfl, b1⟩)
  refine hK.out _ _ (bch hHeld b1) (fun hHeld2 => ?_)
  clear hK K hHeld
  have hHeld := hHeld2; clear hHeld2
  clear b1
  refine wpAnyH_ready (rs := [5]) (by kernel_rfl) (by simp) ?_
  refine AllReadyH.cons rfl (fun K hK => ?_) AllReadyH.nil
  rw [if_pos (by rfl)]
  go_simp
  ((with_reducible refine (bal1_any c A B n cap m cm g y d _ (Blk.below HG.out hHeld) (HII.out.below hHeld) HM.out).mono ?_); rintro e Vy ⟨rfl, b1⟩)
  refine hK.out _ _ (bch hHeld b1) (fun hHeld2 => ?_)
  clear hK K hHeld
  have hHeld := hHeld2; clear hHeld2
  clear b1
  refine wpAnyH_ready (rs := [6]) (by kernel_rfl) (by simp) ?_
  refine AllReadyH.cons rfl (fun K hK => ?_) AllReadyH.nil
  rw [if_pos (by rfl)]
  go_simp
  ((with_reducible refine (compare9_any _ _ _).mono ?_); rintro e V6 ⟨rfl, rfl⟩)
  refine hK.out _ _ (hHeld) (fun hHeld2 => ?_)
  clear hK K hHeld
  have hHeld := hHeld2; clear hHeld2
  have HS := Lib.hid hHeld
  refine wpAnyH_take (i := 7) (v := ?_) rfl (by kernel_rfl) (by kernel_rfl) (by kernel_rfl) (fun _ _ _ h => h) (Or.inl ⟨by rfl, ?_⟩) (by assumption) ?_
  rotate_left
  · (intro w hSw; (try dsimp only at hSw); go_simp; (try with_reducible rfl))
  simp only [Act.put, List.getElem_toArray, List.getElem_cons_zero, List.getElem_cons_succ, List.setIfInBounds_toArray, List.set_cons_zero, List.set_cons_succ]
  refine wpAnyH_done (by kernel_rfl) ?_ _
  refine NoPanic.normal ?_
  skip
  go_wp2_with fail
  go_ret
  exact ⟨rfl, bch HB.out HS.out⟩
def mostE (f : Int → Nat) : List MbR → MbR → MbR
  | [], x => x
  | m :: l, x => mostE f l (if f x.1 < f m.1 then m else x)
def leastE (f : Int → Nat) : List MbR → MbR → MbR
  | [], x => x
  | m :: l, x => leastE f l (if f m.1 < f x.1 then m else x)
theorem mostE_name (f : Int → Nat) : ∀ (l : List MbR) (x : MbR), (mostE f l x).1 = mostL f l x.1
  | [], x => rfl
  | m :: l, x => by
    show (mostE f l _).1 = mostL f l _
    rw [mostE_name f l]
    congr 1
    split <;> rfl
theorem leastE_name (f : Int → Nat) : ∀ (l : List MbR) (x : MbR), (leastE f l x).1 = leastL f l x.1
  | [], x => rfl
  | m :: l, x => by
    show (leastE f l _).1 = leastL f l _
    rw [leastE_name f l]
    congr 1
    split <;> rfl
theorem dropE_at {l : List MbR} {k : Nat} (h : k < l.length) : l.drop k = atM9 l k :: l.drop (k + 1) := drop_oneJ h
theorem cmp9_gt {a b : Nat} : decide (0 < cmp9 (a : Int) (b : Int)) = decide (b < a) := by
  unfold cmp9
  split
  · exact (decide_eq_false (by omega)).trans (decide_eq_false (by omega)).symm
  · split
    · exact (decide_eq_true (by omega)).trans (decide_eq_true (by omega)).symm
    · exact (decide_eq_false (by omega)).trans (decide_eq_false (by omega)).symm
theorem cmp9_lt' {a b : Nat} : decide (cmp9 (a : Int) (b : Int) < 0) = decide (a < b) := by
  unfold cmp9
  split
  · exact (decide_eq_true (by omega)).trans (decide_eq_true (by omega)).symm
  · split
    · exact (decide_eq_false (by omega)).trans (decide_eq_false (by omega)).symm
    · exact (decide_eq_false (by omega)).trans (decide_eq_false (by omega)).symm
set_option maxRecDepth 100000 in
set_option maxHeartbeats 8000000 in
theorem maxM9_any (l : List MbR) (f : Int → Nat) (F : Nat) (P : Value) (A : Option Addr) (n cap : Nat) (w : World) (h : IsG s2 w A n l) (h1 : 1 ≤ n) (h8 : n ≤ 8) (cf : ∀ args w, (callFunc F args).run Try.prog w = .ok (.enter F args) w) (hf : ∀ (x b y d : Int) (W : World), Below w.heap.size w W → Calls Try.prog F #[.agg #[.int .i64 x, .int .i64 b], .agg #[.int .i64 y, .int .i64 d], P] W fun e W' => e = .returned (.int .i64 (cmp9 (f x : Nat) (f y : Nat))) ∧ Below W.heap.size W W') :
    Calls Try.prog 48 #[.slice A n cap, .func (.func F) #[] #[P]] w fun e w' => e = .returned (.agg #[.int .i64 (mostE f (l.drop 1) (atM9 l 0)).1, .int .i64 (mostE f (l.drop 1) (atM9 l 0)).2]) ∧ Below w.heap.size w w' := by
  have HN : Hid (n = l.length) := h.1
  have HF := Lib.hid hf; clear hf
  obtain ⟨b9, off, hA, hlb, y0, y1⟩ := is2_at h (atM9_get (i := 0) (by have := HN.out; omega))
  subst hA
  have HLB := Lib.hid hlb; clear hlb
  have HII := Lib.hid h; clear h
  have HB0 := ba9 w (.cells #[.int .i64 0, .int .i64 0] 45)
  have hz0 := Blk.new w (.cells #[.int .i64 0, .int .i64 0] 45)
  obtain ⟨W1, hW⟩ : ∃ W, w.alloc (.cells #[.int .i64 0, .int .i64 0] 45) = W := ⟨_, rfl⟩
  rw [hW] at HB0 hz0
  have y0 := (HB0.cell (p := ⟨b9, off + 0 * 2, none⟩) HLB.out).trans y0
  have y1 := (HB0.cell (p := ⟨b9, off + 0 * 2 + 1, none⟩) HLB.out).trans y1
  rw [show off + 0 * 2 + 1 = off + 1 by omega] at y1
  rw [show off + 0 * 2 = off by omega] at y0
  obtain ⟨R, hst⟩ : ∃ R, R = mostE f (l.drop 1) (atM9 l 0) := ⟨_, rfl⟩
  rw [← hst]
  have HST := Lib.hid hst; clear hst
  obtain ⟨e0, he0⟩ : ∃ e, atM9 l 0 = e := ⟨_, rfl⟩
  rw [he0] at y0 y1 HST
  clear he0
  obtain ⟨en0, eb0⟩ := e0
  simp only at y0 y1
  go_enter Try.func48, Try.ntmps48
  go_upto_region 1 with fail
  try rw [hW]
  clear hW
  have hln : ¬ (n : Int) < 1 := by omega
  have hb2 := (Below.refl W1.heap.size W1).alloc (Nat.le_refl _) (.cells #[.int .i64 en0, .int .i64 eb0] 45)
  have hm0 := Blk.new W1 (.cells #[.int .i64 en0, .int .i64 eb0] 45)
  have hz2 := Blk.below hz0 hb2
  have hbw2 := bch HB0 hb2
  have hlt4 : w.heap.size < W1.heap.size := Blk.lt hz0
  go_upto_region 4 with fail
  obtain ⟨W2, hW2⟩ : ∃ W, W1.alloc (.cells #[.int .i64 en0, .int .i64 eb0] 45) = W := ⟨_, rfl⟩
  rw [hW2] at hm0 hz2 hbw2
  try rw [hW2]
  clear hW2 y0 y1 hb2 hz0 HB0
  generalize W1.heap.size = g5 at *
  have HLT := Lib.hid hlt4; clear hlt4
  go_wp2_with fail
  go_loopw [6] (fun i wy => ∃ (k : Nat) (en eb : Int) (wr : World), wr = wy ∧ 1 ≤ k ∧ k ≤ n ∧ i = .int .i64 k ∧ Hid (R = mostE f (l.drop k) (en, eb)) ∧ Hid (Blk wr g5 (.cells #[.int .i64 en, .int .i64 eb] 45)) ∧ Hid (Blk wr w.heap.size (.cells #[.int .i64 0, .int .i64 0] 45)) ∧ Hid (Below w.heap.size w wr)) (fun i _ => n - (intOf i).toNat)
  case atStart => exact ⟨1, en0, eb0, _, rfl, Nat.le_refl _, h1, rfl, HST, hm0, hz2, hbw2⟩
  case round =>
    obtain ⟨k, en, eb, wr, rfl, hk1, hk, rfl, hR, HMB, HZB, HBR⟩ := hrel
    clear hm0 hz2 hbw2 HST
    by_cases hlt : k < n
    · have HK : Hid (k < l.length) := by show k < _; rw [← HN.out]; exact hlt
      obtain ⟨b2, off2, hA2, hlb2, Y0, Y1⟩ := is2_at (HII.out.below HBR.out) (atM9_get HK.out)
      obtain ⟨rfl, rfl⟩ : b2 = b9 ∧ off2 = off := by cases hA2; exact ⟨rfl, rfl⟩
      clear hA2 HLB
      have HLB := Lib.hid hlb2; clear hlb2
      have HNX : Hid (R = mostE f (l.drop (k + 1)) (if f en < f (atM9 l k).1 then atM9 l k else (en, eb))) := by
        show _ = _
        rw [hR.out, dropE_at HK.out]; rfl
      clear hR
      generalize atM9 l k = z at *
      obtain ⟨zn, zb⟩ := z
      simp only at Y0 Y1 HNX
      have Y0 := Lib.hid Y0
      have Y1 := Lib.hid Y1
      have hki : (k : Int) < (n : Int) := by omega
      have hk0 : (0 : Int) ≤ (k : Int) := by omega
      go_upto_region 7 with fail
      refine wp_region_noPanic ?_
      refine wp_region_held_drew (S := (fun V => Below wr.heap.size wr V)) (by kernel_rfl) ((Below.refl _ _).drew) (fun hHeld => ?_)
      refine wpAnyH_take (i := 0) (v := ?_) rfl (by kernel_rfl) (by kernel_rfl) (by kernel_rfl) (fun _ _ _ h => h) (Or.inl ⟨by rfl, ?_⟩) (by assumption) ?_
      rotate_left
      · (intro w hSw; (try dsimp only at hSw); go_simp; (try with_reducible rfl))
      simp only [Act.put, List.getElem_toArray, List.getElem_cons_zero, List.setIfInBounds_toArray, List.set_cons_zero, List.set_cons_succ]
      refine wpAnyH_take (i := 1) (v := ?_) rfl (by kernel_rfl) (by kernel_rfl) (by kernel_rfl) (fun _ _ _ h => h) (Or.inl ⟨by rfl, ?_⟩) (by assumption) ?_
      rotate_left
      · (intro w hSw; (try dsimp only at hSw); go_simp; (try with_reducible rfl))
      simp only [Act.put, List.getElem_toArray, List.getElem_cons_zero, List.getElem_cons_succ, List.setIfInBounds_toArray, List.set_cons_zero, List.set_cons_succ]
      refine wpAnyH_take (i := 2) (v := ?_) rfl (by kernel_rfl) (by kernel_rfl) (by kernel_rfl) (fun _ _ _ h => h) (Or.inl ⟨by rfl, ?_⟩) (by assumption) ?_
      rotate_left
      · (intro w hSw; (try dsimp only at hSw); go_simp; (try with_reducible rfl))
      simp only [Act.put, List.getElem_toArray, List.getElem_cons_zero, List.getElem_cons_succ, List.setIfInBounds_toArray, List.set_cons_zero, List.set_cons_succ]
      refine wpAnyH_take (i := 3) (v := ?_) rfl (by kernel_rfl) (by kernel_rfl) (by kernel_rfl) (fun _ _ _ h => h) (Or.inl ⟨by rfl, ?_⟩) (by assumption) ?_
      rotate_left
      · (intro w hSw; (try dsimp only at hSw); go_simp; (try with_reducible rfl))
      simp only [Act.put, List.getElem_toArray, List.getElem_cons_zero, List.getElem_cons_succ, List.setIfInBounds_toArray, List.set_cons_zero, List.set_cons_succ]
      refine wpAnyH_take (i := 4) (v := ?_) rfl (by kernel_rfl) (by kernel_rfl) (by kernel_rfl) (fun _ _ _ h => h) (Or.inl ⟨by rfl, ?_⟩) (by assumption) ?_
      rotate_left
      · (intro w hSw; (try dsimp only at hSw); have y0 := (hSw.cell (p := ⟨b2, off2 + k * 2, none⟩) HLB.out).trans Y0.out; have y1 := (hSw.cell (p := ⟨b2, off2 + k * 2 + 1, none⟩) HLB.out).trans Y1.out; have x0 := Blk.cell (Blk.below HMB.out hSw) 0; have x1 := Blk.cell (Blk.below HMB.out hSw) 1; simp only [List.getElem?_toArray, List.getElem?_cons_zero, List.getElem?_cons_succ] at x0 x1; go_simp; (try with_reducible rfl))
      simp only [Act.put, List.getElem_toArray, List.getElem_cons_zero, List.getElem_cons_succ, List.setIfInBounds_toArray, List.set_cons_zero, List.set_cons_succ]
      refine wpAnyH_take (i := 5) (v := ?_) rfl (by kernel_rfl) (by kernel_rfl) (by kernel_rfl) (fun _ _ _ h => h) (Or.inl ⟨by rfl, ?_⟩) (by assumption) ?_
      rotate_left
      · (intro w hSw; (try dsimp only at hSw); have y0 := (hSw.cell (p := ⟨b2, off2 + k * 2, none⟩) HLB.out).trans Y0.out; have y1 := (hSw.cell (p := ⟨b2, off2 + k * 2 + 1, none⟩) HLB.out).trans Y1.out; have x0 := Blk.cell (Blk.below HMB.out hSw) 0; have x1 := Blk.cell (Blk.below HMB.out hSw) 1; simp only [List.getElem?_toArray, List.getElem?_cons_zero, List.getElem?_cons_succ] at x0 x1; go_simp; (try with_reducible rfl))
      simp only [Act.put, List.getElem_toArray, List.getElem_cons_zero, List.getElem_cons_succ, List.setIfInBounds_toArray, List.set_cons_zero, List.set_cons_succ]
      refine wpAnyH_ready (rs := [6]) (by kernel_rfl) (by simp) ?_
      refine AllReadyH.cons rfl (fun K hK => ?_) AllReadyH.nil
      rw [if_pos (by rfl)]
      go_simp
      ((with_reducible refine (HF.out zn zb en eb _ (bch HBR.out hHeld)).mono ?_); rintro e V1 ⟨rfl, b1⟩)
      have HB1 := Lib.hid (bch HBR.out (bch hHeld b1))
      have hmb1 := Blk.below HMB.out (bch hHeld b1)
      have hzb1 := Blk.below HZB.out (bch hHeld b1)
      refine hK.out _ _ (bch hHeld b1) (fun hHeld2 => ?_)
      clear hK K hHeld
      have hHeld := hHeld2; clear hHeld2
      clear b1
      refine wpAnyH_take (i := 7) (v := ?_) rfl (by kernel_rfl) (by kernel_rfl) (by kernel_rfl) (fun _ _ _ h => h) (Or.inl ⟨by rfl, ?_⟩) (by assumption) ?_
      rotate_left
      · (intro w hSw; (try dsimp only at hSw); go_simp; (try with_reducible rfl))
      simp only [Act.put, List.getElem_toArray, List.getElem_cons_zero, List.getElem_cons_succ, List.setIfInBounds_toArray, List.set_cons_zero, List.set_cons_succ]
      refine wpAnyH_done (by kernel_rfl) ?_ _
      refine NoPanic.normal ?_
      skip
      have HMB1 := Lib.hid hmb1; clear hmb1
      have HZB1 := Lib.hid hzb1; clear hzb1
      have hE : decide (0 < cmp9 (f zn : Nat) (f en : Nat)) = decide (f en < f zn) := cmp9_gt
      generalize cmp9 (f zn : Nat) (f en : Nat) = cz at *
      by_cases hc : f en < f zn
      · rw [decide_eq_true hc] at hE
        have hE2 := of_decide_eq_true hE
        clear hE
        have HNX2 : Hid (R = mostE f (l.drop (k + 1)) (zn, zb)) := by show _ = _; rw [HNX.out, if_pos hc]
        have y0 := (hHeld.cell (p := ⟨b2, off2 + k * 2, none⟩) HLB.out).trans Y0.out
        have y1 := (hHeld.cell (p := ⟨b2, off2 + k * 2 + 1, none⟩) HLB.out).trans Y1.out
        have x0 := Blk.cell HMB1.out 0
        have x1 := Blk.cell HMB1.out 1
        have f0 := Blk.frozen HMB1.out 0
        have f1 := Blk.frozen HMB1.out 1
        simp only [List.getElem?_toArray, List.getElem?_cons_zero, List.getElem?_cons_succ] at x0 x1
        have hm3 := Blk.set (Blk.set HMB1.out 0 (.int .i64 zn) #[.int .i64 zn, .int .i64 eb] rfl) 1 (.int .i64 zb) #[.int .i64 zn, .int .i64 zb] rfl
        have hz3 := Blk.far (Blk.far HZB1.out (show w.heap.size ≠ g5 by have := HLT.out; omega) 0 (.int .i64 zn)) (show w.heap.size ≠ g5 by have := HLT.out; omega) 1 (.int .i64 zb)
        have hb3 := (HB1.out.setCell (p := ⟨g5, 0, none⟩) (show w.heap.size ≤ g5 by have := HLT.out; omega) (.int .i64 zn)).setCell (p := ⟨g5, 1, none⟩) (show w.heap.size ≤ g5 by have := HLT.out; omega) (.int .i64 zb)
        have HM3 := Lib.hid hm3; clear hm3
        have HZ3 := Lib.hid hz3; clear hz3
        have HB3 := Lib.hid hb3; clear hb3
        clear hc HNX hHeld
        go_wp2_with fail
        go_roundw
        case rel => exact ⟨k + 1, zn, zb, _, rfl, by omega, by omega, by go_num, HNX2, HM3, HZ3, HB3⟩
        case measure => simp [intOf]; omega
      · rw [decide_eq_false hc] at hE
        have hE2 := of_decide_eq_false hE
        clear hE
        have HNX2 : Hid (R = mostE f (l.drop (k + 1)) (en, eb)) := by show _ = _; rw [HNX.out, if_neg hc]
        clear hc HNX hHeld
        go_wp2_with fail
        go_roundw
        case rel => exact ⟨k + 1, en, eb, _, rfl, by omega, by omega, by go_num, HNX2, HMB1, HZB1, HB1⟩
        case measure => simp [intOf]; omega
    · have hke : k = n := by omega
      subst hke
      have HE : Hid (R = (en, eb)) := by show _ = _; rw [hR.out, HN.out, List.drop_length]; rfl
      have z0 := Blk.cell HMB.out 0
      have z1 := Blk.cell HMB.out 1
      have x0 := Blk.cell HZB.out 0
      have x1 := Blk.cell HZB.out 1
      have f0 := Blk.frozen HZB.out 0
      have f1 := Blk.frozen HZB.out 1
      simp only [List.getElem?_toArray, List.getElem?_cons_zero, List.getElem?_cons_succ] at x0 x1 z0 z1
      have hz3 := Blk.set (Blk.set HZB.out 0 (.int .i64 en) #[.int .i64 en, .int .i64 0] rfl) 1 (.int .i64 eb) #[.int .i64 en, .int .i64 eb] rfl
      have hb3 := (HBR.out.setCell (p := ⟨w.heap.size, 0, none⟩) (Nat.le_refl _) (.int .i64 en)).setCell (p := ⟨w.heap.size, 1, none⟩) (Nat.le_refl _) (.int .i64 eb)
      have HZ3 := Lib.hid hz3; clear hz3
      have HB3 := Lib.hid hb3; clear hb3
      clear hlt hR
      go_wp2_with fail
      have e0 := Blk.cell HZ3.out 0
      have e1 := Blk.cell HZ3.out 1
      simp only [List.getElem?_toArray, List.getElem?_cons_zero, List.getElem?_cons_succ] at e0 e1
      refine bodyPost_ret (v := .agg #[.int .i64 en, .int .i64 eb]) (by simp [results, Try.results48, go_sem, e0, e1]) rfl ?_
      rw [HE.out]
      exact ⟨rfl, HB3.out⟩
set_option maxRecDepth 100000 in
set_option maxHeartbeats 8000000 in
theorem minM9_any (l : List MbR) (f : Int → Nat) (F : Nat) (P : Value) (A : Option Addr) (n cap : Nat) (w : World) (h : IsG s2 w A n l) (h1 : 1 ≤ n) (h8 : n ≤ 8) (cf : ∀ args w, (callFunc F args).run Try.prog w = .ok (.enter F args) w) (hf : ∀ (x b y d : Int) (W : World), Below w.heap.size w W → Calls Try.prog F #[.agg #[.int .i64 x, .int .i64 b], .agg #[.int .i64 y, .int .i64 d], P] W fun e W' => e = .returned (.int .i64 (cmp9 (f x : Nat) (f y : Nat))) ∧ Below W.heap.size W W') :
    Calls Try.prog 49 #[.slice A n cap, .func (.func F) #[] #[P]] w fun e w' => e = .returned (.agg #[.int .i64 (leastE f (l.drop 1) (atM9 l 0)).1, .int .i64 (leastE f (l.drop 1) (atM9 l 0)).2]) ∧ Below w.heap.size w w' := by
  have HN : Hid (n = l.length) := h.1
  have HF := Lib.hid hf; clear hf
  obtain ⟨b9, off, hA, hlb, y0, y1⟩ := is2_at h (atM9_get (i := 0) (by have := HN.out; omega))
  subst hA
  have HLB := Lib.hid hlb; clear hlb
  have HII := Lib.hid h; clear h
  have HB0 := ba9 w (.cells #[.int .i64 0, .int .i64 0] 45)
  have hz0 := Blk.new w (.cells #[.int .i64 0, .int .i64 0] 45)
  obtain ⟨W1, hW⟩ : ∃ W, w.alloc (.cells #[.int .i64 0, .int .i64 0] 45) = W := ⟨_, rfl⟩
  rw [hW] at HB0 hz0
  have y0 := (HB0.cell (p := ⟨b9, off + 0 * 2, none⟩) HLB.out).trans y0
  have y1 := (HB0.cell (p := ⟨b9, off + 0 * 2 + 1, none⟩) HLB.out).trans y1
  rw [show off + 0 * 2 + 1 = off + 1 by omega] at y1
  rw [show off + 0 * 2 = off by omega] at y0
  obtain ⟨R, hst⟩ : ∃ R, R = leastE f (l.drop 1) (atM9 l 0) := ⟨_, rfl⟩
  rw [← hst]
  have HST := Lib.hid hst; clear hst
  obtain ⟨e0, he0⟩ : ∃ e, atM9 l 0 = e := ⟨_, rfl⟩
  rw [he0] at y0 y1 HST
  clear he0
  obtain ⟨en0, eb0⟩ := e0
  simp only at y0 y1
  go_enter Try.func49, Try.ntmps49
  go_upto_region 1 with fail
  try rw [hW]
  clear hW
  have hln : ¬ (n : Int) < 1 := by omega
  have hb2 := (Below.refl W1.heap.size W1).alloc (Nat.le_refl _) (.cells #[.int .i64 en0, .int .i64 eb0] 45)
  have hm0 := Blk.new W1 (.cells #[.int .i64 en0, .int .i64 eb0] 45)
  have hz2 := Blk.below hz0 hb2
  have hbw2 := bch HB0 hb2
  have hlt4 : w.heap.size < W1.heap.size := Blk.lt hz0
  go_upto_region 4 with fail
  obtain ⟨W2, hW2⟩ : ∃ W, W1.alloc (.cells #[.int .i64 en0, .int .i64 eb0] 45) = W := ⟨_, rfl⟩
  rw [hW2] at hm0 hz2 hbw2
  try rw [hW2]
  clear hW2 y0 y1 hb2 hz0 HB0
  generalize W1.heap.size = g5 at *
  have HLT := Lib.hid hlt4; clear hlt4
  go_wp2_with fail
  go_loopw [6] (fun i wy => ∃ (k : Nat) (en eb : Int) (wr : World), wr = wy ∧ 1 ≤ k ∧ k ≤ n ∧ i = .int .i64 k ∧ Hid (R = leastE f (l.drop k) (en, eb)) ∧ Hid (Blk wr g5 (.cells #[.int .i64 en, .int .i64 eb] 45)) ∧ Hid (Blk wr w.heap.size (.cells #[.int .i64 0, .int .i64 0] 45)) ∧ Hid (Below w.heap.size w wr)) (fun i _ => n - (intOf i).toNat)
  case atStart => exact ⟨1, en0, eb0, _, rfl, Nat.le_refl _, h1, rfl, HST, hm0, hz2, hbw2⟩
  case round =>
    obtain ⟨k, en, eb, wr, rfl, hk1, hk, rfl, hR, HMB, HZB, HBR⟩ := hrel
    clear hm0 hz2 hbw2 HST
    by_cases hlt : k < n
    · have HK : Hid (k < l.length) := by show k < _; rw [← HN.out]; exact hlt
      obtain ⟨b2, off2, hA2, hlb2, Y0, Y1⟩ := is2_at (HII.out.below HBR.out) (atM9_get HK.out)
      obtain ⟨rfl, rfl⟩ : b2 = b9 ∧ off2 = off := by cases hA2; exact ⟨rfl, rfl⟩
      clear hA2 HLB
      have HLB := Lib.hid hlb2; clear hlb2
      have HNX : Hid (R = leastE f (l.drop (k + 1)) (if f (atM9 l k).1 < f en then atM9 l k else (en, eb))) := by
        show _ = _
        rw [hR.out, dropE_at HK.out]; rfl
      clear hR
      generalize atM9 l k = z at *
      obtain ⟨zn, zb⟩ := z
      simp only at Y0 Y1 HNX
      have Y0 := Lib.hid Y0
      have Y1 := Lib.hid Y1
      have hki : (k : Int) < (n : Int) := by omega
      have hk0 : (0 : Int) ≤ (k : Int) := by omega
      go_upto_region 7 with fail
      refine wp_region_noPanic ?_
      refine wp_region_held_drew (S := (fun V => Below wr.heap.size wr V)) (by kernel_rfl) ((Below.refl _ _).drew) (fun hHeld => ?_)
      refine wpAnyH_take (i := 0) (v := ?_) rfl (by kernel_rfl) (by kernel_rfl) (by kernel_rfl) (fun _ _ _ h => h) (Or.inl ⟨by rfl, ?_⟩) (by assumption) ?_
      rotate_left
      · (intro w hSw; (try dsimp only at hSw); go_simp; (try with_reducible rfl))
      simp only [Act.put, List.getElem_toArray, List.getElem_cons_zero, List.setIfInBounds_toArray, List.set_cons_zero, List.set_cons_succ]
      refine wpAnyH_take (i := 1) (v := ?_) rfl (by kernel_rfl) (by kernel_rfl) (by kernel_rfl) (fun _ _ _ h => h) (Or.inl ⟨by rfl, ?_⟩) (by assumption) ?_
      rotate_left
      · (intro w hSw; (try dsimp only at hSw); go_simp; (try with_reducible rfl))
      simp only [Act.put, List.getElem_toArray, List.getElem_cons_zero, List.getElem_cons_succ, List.setIfInBounds_toArray, List.set_cons_zero, List.set_cons_succ]
      refine wpAnyH_take (i := 2) (v := ?_) rfl (by kernel_rfl) (by kernel_rfl) (by kernel_rfl) (fun _ _ _ h => h) (Or.inl ⟨by rfl, ?_⟩) (by assumption) ?_
      rotate_left
      · (intro w hSw; (try dsimp only at hSw); go_simp; (try with_reducible rfl))
      simp only [Act.put, List.getElem_toArray, List.getElem_cons_zero, List.getElem_cons_succ, List.setIfInBounds_toArray, List.set_cons_zero, List.set_cons_succ]
      refine wpAnyH_take (i := 3) (v := ?_) rfl (by kernel_rfl) (by kernel_rfl) (by kernel_rfl) (fun _ _ _ h => h) (Or.inl ⟨by rfl, ?_⟩) (by assumption) ?_
      rotate_left
      · (intro w hSw; (try dsimp only at hSw); go_simp; (try with_reducible rfl))
      simp only [Act.put, List.getElem_toArray, List.getElem_cons_zero, List.getElem_cons_succ, List.setIfInBounds_toArray, List.set_cons_zero, List.set_cons_succ]
      refine wpAnyH_take (i := 4) (v := ?_) rfl (by kernel_rfl) (by kernel_rfl) (by kernel_rfl) (fun _ _ _ h => h) (Or.inl ⟨by rfl, ?_⟩) (by assumption) ?_
      rotate_left
      · (intro w hSw; (try dsimp only at hSw); have y0 := (hSw.cell (p := ⟨b2, off2 + k * 2, none⟩) HLB.out).trans Y0.out; have y1 := (hSw.cell (p := ⟨b2, off2 + k * 2 + 1, none⟩) HLB.out).trans Y1.out; have x0 := Blk.cell (Blk.below HMB.out hSw) 0; have x1 := Blk.cell (Blk.below HMB.out hSw) 1; simp only [List.getElem?_toArray, List.getElem?_cons_zero, List.getElem?_cons_succ] at x0 x1; go_simp; (try with_reducible rfl))
      simp only [Act.put, List.getElem_toArray, List.getElem_cons_zero, List.getElem_cons_succ, List.setIfInBounds_toArray, List.set_cons_zero, List.set_cons_succ]
      refine wpAnyH_take (i := 5) (v := ?_) rfl (by kernel_rfl) (by kernel_rfl) (by kernel_rfl) (fun _ _ _ h => h) (Or.inl ⟨by rfl, ?_⟩) (by assumption) ?_
      rotate_left
      · (intro w hSw; (try dsimp only at hSw); have y0 := (hSw.cell (p := ⟨b2, off2 + k * 2, none⟩) HLB.out).trans Y0.out; have y1 := (hSw.cell (p := ⟨b2, off2 + k * 2 + 1, none⟩) HLB.out).trans Y1.out; have x0 := Blk.cell (Blk.below HMB.out hSw) 0; have x1 := Blk.cell (Blk.below HMB.out hSw) 1; simp only [List.getElem?_toArray, List.getElem?_cons_zero, List.getElem?_cons_succ] at x0 x1; go_simp; (try with_reducible rfl))
      simp only [Act.put, List.getElem_toArray, List.getElem_cons_zero, List.getElem_cons_succ, List.setIfInBounds_toArray, List.set_cons_zero, List.set_cons_succ]
      refine wpAnyH_ready (rs := [6]) (by kernel_rfl) (by simp) ?_
      refine AllReadyH.cons rfl (fun K hK => ?_) AllReadyH.nil
      rw [if_pos (by rfl)]
      go_simp
      ((with_reducible refine (HF.out zn zb en eb _ (bch HBR.out hHeld)).mono ?_); rintro e V1 ⟨rfl, b1⟩)
      have HB1 := Lib.hid (bch HBR.out (bch hHeld b1))
      have hmb1 := Blk.below HMB.out (bch hHeld b1)
      have hzb1 := Blk.below HZB.out (bch hHeld b1)
      refine hK.out _ _ (bch hHeld b1) (fun hHeld2 => ?_)
      clear hK K hHeld
      have hHeld := hHeld2; clear hHeld2
      clear b1
      refine wpAnyH_take (i := 7) (v := ?_) rfl (by kernel_rfl) (by kernel_rfl) (by kernel_rfl) (fun _ _ _ h => h) (Or.inl ⟨by rfl, ?_⟩) (by assumption) ?_
      rotate_left
      · (intro w hSw; (try dsimp only at hSw); go_simp; (try with_reducible rfl))
      simp only [Act.put, List.getElem_toArray, List.getElem_cons_zero, List.getElem_cons_succ, List.setIfInBounds_toArray, List.set_cons_zero, List.set_cons_succ]
      refine wpAnyH_done (by kernel_rfl) ?_ _
      refine NoPanic.normal ?_
      skip
      have HMB1 := Lib.hid hmb1; clear hmb1
      have HZB1 := Lib.hid hzb1; clear hzb1
      have hE : decide (cmp9 (f zn : Nat) (f en : Nat) < 0) = decide (f zn < f en) := cmp9_lt'
      generalize cmp9 (f zn : Nat) (f en : Nat) = cz at *
      by_cases hc : f zn < f en
      · rw [decide_eq_true hc] at hE
        have hE2 := of_decide_eq_true hE
        clear hE
        have HNX2 : Hid (R = leastE f (l.drop (k + 1)) (zn, zb)) := by show _ = _; rw [HNX.out, if_pos hc]
        have y0 := (hHeld.cell (p := ⟨b2, off2 + k * 2, none⟩) HLB.out).trans Y0.out
        have y1 := (hHeld.cell (p := ⟨b2, off2 + k * 2 + 1, none⟩) HLB.out).trans Y1.out
        have x0 := Blk.cell HMB1.out 0
        have x1 := Blk.cell HMB1.out 1
        have f0 := Blk.frozen HMB1.out 0
        have f1 := Blk.frozen HMB1.out 1
        simp only [List.getElem?_toArray, List.getElem?_cons_zero, List.getElem?_cons_succ] at x0 x1
        have hm3 := Blk.set (Blk.set HMB1.out 0 (.int .i64 zn) #[.int .i64 zn, .int .i64 eb] rfl) 1 (.int .i64 zb) #[.int .i64 zn, .int .i64 zb] rfl
        have hz3 := Blk.far (Blk.far HZB1.out (show w.heap.size ≠ g5 by have := HLT.out; omega) 0 (.int .i64 zn)) (show w.heap.size ≠ g5 by have := HLT.out; omega) 1 (.int .i64 zb)
        have hb3 := (HB1.out.setCell (p := ⟨g5, 0, none⟩) (show w.heap.size ≤ g5 by have := HLT.out; omega) (.int .i64 zn)).setCell (p := ⟨g5, 1, none⟩) (show w.heap.size ≤ g5 by have := HLT.out; omega) (.int .i64 zb)
        have HM3 := Lib.hid hm3; clear hm3
        have HZ3 := Lib.hid hz3; clear hz3
        have HB3 := Lib.hid hb3; clear hb3
        clear hc HNX hHeld
        go_wp2_with fail
        go_roundw
        case rel => exact ⟨k + 1, zn, zb, _, rfl, by omega, by omega, by go_num, HNX2, HM3, HZ3, HB3⟩
        case measure => simp [intOf]; omega
      · rw [decide_eq_false hc] at hE
        have hE2 := of_decide_eq_false hE
        clear hE
        have HNX2 : Hid (R = leastE f (l.drop (k + 1)) (en, eb)) := by show _ = _; rw [HNX.out, if_neg hc]
        clear hc HNX hHeld
        go_wp2_with fail
        go_roundw
        case rel => exact ⟨k + 1, en, eb, _, rfl, by omega, by omega, by go_num, HNX2, HMB1, HZB1, HB1⟩
        case measure => simp [intOf]; omega
    · have hke : k = n := by omega
      subst hke
      have HE : Hid (R = (en, eb)) := by show _ = _; rw [hR.out, HN.out, List.drop_length]; rfl
      have z0 := Blk.cell HMB.out 0
      have z1 := Blk.cell HMB.out 1
      have x0 := Blk.cell HZB.out 0
      have x1 := Blk.cell HZB.out 1
      have f0 := Blk.frozen HZB.out 0
      have f1 := Blk.frozen HZB.out 1
      simp only [List.getElem?_toArray, List.getElem?_cons_zero, List.getElem?_cons_succ] at x0 x1 z0 z1
      have hz3 := Blk.set (Blk.set HZB.out 0 (.int .i64 en) #[.int .i64 en, .int .i64 0] rfl) 1 (.int .i64 eb) #[.int .i64 en, .int .i64 eb] rfl
      have hb3 := (HBR.out.setCell (p := ⟨w.heap.size, 0, none⟩) (Nat.le_refl _) (.int .i64 en)).setCell (p := ⟨w.heap.size, 1, none⟩) (Nat.le_refl _) (.int .i64 eb)
      have HZ3 := Lib.hid hz3; clear hz3
      have HB3 := Lib.hid hb3; clear hb3
      clear hlt hR
      go_wp2_with fail
      have e0 := Blk.cell HZ3.out 0
      have e1 := Blk.cell HZ3.out 1
      simp only [List.getElem?_toArray, List.getElem?_cons_zero, List.getElem?_cons_succ] at e0 e1
      refine bodyPost_ret (v := .agg #[.int .i64 en, .int .i64 eb]) (by simp [results, Try.results49, go_sem, e0, e1]) rfl ?_
      rw [HE.out]
      exact ⟨rfl, HB3.out⟩
end Go.Proofs.Ytndkmepdnekigaa
