import Derived.Test.YtbncaolflhmgpaaDiskStepsC
import Derived.Test.YtbncaolflhmgpaaOpen
import Derived.Deep.CutBlock
import Derived.Deep.RegionLaw
/-
  What was synced stays the log's beginning, until it is swapped, whatever is done: the walk of DiskOrder, over what is asked of the program (stage 7).
-/
namespace Go.Proofs.Ytbncaolflhmgpaa
open Go.RowKit
set_option linter.unusedVariables false

/-- A slice of ints. -/
def IsNums (w : World) (A : Option Addr) (n : Nat) (g : Nat → Int) : Prop :=
  n ≤ 9223372036854775807 ∧ (0 < n → ∃ b off, A = some ⟨b, off, none⟩ ∧ b < w.heap.size ∧ ∀ i, i < n → w.cell? ⟨b, off + i, none⟩ = some (.int .i64 (g i)) ∧ (Lit.int .i64 (g i)).wf = true)
theorem isNums_row {w : World} {A : Option Addr} {len cap : Nat} {zs : List Int} (h : IsRow .i64 w A len cap zs) : IsNums w A len (fun i => zs.getD i 0) := by
  rcases h with ⟨rfl, rfl, rfl, rfl⟩ | ⟨x, rfl, hl, hm, hz, hcell, hwz⟩
  · exact ⟨by omega, fun h => by omega⟩
  · unfold maxLen at hm
    refine ⟨by omega, fun hpos => ?_⟩
    have hc0 := hcell 0 (by omega)
    have hspot : x.spot = none := World.cell?_spot (a := x) (by simpa [Addr.add] using hc0)
    refine ⟨x.block, x.off, by cases x; simp_all, lt_of_cell (a := ⟨x.block, _, none⟩) (cell_form hc0 hspot), fun i hi => ⟨cell_form (hcell i (by omega)) hspot, hwz _ (by show zs.getD i 0 ∈ zs; rw [List.getD_eq_getElem?_getD, List.getElem?_eq_getElem (by omega)]; exact List.getElem_mem _)⟩⟩

theorem tmod_bound (z v : Int) (h : z.tmod 40 = v) : v < 40 ∧ -40 < v := by
  by_cases h0 : 0 ≤ z
  · rw [Int.tmod_eq_emod_of_nonneg h0] at h; omega
  · have e := Int.neg_tmod (-z) 40
    have h2 : (-z).tmod 40 = (-z) % 40 := Int.tmod_eq_emod_of_nonneg (by omega)
    rw [Int.neg_neg, h, h2] at e
    omega
/-- What holds between two things that are done. -/
def OrdP (i : Nat) (kept pend safe all : ByteArray) : Prop := kept ++ pend = all ∧ all.size ≤ 50 * i ∧ safe.size ≤ kept.size ∧ all.extract 0 safe.size = safe
theorem ext_all (a : ByteArray) : a.extract 0 a.size = a := bytes_eq (by rw [ext_bytes0_, List.take_of_length_le (by simp)])
theorem ord_start : OrdP 0 ⟨#[]⟩ ⟨#[]⟩ ⟨#[]⟩ ⟨#[]⟩ := ⟨app_nil _, by decide, by decide, ext_all _⟩
theorem OrdP.sync {i : Nat} {kept pend safe all : ByteArray} (h : OrdP i kept pend safe all) : OrdP (i + 1) all ⟨#[]⟩ all all := ⟨app_nil _, by have := h.2.1; omega, Nat.le_refl _, ext_all _⟩
theorem OrdP.crash {i : Nat} {kept pend safe all x : ByteArray} {m : Nat} (h : OrdP i kept pend safe all) (hm : m ≤ pend.size) (hx : kept ++ pend.extract 0 m = x) : OrdP (i + 1) x ⟨#[]⟩ x x := by
  obtain ⟨h1, h2, _, _⟩ := h
  have z1 : x.size = kept.size + m := by rw [← hx, ByteArray.size_append, ext_size pend hm]
  have z2 : all.size = kept.size + pend.size := by rw [← h1]; exact ByteArray.size_append
  exact ⟨app_nil _, by omega, Nat.le_refl _, ext_all _⟩
theorem OrdP.swap {i : Nat} {kept pend safe all : ByteArray} (h : OrdP i kept pend safe all) : OrdP (i + 1) ⟨#[]⟩ ⟨#[]⟩ ⟨#[]⟩ ⟨#[]⟩ := ⟨app_nil _, Nat.zero_le _, by decide, ext_all _⟩
theorem OrdP.app {i : Nat} {kept pend safe all t : ByteArray} (h : OrdP i kept pend safe all) (ht : t.size ≤ 50) : OrdP (i + 1) kept (pend ++ t) safe (all ++ t) := by
  obtain ⟨h1, h2, h3, h4⟩ := h
  have z2 : all.size = kept.size + pend.size := by rw [← h1]; exact ByteArray.size_append
  refine ⟨bytes_eq (by rw [← h1]; simp only [add_data, List.append_assoc]), by rw [ByteArray.size_append]; omega, h3, ?_⟩
  refine Eq.trans (bytes_eq ?_) h4
  rw [ext_bytes0_, ext_bytes0_, add_data, List.take_append_of_le_length (by simp; omega)]
theorem OrdP.size {i : Nat} {kept pend safe all : ByteArray} (h : OrdP i kept pend safe all) : all.size = kept.size + pend.size := by rw [← h.1]; exact ByteArray.size_append
/-- What is in memory between two things that are done. -/
def OrdM (w wx : World) (g i : Nat) (safe all : ByteArray) : Prop := ∃ base kept pend : ByteArray, DkBlk wx g base kept pend ∧ OrdP i kept pend safe all ∧ Below w.heap.size w wx
theorem below_put {w W : World} {g : Nat} (h : Below w.heap.size w W) (hg : w.heap.size ≤ g) (x y z : Value) : Below w.heap.size w (((W.setCell ⟨g, 0, none⟩ x).setCell ⟨g, 1, none⟩ y).setCell ⟨g, 2, none⟩ z) :=
  ((h.setCell (p := ⟨g, 0, none⟩) hg _).setCell (p := ⟨g, 1, none⟩) hg _).setCell (p := ⟨g, 2, none⟩) hg _

set_option maxRecDepth 100000 in
set_option maxHeartbeats 8000000 in
theorem diskOrder_core (hL : LogC) (hA : AppC) (hY : SyncC) (hC : CrashC) (hP : SwapC) (A0 : Option Addr) (n0 cap0 : Nat) (f0 : Nat → ByteArray) (A1 : Option Addr) (n1 cap1 : Nat) (z1 : List Int) (w : World)
    (h0 : IsStrs w A0 n0 f0) (h1 : IsRow .i64 w A1 n1 cap1 z1) :
    Calls Try.prog 7 #[.slice A0 n0 cap0, .slice A1 n1 cap1] w fun e w' => e = .returned (.bool true) ∧ Below w.heap.size w w' := by
  have qw := awake7_any hL hA hY hC hP
  have h1' := isNums_row h1
  clear h1
  obtain ⟨m0, hc0⟩ := h0
  obtain ⟨m1, hc1⟩ := h1'
  generalize (fun i => z1.getD i 0) = z at hc1
  have HC0 := Lib.hid hc0; clear hc0
  have HC1 := Lib.hid hc1; clear hc1
  have HA := Lib.hid hA; clear hA
  have HY := Lib.hid hY; clear hY
  have HL := Lib.hid hL; clear hL
  have HP := Lib.hid hP; clear hP
  have HC := Lib.hid hC; clear hC
  go_enter Try.func7, Try.ntmps7
  go_wp2_with fail
  ((with_reducible refine (qw _).mono ?_); rintro e W1 ⟨rfl, b1⟩)
  have hbv : Below w.heap.size w (W1.alloc (.cells #[.string ⟨#[]⟩, .string ⟨#[]⟩, .string ⟨#[]⟩] 23)) := b1.alloc b1.size _
  have hdv := DkBlk.new W1 ⟨#[]⟩ ⟨#[]⟩ ⟨#[]⟩
  have hge := b1.size
  go_upto_region 3 with fail
  obtain ⟨V1, hV1⟩ : ∃ W, W1.alloc (.cells #[.string ⟨#[]⟩, .string ⟨#[]⟩, .string ⟨#[]⟩] 23) = W := ⟨_, rfl⟩
  rw [hV1] at hbv hdv
  rw [hV1]
  clear hV1 b1
  generalize W1.heap.size = g at *
  have HM0 : Hid (OrdM w V1 g 0 ⟨#[]⟩ ⟨#[]⟩) := ⟨_, _, _, hdv, ord_start, hbv⟩
  have HGE := Lib.hid hge; clear hge hbv hdv
  go_wp2_with fail
  go_loopw [7, 8, 9] (fun s7 s8 i wy => ∃ (k : Nat) (safe all : ByteArray), k ≤ n1 ∧ k ≤ 20 ∧ i = .int .i64 k ∧ s7 = .string safe ∧ s8 = .string all ∧ Hid (OrdM w wy g k safe all)) (fun _ _ i _ => n1 - (intOf i).toNat)
  case atStart => exact ⟨0, _, _, by omega, by omega, rfl, rfl, rfl, HM0⟩
  case round =>
    clear HM0
    obtain ⟨k, safe, all, hk1, hk20, rfl, rfl, rfl, hm⟩ := hrel
    by_cases hlt : k < n1
    · by_cases h20 : k < 20
      · obtain ⟨base, kept, pend, hd, hp, hbw⟩ := hm.out
        have HBW := Lib.hid hbw; clear hbw
        have HD := Lib.hid hd; clear hd hm
        have HPP := Lib.hid hp; clear hp
        go_upto_if 31 with fail
        go_cut [10] (fun s10 wx => ∃ t : ByteArray, s10 = .string t ∧ t.size ≤ 50 ∧ Below wr.heap.size wr wx)
        case first =>
          by_cases hl0 : k < n0
          · obtain ⟨b, off, hA0, hb, hat⟩ := HC0.out (by omega)
            subst hA0
            obtain ⟨c0, hsz⟩ := hat k hl0
            have c1 := (HBW.out.cell (p := ⟨b, off + k, none⟩) hb).trans c0
            clear hat c0
            generalize f0 k = T at c1 hsz
            obtain ⟨m, i0', k0, l0⟩ := leastD T 50
            have i0 : (if (50 : Int) < (T.size : Int) then (50 : Int) else (T.size : Int)) = (m : Int) := i0'
            clear i0'
            obtain ⟨t, ht⟩ : ∃ t, T.extract 0 m = t := ⟨_, rfl⟩
            have zt : t.size ≤ 50 := by rw [← ht, ext_size T k0]; exact l0
            have st := fun W => slice_to ht k0 W
            have j0 : (m : Int) ≤ (T.size : Int) := by omega
            have j1 : (0 : Int) ≤ (k : Int) := by omega
            have j2 : (k : Int) < (n0 : Int) := by omega
            have ZT := Lib.hid zt; clear zt ht l0
            go_wp2_with fail
            go_quiet (fail)
            go_wp2_with fail
            go_meet
            exact ⟨t, rfl, ZT.out, bdn (Below.refl _ _) _⟩
          · go_wp2_with fail
            go_meet
            exact ⟨_, rfl, by decide, Below.refl _ _⟩
        case rest =>
          obtain ⟨t, rfl, zt, hbt⟩ := hcut
          have HB2 := Lib.hid (bch HBW.out hbt)
          have HD2 := Lib.hid (HD.out.below hbt)
          clear hbt HD HBW
          obtain ⟨b1, off1, hA1, hb1, hat1⟩ := HC1.out (by omega)
          subst hA1
          obtain ⟨c0, wf0⟩ := hat1 k hlt
          have c1 := (HB2.out.cell (p := ⟨b1, off1 + k, none⟩) hb1).trans c0
          have C0 := Lib.hid c0; clear c0 hat1
          have hb1' := Lib.hid hb1; clear hb1
          have qp := pickK_nat (z k) 6 (by omega) (by omega) wf0
          have hp6 := pickN_lt (z k) 6 (by omega)
          generalize pickN (z k) 6 = p at qp hp6
          obtain ⟨v, hv⟩ : ∃ v, (z k).tmod 40 = v := ⟨_, rfl⟩
          have hvw : (Lit.int .i64 v).wf = true := by
            have h1 : v < 40 ∧ -40 < v := tmod_bound (z k) v hv
            rw [show (Lit.int .i64 v).wf = (decide (-9223372036854775808 ≤ v) && decide (v ≤ 9223372036854775807)) from rfl]
            simp; omega
          have HW0 := Lib.hid wf0; clear wf0
          have HVW := Lib.hid hvw; clear hvw
          generalize z k = zk at *
          have j1 : (0 : Int) ≤ (k : Int) := by omega
          have j2 : (k : Int) < (n1 : Int) := by omega
          have hsz := HPP.out.size
          have hal := HPP.out.2.1
          have hsk := HPP.out.2.2.1
          go_wp2_with fail
          ((with_reducible refine (qp _).mono ?_); rintro e Wp ⟨rfl, rfl⟩)
          go_upto_block 2 with fail
          go_cut [7, 8] (fun s7 s8 wx => ∃ safe' all' : ByteArray, s7 = .string safe' ∧ s8 = .string all' ∧ OrdM w wx g (k + 1) safe' all')
          case first =>
            obtain ⟨x0, x1, x2⟩ := HD2.out.cells
            rcases (by omega : p = 0 ∨ p = 1 ∨ p = 2 ∨ 3 ≤ p) with rfl | rfl | rfl | hp3
            · have q := fun W => HY.out.at (a := base) HPP.out.1 (by omega) (by omega) W
              go_wp2_with fail
              ((with_reducible refine (q _).mono ?_); rintro e W2 ⟨rfl, b2⟩)
              have hd3 := HD2.out.below b2
              have hb3 := bch HB2.out b2
              clear x0 x1 x2 b2 c1
              obtain ⟨x0, x1, x2⟩ := hd3.cells
              have y0 := hd3.frozen 0
              have y1 := hd3.frozen 1
              have y2 := hd3.frozen 2
              have HD3 := Lib.hid hd3; clear hd3
              have HB3 := Lib.hid hb3; clear hb3
              go_wp2_with fail
              go_meet
              exact ⟨_, _, rfl, rfl, base, all, _, HD3.out.put base all ⟨#[]⟩, HPP.out.sync, below_put HB3.out HGE.out _ _ _⟩
            · obtain ⟨x, hx⟩ : ∃ x, kept ++ pend.extract 0 (tearN v pend.size) = x := ⟨_, rfl⟩
              have q := fun W => HC.out.at (a := base) hx (by omega) (by omega) HVW.out W
              have htl := tearN_le v pend.size
              have zx : x.size = kept.size + tearN v pend.size := by rw [← hx, ByteArray.size_append, ext_size pend htl]
              have qL := fun W => HL.out.at (a := base) (app_nil x) (by omega) (by decide) W
              have dl1 : decide ((x.size : Int) < (safe.size : Int)) = false := decide_eq_false (by omega)
              have dl2 : ¬ x.size < safe.size := by omega
              have HXX := Lib.hid hx; clear hx zx htl
              have y0 := HD2.out.frozen 0
              have y1 := HD2.out.frozen 1
              have y2 := HD2.out.frozen 2
              go_upto_region 21 with fail
              go_region_law (first | (go_simp; go_at_call 11; refine (q _).mono ?_; rintro e V1 ⟨rfl, bq⟩; have hd3 := (DkBlk.drew HD2.out).below bq; obtain ⟨d0, d1, d2⟩ := hd3.cells; have e0 := hd3.frozen 0; have e1 := hd3.frozen 1; have e2 := hd3.frozen 2; have HD3 := Lib.hid hd3; clear hd3))
              all_goals
                have hb4 := below_put (bch HB2.out.drew bq) HGE.out (.string base) (.string x) (.string ⟨#[]⟩)
                have hd4 := HD3.out.put base x ⟨#[]⟩
                clear d0 d1 d2 e0 e1 e2 x0 x1 x2 y0 y1 y2 c1 bq
                obtain ⟨V4, hV4⟩ : ∃ W, (((V1.setCell ⟨g, 0, none⟩ (.string base)).setCell ⟨g, 1, none⟩ (.string x)).setCell ⟨g, 2, none⟩ (.string ⟨#[]⟩)) = W := ⟨_, rfl⟩
                rw [hV4] at hb4 hd4 ⊢
                clear hV4
                obtain ⟨x0, x1, x2⟩ := hd4.cells
                have HD4 := Lib.hid hd4; clear hd4
                have HB4 := Lib.hid hb4; clear hb4
                go_wp2_with fail
                ((with_reducible refine (qL _).mono ?_); rintro e V5 ⟨rfl, b5⟩)
                clear x0 x1 x2
                go_wp2_with fail
                go_meet
                exact ⟨x, x, rfl, rfl, base, x, _, HD4.out.below b5, HPP.out.crash (tearN_le _ _) HXX.out, bch HB4.out b5⟩
            · have q := fun W => HP.out.ok (a := base) (b := kept) (c := pend) (s := all) (by omega) W
              have t1 : (all.toList == all.toList) = true := by simp
              have t2 : (all.toList != all.toList) = false := by simp
              go_wp2_with fail
              ((with_reducible refine (q _).mono ?_); rintro e W2 ⟨rfl, b2⟩)
              have hd3 := HD2.out.below b2
              have hb3 := bch HB2.out b2
              clear x0 x1 x2 b2 c1
              go_upto_region 28 with fail
              have hn := DkBlk.new W2 all ⟨#[]⟩ ⟨#[]⟩
              have hd4 := hd3.below ((Below.refl _ _).alloc (Nat.le_refl _) (.cells #[.string all, .string ⟨#[]⟩, .string ⟨#[]⟩] 23))
              have hb4 := hb3.alloc hb3.size (.cells #[.string all, .string ⟨#[]⟩, .string ⟨#[]⟩] 23)
              obtain ⟨V4, hV4⟩ : ∃ W, W2.alloc (.cells #[.string all, .string ⟨#[]⟩, .string ⟨#[]⟩] 23) = W := ⟨_, rfl⟩
              rw [hV4] at hn hd4 hb4 ⊢
              clear hV4
              obtain ⟨x0, x1, x2⟩ := hn.cells
              obtain ⟨d0, d1, d2⟩ := hd4.cells
              have y0 := hd4.frozen 0
              have y1 := hd4.frozen 1
              have y2 := hd4.frozen 2
              have HD4 := Lib.hid hd4; clear hd4 hd3 hn
              have HB4 := Lib.hid hb4; clear hb4 hb3
              go_wp2_with fail
              go_meet
              exact ⟨_, _, rfl, rfl, all, _, _, HD4.out.put all ⟨#[]⟩ ⟨#[]⟩, HPP.out.swap, below_put HB4.out HGE.out _ _ _⟩
            · obtain ⟨y, hy⟩ : ∃ y, pend ++ t = y := ⟨_, rfl⟩
              obtain ⟨a2, ha2⟩ : ∃ y, all ++ t = y := ⟨_, rfl⟩
              have q := fun W => HA.out.ok (a := base) (b := kept) hy (by omega) W
              have hadd : ∀ W : World, (Op.stringOp .add all t).run Try.prog W = .ok (.string a2) W := fun W => by rw [← ha2]; exact str_add (by omega) W
              have HN := Lib.hid (HPP.out.app zt)
              rw [hy, ha2] at HN
              have n0 : ((p : Int) == 0) = false := by simp; omega
              have n1' : ((p : Int) == 1) = false := by simp; omega
              have n2 : ((p : Int) == 2) = false := by simp; omega
              clear hy ha2 hp3
              go_wp2_with fail
              ((with_reducible refine (q _).mono ?_); rintro e W2 ⟨rfl, b2⟩)
              have hd3 := HD2.out.below b2
              have hb3 := bch HB2.out b2
              clear x0 x1 x2 b2 c1
              go_upto_region 13 with fail
              have hn := DkBlk.new W2 base kept y
              have hd4 := hd3.below ((Below.refl _ _).alloc (Nat.le_refl _) (.cells #[.string base, .string kept, .string y] 23))
              have hb4 := hb3.alloc hb3.size (.cells #[.string base, .string kept, .string y] 23)
              obtain ⟨V4, hV4⟩ : ∃ W, W2.alloc (.cells #[.string base, .string kept, .string y] 23) = W := ⟨_, rfl⟩
              rw [hV4] at hn hd4 hb4 ⊢
              clear hV4
              obtain ⟨x0, x1, x2⟩ := hn.cells
              obtain ⟨d0, d1, d2⟩ := hd4.cells
              have y0 := hd4.frozen 0
              have y1 := hd4.frozen 1
              have y2 := hd4.frozen 2
              have HD4 := Lib.hid hd4; clear hd4 hd3 hn
              have HB4 := Lib.hid hb4; clear hb4 hb3
              go_wp2_with fail
              go_meet
              exact ⟨_, _, rfl, rfl, base, kept, y, HD4.out.put base kept y, HN.out, below_put HB4.out HGE.out _ _ _⟩
          case rest =>
            obtain ⟨safe2, all2, rfl, rfl, base2, kept2, pend2, hd, hp, hb⟩ := hcut
            clear HD2 HB2 HPP hsz hal hsk c1 qp
            have hsz := hp.size
            have hal := hp.2.1
            have hsk := hp.2.2.1
            have q := fun W => HL.out.at (a := base2) hp.1 (by omega) (by omega) W
            have ssl := fun W => slice_to hp.2.2.2 (by omega) W
            have t1 : (all2.toList == all2.toList) = true := by simp
            have t2 : (all2.toList != all2.toList) = false := by simp
            have t3 : (safe2.toList == safe2.toList) = true := by simp
            have t4 : (safe2.toList != safe2.toList) = false := by simp
            have dl1 : decide ((kept2.size : Int) < (safe2.size : Int)) = false := decide_eq_false (by omega)
            have dl2 : ¬ kept2.size < safe2.size := by omega
            have i1 : (safe2.size : Int) ≤ (all2.size : Int) := by omega
            obtain ⟨x0, x1, x2⟩ := hd.cells
            have HD := Lib.hid hd; clear hd
            have HPP := Lib.hid hp; clear hp hsz hal hsk
            have HB := Lib.hid hb; clear hb
            go_wp2_with fail
            ((with_reducible refine (q _).mono ?_); rintro e W2 ⟨rfl, b2⟩)
            clear x0 x1 x2
            have hd3 := HD.out.below b2
            obtain ⟨x0, x1, x2⟩ := hd3.cells
            have HM : Hid (OrdM w W2 g (k + 1) safe2 all2) := ⟨base2, kept2, pend2, hd3, HPP.out, bch HB.out b2⟩
            clear hd3 b2 HD HB HPP
            go_wp2_with fail
            go_roundw
            case rel => exact ⟨k + 1, safe2, all2, by omega, by omega, by go_num, rfl, rfl, HM⟩
            case measure => simp [intOf]; omega
      · have hk : k = 20 := by omega
        subst hk
        obtain ⟨base, kept, pend, hd, hp, hb⟩ := hm.out
        clear hm hd hp
        go_wp2_with fail
        go_ret
        exact ⟨rfl, hb⟩
    · obtain ⟨base, kept, pend, hd, hp, hb⟩ := hm.out
      clear hm hd hp
      go_wp2_with fail
      go_ret
      exact ⟨rfl, hb⟩
end Go.Proofs.Ytbncaolflhmgpaa
