import Derived.Test.YtjciojgldibfmaaFrScan
import Derived.Test.YtjciojgldibfmaaGPick
import Derived.Test.YtjciojgldibfmaaOpen
import Derived.Deep.DeepCutAuto
/-
  The contract of the law package's own helper 'Frames' (stage 6): at most twelve frames that may be, by a version, in new memory; and what the laws' walks ask of the program's functions.
-/
namespace Go.Proofs.Ytjciojgldibfmaa
open Go.RowKit
set_option linter.unusedVariables false

/-- What Frames makes. -/
def NiceFr (v : Int) (fs : List Frm) : Prop := fs.length ≤ 12 ∧ ∀ f ∈ fs, okF v f = true ∧ f.data.size ≤ 300
theorem NiceFr.nil (v : Int) : NiceFr v [] := ⟨by simp, fun f h => by simp at h⟩
theorem NiceFr.snoc {v : Int} {fs : List Frm} {f : Frm} (h : NiceFr v fs) (h12 : fs.length < 12) (h1 : okF v f = true) (h2 : f.data.size ≤ 300) : NiceFr v (fs ++ [f]) :=
  ⟨by simp; omega, fun g hg => by
    rcases List.mem_append.1 hg with hg | hg
    · exact h.2 g hg
    · simp at hg; subst hg; exact ⟨h1, h2⟩⟩
theorem NiceFr.wf {v : Int} {fs : List Frm} (h : NiceFr v fs) : ∀ f ∈ fs, FrWf f := fun f hf => frWf_ok (h.2 f hf).1
theorem NiceFr.ok {v : Int} {fs : List Frm} (h : NiceFr v fs) : ∀ f ∈ fs, okF v f = true := fun f hf => (h.2 f hf).1
theorem NiceFr.len {v : Int} {fs : List Frm} (h : NiceFr v fs) : (encFs v fs).length ≤ 3780 := by
  have := encFs_le v fs 300 h.2
  have := h.1
  omega
/-- What Frames leaves. -/
def FramesPost (v : Int) (w : World) (e : Ending) (w' : World) : Prop :=
  ∃ A n cap fs, e = .returned (.slice A n cap) ∧ n ≤ cap ∧ cap ≤ 9223372036854775807 ∧ IsFr w' A n fs ∧ NiceFr v fs ∧ Below w.heap.size w w'
theorem leastF (T : ByteArray) (k : Nat) : ∃ m : Nat, (if (k : Int) < (T.size : Int) then (k : Int) else (T.size : Int)) = (m : Int) ∧ m ≤ T.size ∧ m ≤ k := by
  by_cases h : (k : Int) < (T.size : Int)
  · exact ⟨k, if_pos h, by omega, Nat.le_refl _⟩
  · exact ⟨T.size, if_neg h, Nat.le_refl _, by omega⟩

theorem owns_set {w : World} {base size n g j : Nat} {e : TypeId} {v u : Value} {xs : List Value} (h : w.ownsRow base e size v n xs) (hg : ∀ k, v.ownBlock = some k → k ≠ g) : (w.setCell ⟨g, j, none⟩ u).ownsRow base e size v n xs :=
  h.kept (row := some g) ⟨rfl, rfl, rfl, by simp, fun i _ hne => heap_setCell_other w ⟨g, j, none⟩ i u (fun e => hne (by rw [e]))⟩ (by
    cases hv : v.ownBlock with
    | none => exact .inl rfl
    | some x => exact .inr (fun e => hg x hv (by injection e)))

set_option maxRecDepth 100000 in
set_option maxHeartbeats 4000000 in
theorem frames_one (A : Option Addr) (n cap : Nat) (f : Nat → Nat → Int) (B : Option Addr) (m cap2 : Nat) (g_ : Nat → ByteArray) (w : World) (h : IsRaw w A n 3 f) (h2 : IsStrs w B m g_) :
    Calls Try.prog 16 #[.int .i64 1, .slice A n cap, .slice B m cap2] w (FramesPost 1 w) := by
  obtain ⟨hm, hc⟩ := h
  obtain ⟨hm2, hc2⟩ := h2
  have HC := Lib.hid hc; clear hc
  have HC2 := Lib.hid hc2; clear hc2
  obtain ⟨i0, hi, hz0, hz1, hz2⟩ := info_parts infoFrm
  go_enter Try.func16, Try.ntmps16
  go_wp2_with fail
  go_loopw [7, 8] (fun l i wr => ∃ (pre : List Frm), pre.length ≤ n ∧ Hid (NiceFr 1 pre) ∧ i = .int .i64 pre.length ∧ wr.ownsRow w.heap.size 23 3 l pre.length (cellsR pre) ∧ Below w.heap.size w wr) (fun _ i _ => 12 - (intOf i).toNat)
  case atStart => exact ⟨[], by simp, NiceFr.nil 1, rfl, World.ownsRow_nil _ _ _ _, Below.refl _ _⟩
  case round =>
    obtain ⟨pre, hpn, hni, rfl, hown, hbw⟩ := hrel
    obtain ⟨A1, cap1, hv, hcap, hcm, hfs⟩ := isFr_own hown hni.out.wf
    subst hv
    have hrow := fun k hk => (hown.lt k hk).2
    have HROW := Lib.hid hrow; clear hrow
    have HFS := Lib.hid hfs; clear hfs
    have HOWN := Lib.hid hown; clear hown
    by_cases hlt : pre.length < n
    · by_cases h12 : pre.length < 12
      · obtain ⟨b, off, hA, hb, hat⟩ := HC.out (by omega)
        subst hA
        obtain ⟨c0, wf0⟩ := hat pre.length 0 hlt (by omega)
        obtain ⟨c1, wf1⟩ := hat pre.length 1 hlt (by omega)
        obtain ⟨c2, wf2⟩ := hat pre.length 2 hlt (by omega)
        have hc0 := (hbw.cell (p := ⟨b, off + pre.length * 3 + 0, none⟩) hb).trans c0
        rw [Nat.add_zero] at hc0 c0
        have hle := hbw.size
        have p1 := pickF_nat (f pre.length 0) 9 (by omega) (by omega) wf0
        have q1 := pickN_lt (f pre.length 0) 9 (by omega)
        have p2 := pickF_nat (f pre.length 0) 255 (by omega) (by omega) wf0
        have q2 := pickN_lt (f pre.length 0) 255 (by omega)
        have p3 := pickF_nat (f pre.length 1) 256 (by omega) (by omega) wf1
        have q3 := pickN_lt (f pre.length 1) 256 (by omega)
        generalize pickN (f pre.length 0) 9 = x at p1 q1
        generalize pickN (f pre.length 0) 255 = x2 at p2 q2
        generalize pickN (f pre.length 1) 256 = x3 at p3 q3
        clear hat
        have HBW := Lib.hid hbw; clear hbw
        by_cases hm0 : 0 < m
        · obtain ⟨b2, off2, hA2, hb2, hat2⟩ := HC2.out hm0
          subst hA2
          have p4 := pickF_nat (f pre.length 2) m (by omega) (by omega) wf2
          have q4 := pickN_lt (f pre.length 2) m (by omega)
          generalize pickN (f pre.length 2) m = y at p4 q4
          obtain ⟨c9, hsz4⟩ := hat2 y (by omega)
          clear hat2
          generalize g_ y = T at c9 hsz4
          obtain ⟨k, hk, k1, k2⟩ := leastF T 300
          replace hk : (if (300 : Int) < (T.size : Int) then (300 : Int) else (T.size : Int)) = (k : Int) := hk
          obtain ⟨D, hD⟩ : ∃ D, T.extract 0 k = D := ⟨_, rfl⟩
          have hDs : D.size ≤ 300 := by rw [← hD, ByteArray.size_extract]; omega
          have hsl := fun W => slice_to hD k1 W
          clear hD k1 k2
          have HN : Hid (NiceFr 1 (pre ++ [⟨1 + (x : Int), 0, D⟩])) := hni.out.snoc h12 (okF_iff.2 ⟨by show (1 : Int) ≤ 1 + (x : Int); omega, by show 1 + (x : Int) ≤ 255; omega, by show (0 : Int) ≤ 0; omega, by show (0 : Int) ≤ 255; omega, by show (D : ByteArray).size ≤ 4000; omega, .inr ⟨rfl, by show 1 + (x : Int) ≤ 9; omega, rfl⟩⟩) hDs
          clear hDs
          go_wp2_with fail
          ((with_reducible refine (p1 _).mono ?_); rintro e V1 ⟨rfl, rfl⟩)
          go_upto_region 9 with fail
          have hgs : wr.heap.size = wr.heap.size := rfl
          obtain ⟨g, hg⟩ : ∃ g, wr.heap.size = g := ⟨_, rfl⟩
          have hfb : FrBlk (wr.alloc (.cells #[.int .i64 (1 + (x : Int)), .int .i64 0, .string ⟨#[]⟩] 23)) g ⟨1 + (x : Int), 0, ⟨#[]⟩⟩ := by rw [← hg]; exact FrBlk.new wr ⟨1 + (x : Int), 0, ⟨#[]⟩⟩
          have how : (wr.alloc (.cells #[.int .i64 (1 + (x : Int)), .int .i64 0, .string ⟨#[]⟩] 23)).ownsRow w.heap.size 23 3 (.slice A1 pre.length cap1) pre.length (cellsR pre) := HOWN.out.alloc _
          have hbb : Below w.heap.size w (wr.alloc (.cells #[.int .i64 (1 + (x : Int)), .int .i64 0, .string ⟨#[]⟩] 23)) := HBW.out.alloc HBW.out.size _
          obtain ⟨Wa, hWa⟩ : ∃ W, wr.alloc (.cells #[.int .i64 (1 + (x : Int)), .int .i64 0, .string ⟨#[]⟩] 23) = W := ⟨_, rfl⟩
          rw [hWa] at hfb how hbb
          rw [hWa]
          clear hWa
          have hge : w.heap.size ≤ g := by have := HBW.out.size; omega
          have hrg : ∀ k, (Value.slice A1 pre.length cap1).ownBlock = some k → k ≠ g := fun k hk => by have := HROW.out k hk; omega
          have HRG := Lib.hid hrg; clear hrg
          rw [hg]
          clear hgs hc0
          obtain ⟨g0, g1, g2⟩ := hfb.cells
          simp only at g0 g1 g2
          have z0 := hfb.frozen 0
          have z1 := hfb.frozen 1
          have z2 := hfb.frozen 2
          have hc2 := (hbb.cell (p := ⟨b, off + pre.length * 3 + 2, none⟩) hb).trans c2
          have hc9 := (hbb.cell (p := ⟨b2, off2 + y, none⟩) hb2).trans c9
          have HFB := Lib.hid hfb; clear hfb
          have HOW := Lib.hid how; clear how
          have HBB := Lib.hid hbb; clear hbb
          go_wp2_with fail
          ((with_reducible refine (p4 _).mono ?_); rintro e V1 ⟨rfl, rfl⟩)
          go_upto_region 12 with fail
          clear g0 g1 g2 z0 z1 z2 hc2 hc9
          have hfb : FrBlk (Wa.setCell ⟨g, 2, none⟩ (.string D)) g ⟨1 + (x : Int), 0, D⟩ := heap_setCell_same _ g 2 _ _ _ HFB.out
          have how : (Wa.setCell ⟨g, 2, none⟩ (.string D)).ownsRow w.heap.size 23 3 (.slice A1 pre.length cap1) pre.length (cellsR pre) := owns_set HOW.out HRG.out
          have hbb : Below w.heap.size w (Wa.setCell ⟨g, 2, none⟩ (.string D)) := HBB.out.setCell (p := ⟨g, 2, none⟩) hge _
          obtain ⟨Wd, hWd⟩ : ∃ W, Wa.setCell ⟨g, 2, none⟩ (.string D) = W := ⟨_, rfl⟩
          rw [hWd] at hfb how hbb
          rw [hWd]
          clear hWd
          clear HFB HOW HBB
          obtain ⟨g0, g1, g2⟩ := hfb.cells
          simp only at g0 g1 g2
          have z0 := hfb.frozen 0
          have z1 := hfb.frozen 1
          have z2 := hfb.frozen 2
          have hc2 := (hbb.cell (p := ⟨b, off + pre.length * 3 + 2, none⟩) hb).trans c2
          have hc9 := (hbb.cell (p := ⟨b2, off2 + y, none⟩) hb2).trans c9
          have HFB := Lib.hid hfb; clear hfb
          have HOW := Lib.hid how; clear how
          have HBB := Lib.hid hbb; clear hbb
          have hown3 : (Wd.alloc (.cells #[.int .i64 (1 + (x : Int)), .int .i64 0, .string D] 23)).ownsRow w.heap.size 23 3 (.slice A1 pre.length cap1) pre.length (cellsR pre) := HOW.out.alloc _
          have HO3 := Lib.hid hown3; clear hown3
          have HCL := Lib.hid (cell_three_new Wd (.int .i64 (1 + (x : Int))) (.int .i64 0) (.string D) 23)
          go_wp2_with (at_builtin; refine wpList_append_own_at _ rfl _ _ 32 rfl w.heap.size 23 i0 (.agg #[.int .i64 0, .int .i64 0, .string ⟨#[]⟩]) 3 32 Try.underlying32 hi hz0 hz1 hz2 rfl (by decide) _ _ _ rfl HO3.out ⟨Wd.heap.size, 0, none⟩ 1 1 [.int .i64 (1 + (x : Int)), .int .i64 0, .string D] rfl rfl HCL.out ?c2 ?c3 ?c4 ?c5 ?_)
          case c2 => intro u hu; simp at hu; rcases hu with rfl | rfl | rfl <;> rfl
          case c3 => unfold maxLen; omega
          case c4 => omega
          case c5 => have := HBB.out.size; simp; omega
          intro v' V2 hown4 hgrow _ hat
          have hb9 : Below w.heap.size w V2 := (HBB.out.alloc HBB.out.size _).grown hgrow (by have := HBB.out.size; simp; omega) (fun g hg => (HO3.out.lt g hg).1)
          have HB9 := Lib.hid hb9; clear hb9 hgrow
          go_wp2_with fail
          go_roundw
          case rel => exact ⟨pre ++ [⟨1 + (x : Int), 0, D⟩], by simp; omega, HN, by simp, by rw [cellsR_append, List.length_append]; exact hown4, HB9.out⟩
          case measure => simp [intOf]; omega
        · have hm0' : m = 0 := by omega
          subst hm0'
          have hDs : (⟨#[]⟩ : ByteArray).size ≤ 300 := by decide
          clear hm0
          have HN : Hid (NiceFr 1 (pre ++ [⟨1 + (x : Int), 0, ⟨#[]⟩⟩])) := hni.out.snoc h12 (okF_iff.2 ⟨by show (1 : Int) ≤ 1 + (x : Int); omega, by show 1 + (x : Int) ≤ 255; omega, by show (0 : Int) ≤ 0; omega, by show (0 : Int) ≤ 255; omega, by show (⟨#[]⟩ : ByteArray).size ≤ 4000; omega, .inr ⟨rfl, by show 1 + (x : Int) ≤ 9; omega, rfl⟩⟩) hDs
          clear hDs
          go_wp2_with fail
          ((with_reducible refine (p1 _).mono ?_); rintro e V1 ⟨rfl, rfl⟩)
          go_upto_region 9 with fail
          have hgs : wr.heap.size = wr.heap.size := rfl
          obtain ⟨g, hg⟩ : ∃ g, wr.heap.size = g := ⟨_, rfl⟩
          have hfb : FrBlk (wr.alloc (.cells #[.int .i64 (1 + (x : Int)), .int .i64 0, .string ⟨#[]⟩] 23)) g ⟨1 + (x : Int), 0, ⟨#[]⟩⟩ := by rw [← hg]; exact FrBlk.new wr ⟨1 + (x : Int), 0, ⟨#[]⟩⟩
          have how : (wr.alloc (.cells #[.int .i64 (1 + (x : Int)), .int .i64 0, .string ⟨#[]⟩] 23)).ownsRow w.heap.size 23 3 (.slice A1 pre.length cap1) pre.length (cellsR pre) := HOWN.out.alloc _
          have hbb : Below w.heap.size w (wr.alloc (.cells #[.int .i64 (1 + (x : Int)), .int .i64 0, .string ⟨#[]⟩] 23)) := HBW.out.alloc HBW.out.size _
          obtain ⟨Wa, hWa⟩ : ∃ W, wr.alloc (.cells #[.int .i64 (1 + (x : Int)), .int .i64 0, .string ⟨#[]⟩] 23) = W := ⟨_, rfl⟩
          rw [hWa] at hfb how hbb
          rw [hWa]
          clear hWa
          have hge : w.heap.size ≤ g := by have := HBW.out.size; omega
          have hrg : ∀ k, (Value.slice A1 pre.length cap1).ownBlock = some k → k ≠ g := fun k hk => by have := HROW.out k hk; omega
          have HRG := Lib.hid hrg; clear hrg
          rw [hg]
          clear hgs hc0
          obtain ⟨g0, g1, g2⟩ := hfb.cells
          simp only at g0 g1 g2
          have z0 := hfb.frozen 0
          have z1 := hfb.frozen 1
          have z2 := hfb.frozen 2
          have hc2 := (hbb.cell (p := ⟨b, off + pre.length * 3 + 2, none⟩) hb).trans c2
          have HFB := Lib.hid hfb; clear hfb
          have HOW := Lib.hid how; clear how
          have HBB := Lib.hid hbb; clear hbb
          have hown3 : (Wa.alloc (.cells #[.int .i64 (1 + (x : Int)), .int .i64 0, .string ⟨#[]⟩] 23)).ownsRow w.heap.size 23 3 (.slice A1 pre.length cap1) pre.length (cellsR pre) := HOW.out.alloc _
          have HO3 := Lib.hid hown3; clear hown3
          have HCL := Lib.hid (cell_three_new Wa (.int .i64 (1 + (x : Int))) (.int .i64 0) (.string ⟨#[]⟩) 23)
          go_wp2_with (at_builtin; refine wpList_append_own_at _ rfl _ _ 32 rfl w.heap.size 23 i0 (.agg #[.int .i64 0, .int .i64 0, .string ⟨#[]⟩]) 3 32 Try.underlying32 hi hz0 hz1 hz2 rfl (by decide) _ _ _ rfl HO3.out ⟨Wa.heap.size, 0, none⟩ 1 1 [.int .i64 (1 + (x : Int)), .int .i64 0, .string ⟨#[]⟩] rfl rfl HCL.out ?c2 ?c3 ?c4 ?c5 ?_)
          case c2 => intro u hu; simp at hu; rcases hu with rfl | rfl | rfl <;> rfl
          case c3 => unfold maxLen; omega
          case c4 => omega
          case c5 => have := HBB.out.size; simp; omega
          intro v' V2 hown4 hgrow _ hat
          have hb9 : Below w.heap.size w V2 := (HBB.out.alloc HBB.out.size _).grown hgrow (by have := HBB.out.size; simp; omega) (fun g hg => (HO3.out.lt g hg).1)
          have HB9 := Lib.hid hb9; clear hb9 hgrow
          go_wp2_with fail
          go_roundw
          case rel => exact ⟨pre ++ [⟨1 + (x : Int), 0, ⟨#[]⟩⟩], by simp; omega, HN, by simp, by rw [cellsR_append, List.length_append]; exact hown4, HB9.out⟩
          case measure => simp [intOf]; omega
      · have h12' : pre.length = 12 := by have := hni.out.1; omega
        have h12i : ((pre.length : Int) < 12) = False := by simp; omega
        clear h12'
        go_wp2_with fail
        go_ret
        exact ⟨A1, _, cap1, pre, rfl, hcap, hcm, HFS.out, hni.out, hbw⟩
    · have hlt' : ((pre.length : Int) < (n : Int)) = False := by simp; omega
      go_wp2_with fail
      go_ret
      exact ⟨A1, _, cap1, pre, rfl, hcap, hcm, HFS.out, hni.out, hbw⟩
set_option maxRecDepth 100000 in
set_option maxHeartbeats 4000000 in
theorem frames_two (A : Option Addr) (n cap : Nat) (f : Nat → Nat → Int) (B : Option Addr) (m cap2 : Nat) (g_ : Nat → ByteArray) (w : World) (h : IsRaw w A n 3 f) (h2 : IsStrs w B m g_) :
    Calls Try.prog 16 #[.int .i64 2, .slice A n cap, .slice B m cap2] w (FramesPost 2 w) := by
  obtain ⟨hm, hc⟩ := h
  obtain ⟨hm2, hc2⟩ := h2
  have HC := Lib.hid hc; clear hc
  have HC2 := Lib.hid hc2; clear hc2
  obtain ⟨i0, hi, hz0, hz1, hz2⟩ := info_parts infoFrm
  go_enter Try.func16, Try.ntmps16
  go_wp2_with fail
  go_loopw [7, 8] (fun l i wr => ∃ (pre : List Frm), pre.length ≤ n ∧ Hid (NiceFr 2 pre) ∧ i = .int .i64 pre.length ∧ wr.ownsRow w.heap.size 23 3 l pre.length (cellsR pre) ∧ Below w.heap.size w wr) (fun _ i _ => 12 - (intOf i).toNat)
  case atStart => exact ⟨[], by simp, NiceFr.nil 2, rfl, World.ownsRow_nil _ _ _ _, Below.refl _ _⟩
  case round =>
    obtain ⟨pre, hpn, hni, rfl, hown, hbw⟩ := hrel
    obtain ⟨A1, cap1, hv, hcap, hcm, hfs⟩ := isFr_own hown hni.out.wf
    subst hv
    have hrow := fun k hk => (hown.lt k hk).2
    have HROW := Lib.hid hrow; clear hrow
    have HFS := Lib.hid hfs; clear hfs
    have HOWN := Lib.hid hown; clear hown
    by_cases hlt : pre.length < n
    · by_cases h12 : pre.length < 12
      · obtain ⟨b, off, hA, hb, hat⟩ := HC.out (by omega)
        subst hA
        obtain ⟨c0, wf0⟩ := hat pre.length 0 hlt (by omega)
        obtain ⟨c1, wf1⟩ := hat pre.length 1 hlt (by omega)
        obtain ⟨c2, wf2⟩ := hat pre.length 2 hlt (by omega)
        have hc0 := (hbw.cell (p := ⟨b, off + pre.length * 3 + 0, none⟩) hb).trans c0
        rw [Nat.add_zero] at hc0 c0
        have hle := hbw.size
        have p1 := pickF_nat (f pre.length 0) 9 (by omega) (by omega) wf0
        have q1 := pickN_lt (f pre.length 0) 9 (by omega)
        have p2 := pickF_nat (f pre.length 0) 255 (by omega) (by omega) wf0
        have q2 := pickN_lt (f pre.length 0) 255 (by omega)
        have p3 := pickF_nat (f pre.length 1) 256 (by omega) (by omega) wf1
        have q3 := pickN_lt (f pre.length 1) 256 (by omega)
        generalize pickN (f pre.length 0) 9 = x at p1 q1
        generalize pickN (f pre.length 0) 255 = x2 at p2 q2
        generalize pickN (f pre.length 1) 256 = x3 at p3 q3
        clear hat
        have HBW := Lib.hid hbw; clear hbw
        by_cases hm0 : 0 < m
        · obtain ⟨b2, off2, hA2, hb2, hat2⟩ := HC2.out hm0
          subst hA2
          have p4 := pickF_nat (f pre.length 2) m (by omega) (by omega) wf2
          have q4 := pickN_lt (f pre.length 2) m (by omega)
          generalize pickN (f pre.length 2) m = y at p4 q4
          obtain ⟨c9, hsz4⟩ := hat2 y (by omega)
          clear hat2
          generalize g_ y = T at c9 hsz4
          obtain ⟨k, hk, k1, k2⟩ := leastF T 300
          replace hk : (if (300 : Int) < (T.size : Int) then (300 : Int) else (T.size : Int)) = (k : Int) := hk
          obtain ⟨D, hD⟩ : ∃ D, T.extract 0 k = D := ⟨_, rfl⟩
          have hDs : D.size ≤ 300 := by rw [← hD, ByteArray.size_extract]; omega
          have hsl := fun W => slice_to hD k1 W
          clear hD k1 k2
          have HN : Hid (NiceFr 2 (pre ++ [⟨1 + (x2 : Int), (x3 : Int), D⟩])) := hni.out.snoc h12 (okF_iff.2 ⟨by show (1 : Int) ≤ 1 + (x2 : Int); omega, by show 1 + (x2 : Int) ≤ 255; omega, by show (0 : Int) ≤ (x3 : Int); omega, by show (x3 : Int) ≤ 255; omega, by show (D : ByteArray).size ≤ 4000; omega, .inl rfl⟩) hDs
          clear hDs
          go_wp2_with fail
          ((with_reducible refine (p1 _).mono ?_); rintro e V1 ⟨rfl, rfl⟩)
          go_upto_region 7 with fail
          have hgs : wr.heap.size = wr.heap.size := rfl
          obtain ⟨g, hg⟩ : ∃ g, wr.heap.size = g := ⟨_, rfl⟩
          have hfb : FrBlk (wr.alloc (.cells #[.int .i64 (1 + (x : Int)), .int .i64 0, .string ⟨#[]⟩] 23)) g ⟨1 + (x : Int), 0, ⟨#[]⟩⟩ := by rw [← hg]; exact FrBlk.new wr ⟨1 + (x : Int), 0, ⟨#[]⟩⟩
          have how : (wr.alloc (.cells #[.int .i64 (1 + (x : Int)), .int .i64 0, .string ⟨#[]⟩] 23)).ownsRow w.heap.size 23 3 (.slice A1 pre.length cap1) pre.length (cellsR pre) := HOWN.out.alloc _
          have hbb : Below w.heap.size w (wr.alloc (.cells #[.int .i64 (1 + (x : Int)), .int .i64 0, .string ⟨#[]⟩] 23)) := HBW.out.alloc HBW.out.size _
          obtain ⟨Wa, hWa⟩ : ∃ W, wr.alloc (.cells #[.int .i64 (1 + (x : Int)), .int .i64 0, .string ⟨#[]⟩] 23) = W := ⟨_, rfl⟩
          rw [hWa] at hfb how hbb
          rw [hWa]
          clear hWa
          have hge : w.heap.size ≤ g := by have := HBW.out.size; omega
          have hrg : ∀ k, (Value.slice A1 pre.length cap1).ownBlock = some k → k ≠ g := fun k hk => by have := HROW.out k hk; omega
          have HRG := Lib.hid hrg; clear hrg
          rw [hg]
          clear hgs hc0
          rw [← Nat.add_zero (off + pre.length * 3)] at c0
          obtain ⟨g0, g1, g2⟩ := hfb.cells
          simp only at g0 g1 g2
          have z0 := hfb.frozen 0
          have z1 := hfb.frozen 1
          have z2 := hfb.frozen 2
          have hc0 := (hbb.cell (p := ⟨b, off + pre.length * 3 + 0, none⟩) hb).trans c0
          have hc1 := (hbb.cell (p := ⟨b, off + pre.length * 3 + 1, none⟩) hb).trans c1
          have hc2 := (hbb.cell (p := ⟨b, off + pre.length * 3 + 2, none⟩) hb).trans c2
          have hc9 := (hbb.cell (p := ⟨b2, off2 + y, none⟩) hb2).trans c9
          have HFB := Lib.hid hfb; clear hfb
          have HOW := Lib.hid how; clear how
          have HBB := Lib.hid hbb; clear hbb
          rw [Nat.add_zero] at hc0
          go_wp2_with fail
          ((with_reducible refine (p2 _).mono ?_); rintro e V1 ⟨rfl, rfl⟩)
          go_upto_region 8 with fail
          clear g0 g1 g2 z0 z1 z2 hc0 hc1 hc2 hc9
          have hfb : FrBlk (Wa.setCell ⟨g, 0, none⟩ (.int .i64 (1 + (x2 : Int)))) g ⟨1 + (x2 : Int), 0, ⟨#[]⟩⟩ := heap_setCell_same _ g 0 _ _ _ HFB.out
          have how : (Wa.setCell ⟨g, 0, none⟩ (.int .i64 (1 + (x2 : Int)))).ownsRow w.heap.size 23 3 (.slice A1 pre.length cap1) pre.length (cellsR pre) := owns_set HOW.out HRG.out
          have hbb : Below w.heap.size w (Wa.setCell ⟨g, 0, none⟩ (.int .i64 (1 + (x2 : Int)))) := HBB.out.setCell (p := ⟨g, 0, none⟩) hge _
          obtain ⟨Wb, hWb⟩ : ∃ W, Wa.setCell ⟨g, 0, none⟩ (.int .i64 (1 + (x2 : Int))) = W := ⟨_, rfl⟩
          rw [hWb] at hfb how hbb
          rw [hWb]
          clear hWb
          clear HFB HOW HBB
          obtain ⟨g0, g1, g2⟩ := hfb.cells
          simp only at g0 g1 g2
          have z0 := hfb.frozen 0
          have z1 := hfb.frozen 1
          have z2 := hfb.frozen 2
          have hc0 := (hbb.cell (p := ⟨b, off + pre.length * 3 + 0, none⟩) hb).trans c0
          have hc1 := (hbb.cell (p := ⟨b, off + pre.length * 3 + 1, none⟩) hb).trans c1
          have hc2 := (hbb.cell (p := ⟨b, off + pre.length * 3 + 2, none⟩) hb).trans c2
          have hc9 := (hbb.cell (p := ⟨b2, off2 + y, none⟩) hb2).trans c9
          have HFB := Lib.hid hfb; clear hfb
          have HOW := Lib.hid how; clear how
          have HBB := Lib.hid hbb; clear hbb
          rw [Nat.add_zero] at hc0
          go_wp2_with fail
          ((with_reducible refine (p3 _).mono ?_); rintro e V1 ⟨rfl, rfl⟩)
          go_upto_region 9 with fail
          clear g0 g1 g2 z0 z1 z2 hc0 hc1 hc2 hc9
          have hfb : FrBlk (Wb.setCell ⟨g, 1, none⟩ (.int .i64 (x3 : Int))) g ⟨1 + (x2 : Int), (x3 : Int), ⟨#[]⟩⟩ := heap_setCell_same _ g 1 _ _ _ HFB.out
          have how : (Wb.setCell ⟨g, 1, none⟩ (.int .i64 (x3 : Int))).ownsRow w.heap.size 23 3 (.slice A1 pre.length cap1) pre.length (cellsR pre) := owns_set HOW.out HRG.out
          have hbb : Below w.heap.size w (Wb.setCell ⟨g, 1, none⟩ (.int .i64 (x3 : Int))) := HBB.out.setCell (p := ⟨g, 1, none⟩) hge _
          obtain ⟨Wc, hWc⟩ : ∃ W, Wb.setCell ⟨g, 1, none⟩ (.int .i64 (x3 : Int)) = W := ⟨_, rfl⟩
          rw [hWc] at hfb how hbb
          rw [hWc]
          clear hWc
          clear HFB HOW HBB
          obtain ⟨g0, g1, g2⟩ := hfb.cells
          simp only at g0 g1 g2
          have z0 := hfb.frozen 0
          have z1 := hfb.frozen 1
          have z2 := hfb.frozen 2
          have hc0 := (hbb.cell (p := ⟨b, off + pre.length * 3 + 0, none⟩) hb).trans c0
          have hc1 := (hbb.cell (p := ⟨b, off + pre.length * 3 + 1, none⟩) hb).trans c1
          have hc2 := (hbb.cell (p := ⟨b, off + pre.length * 3 + 2, none⟩) hb).trans c2
          have hc9 := (hbb.cell (p := ⟨b2, off2 + y, none⟩) hb2).trans c9
          have HFB := Lib.hid hfb; clear hfb
          have HOW := Lib.hid how; clear how
          have HBB := Lib.hid hbb; clear hbb
          rw [Nat.add_zero] at hc0
          go_wp2_with fail
          ((with_reducible refine (p4 _).mono ?_); rintro e V1 ⟨rfl, rfl⟩)
          go_upto_region 12 with fail
          clear g0 g1 g2 z0 z1 z2 hc0 hc1 hc2 hc9
          have hfb : FrBlk (Wc.setCell ⟨g, 2, none⟩ (.string D)) g ⟨1 + (x2 : Int), (x3 : Int), D⟩ := heap_setCell_same _ g 2 _ _ _ HFB.out
          have how : (Wc.setCell ⟨g, 2, none⟩ (.string D)).ownsRow w.heap.size 23 3 (.slice A1 pre.length cap1) pre.length (cellsR pre) := owns_set HOW.out HRG.out
          have hbb : Below w.heap.size w (Wc.setCell ⟨g, 2, none⟩ (.string D)) := HBB.out.setCell (p := ⟨g, 2, none⟩) hge _
          obtain ⟨Wd, hWd⟩ : ∃ W, Wc.setCell ⟨g, 2, none⟩ (.string D) = W := ⟨_, rfl⟩
          rw [hWd] at hfb how hbb
          rw [hWd]
          clear hWd
          clear HFB HOW HBB
          obtain ⟨g0, g1, g2⟩ := hfb.cells
          simp only at g0 g1 g2
          have z0 := hfb.frozen 0
          have z1 := hfb.frozen 1
          have z2 := hfb.frozen 2
          have hc0 := (hbb.cell (p := ⟨b, off + pre.length * 3 + 0, none⟩) hb).trans c0
          have hc1 := (hbb.cell (p := ⟨b, off + pre.length * 3 + 1, none⟩) hb).trans c1
          have hc2 := (hbb.cell (p := ⟨b, off + pre.length * 3 + 2, none⟩) hb).trans c2
          have hc9 := (hbb.cell (p := ⟨b2, off2 + y, none⟩) hb2).trans c9
          have HFB := Lib.hid hfb; clear hfb
          have HOW := Lib.hid how; clear how
          have HBB := Lib.hid hbb; clear hbb
          rw [Nat.add_zero] at hc0
          have hown3 : (Wd.alloc (.cells #[.int .i64 (1 + (x2 : Int)), .int .i64 (x3 : Int), .string D] 23)).ownsRow w.heap.size 23 3 (.slice A1 pre.length cap1) pre.length (cellsR pre) := HOW.out.alloc _
          have HO3 := Lib.hid hown3; clear hown3
          have HCL := Lib.hid (cell_three_new Wd (.int .i64 (1 + (x2 : Int))) (.int .i64 (x3 : Int)) (.string D) 23)
          go_wp2_with (at_builtin; refine wpList_append_own_at _ rfl _ _ 32 rfl w.heap.size 23 i0 (.agg #[.int .i64 0, .int .i64 0, .string ⟨#[]⟩]) 3 32 Try.underlying32 hi hz0 hz1 hz2 rfl (by decide) _ _ _ rfl HO3.out ⟨Wd.heap.size, 0, none⟩ 1 1 [.int .i64 (1 + (x2 : Int)), .int .i64 (x3 : Int), .string D] rfl rfl HCL.out ?c2 ?c3 ?c4 ?c5 ?_)
          case c2 => intro u hu; simp at hu; rcases hu with rfl | rfl | rfl <;> rfl
          case c3 => unfold maxLen; omega
          case c4 => omega
          case c5 => have := HBB.out.size; simp; omega
          intro v' V2 hown4 hgrow _ hat
          have hb9 : Below w.heap.size w V2 := (HBB.out.alloc HBB.out.size _).grown hgrow (by have := HBB.out.size; simp; omega) (fun g hg => (HO3.out.lt g hg).1)
          have HB9 := Lib.hid hb9; clear hb9 hgrow
          go_wp2_with fail
          go_roundw
          case rel => exact ⟨pre ++ [⟨1 + (x2 : Int), (x3 : Int), D⟩], by simp; omega, HN, by simp, by rw [cellsR_append, List.length_append]; exact hown4, HB9.out⟩
          case measure => simp [intOf]; omega
        · have hm0' : m = 0 := by omega
          subst hm0'
          have hDs : (⟨#[]⟩ : ByteArray).size ≤ 300 := by decide
          clear hm0
          have HN : Hid (NiceFr 2 (pre ++ [⟨1 + (x2 : Int), (x3 : Int), ⟨#[]⟩⟩])) := hni.out.snoc h12 (okF_iff.2 ⟨by show (1 : Int) ≤ 1 + (x2 : Int); omega, by show 1 + (x2 : Int) ≤ 255; omega, by show (0 : Int) ≤ (x3 : Int); omega, by show (x3 : Int) ≤ 255; omega, by show (⟨#[]⟩ : ByteArray).size ≤ 4000; omega, .inl rfl⟩) hDs
          clear hDs
          go_wp2_with fail
          ((with_reducible refine (p1 _).mono ?_); rintro e V1 ⟨rfl, rfl⟩)
          go_upto_region 7 with fail
          have hgs : wr.heap.size = wr.heap.size := rfl
          obtain ⟨g, hg⟩ : ∃ g, wr.heap.size = g := ⟨_, rfl⟩
          have hfb : FrBlk (wr.alloc (.cells #[.int .i64 (1 + (x : Int)), .int .i64 0, .string ⟨#[]⟩] 23)) g ⟨1 + (x : Int), 0, ⟨#[]⟩⟩ := by rw [← hg]; exact FrBlk.new wr ⟨1 + (x : Int), 0, ⟨#[]⟩⟩
          have how : (wr.alloc (.cells #[.int .i64 (1 + (x : Int)), .int .i64 0, .string ⟨#[]⟩] 23)).ownsRow w.heap.size 23 3 (.slice A1 pre.length cap1) pre.length (cellsR pre) := HOWN.out.alloc _
          have hbb : Below w.heap.size w (wr.alloc (.cells #[.int .i64 (1 + (x : Int)), .int .i64 0, .string ⟨#[]⟩] 23)) := HBW.out.alloc HBW.out.size _
          obtain ⟨Wa, hWa⟩ : ∃ W, wr.alloc (.cells #[.int .i64 (1 + (x : Int)), .int .i64 0, .string ⟨#[]⟩] 23) = W := ⟨_, rfl⟩
          rw [hWa] at hfb how hbb
          rw [hWa]
          clear hWa
          have hge : w.heap.size ≤ g := by have := HBW.out.size; omega
          have hrg : ∀ k, (Value.slice A1 pre.length cap1).ownBlock = some k → k ≠ g := fun k hk => by have := HROW.out k hk; omega
          have HRG := Lib.hid hrg; clear hrg
          rw [hg]
          clear hgs hc0
          rw [← Nat.add_zero (off + pre.length * 3)] at c0
          obtain ⟨g0, g1, g2⟩ := hfb.cells
          simp only at g0 g1 g2
          have z0 := hfb.frozen 0
          have z1 := hfb.frozen 1
          have z2 := hfb.frozen 2
          have hc0 := (hbb.cell (p := ⟨b, off + pre.length * 3 + 0, none⟩) hb).trans c0
          have hc1 := (hbb.cell (p := ⟨b, off + pre.length * 3 + 1, none⟩) hb).trans c1
          have hc2 := (hbb.cell (p := ⟨b, off + pre.length * 3 + 2, none⟩) hb).trans c2
          have HFB := Lib.hid hfb; clear hfb
          have HOW := Lib.hid how; clear how
          have HBB := Lib.hid hbb; clear hbb
          rw [Nat.add_zero] at hc0
          go_wp2_with fail
          ((with_reducible refine (p2 _).mono ?_); rintro e V1 ⟨rfl, rfl⟩)
          go_upto_region 8 with fail
          clear g0 g1 g2 z0 z1 z2 hc0 hc1 hc2
          have hfb : FrBlk (Wa.setCell ⟨g, 0, none⟩ (.int .i64 (1 + (x2 : Int)))) g ⟨1 + (x2 : Int), 0, ⟨#[]⟩⟩ := heap_setCell_same _ g 0 _ _ _ HFB.out
          have how : (Wa.setCell ⟨g, 0, none⟩ (.int .i64 (1 + (x2 : Int)))).ownsRow w.heap.size 23 3 (.slice A1 pre.length cap1) pre.length (cellsR pre) := owns_set HOW.out HRG.out
          have hbb : Below w.heap.size w (Wa.setCell ⟨g, 0, none⟩ (.int .i64 (1 + (x2 : Int)))) := HBB.out.setCell (p := ⟨g, 0, none⟩) hge _
          obtain ⟨Wb, hWb⟩ : ∃ W, Wa.setCell ⟨g, 0, none⟩ (.int .i64 (1 + (x2 : Int))) = W := ⟨_, rfl⟩
          rw [hWb] at hfb how hbb
          rw [hWb]
          clear hWb
          clear HFB HOW HBB
          obtain ⟨g0, g1, g2⟩ := hfb.cells
          simp only at g0 g1 g2
          have z0 := hfb.frozen 0
          have z1 := hfb.frozen 1
          have z2 := hfb.frozen 2
          have hc0 := (hbb.cell (p := ⟨b, off + pre.length * 3 + 0, none⟩) hb).trans c0
          have hc1 := (hbb.cell (p := ⟨b, off + pre.length * 3 + 1, none⟩) hb).trans c1
          have hc2 := (hbb.cell (p := ⟨b, off + pre.length * 3 + 2, none⟩) hb).trans c2
          have HFB := Lib.hid hfb; clear hfb
          have HOW := Lib.hid how; clear how
          have HBB := Lib.hid hbb; clear hbb
          rw [Nat.add_zero] at hc0
          go_wp2_with fail
          ((with_reducible refine (p3 _).mono ?_); rintro e V1 ⟨rfl, rfl⟩)
          go_upto_region 9 with fail
          clear g0 g1 g2 z0 z1 z2 hc0 hc1 hc2
          have hfb : FrBlk (Wb.setCell ⟨g, 1, none⟩ (.int .i64 (x3 : Int))) g ⟨1 + (x2 : Int), (x3 : Int), ⟨#[]⟩⟩ := heap_setCell_same _ g 1 _ _ _ HFB.out
          have how : (Wb.setCell ⟨g, 1, none⟩ (.int .i64 (x3 : Int))).ownsRow w.heap.size 23 3 (.slice A1 pre.length cap1) pre.length (cellsR pre) := owns_set HOW.out HRG.out
          have hbb : Below w.heap.size w (Wb.setCell ⟨g, 1, none⟩ (.int .i64 (x3 : Int))) := HBB.out.setCell (p := ⟨g, 1, none⟩) hge _
          obtain ⟨Wc, hWc⟩ : ∃ W, Wb.setCell ⟨g, 1, none⟩ (.int .i64 (x3 : Int)) = W := ⟨_, rfl⟩
          rw [hWc] at hfb how hbb
          rw [hWc]
          clear hWc
          clear HFB HOW HBB
          obtain ⟨g0, g1, g2⟩ := hfb.cells
          simp only at g0 g1 g2
          have z0 := hfb.frozen 0
          have z1 := hfb.frozen 1
          have z2 := hfb.frozen 2
          have hc0 := (hbb.cell (p := ⟨b, off + pre.length * 3 + 0, none⟩) hb).trans c0
          have hc1 := (hbb.cell (p := ⟨b, off + pre.length * 3 + 1, none⟩) hb).trans c1
          have hc2 := (hbb.cell (p := ⟨b, off + pre.length * 3 + 2, none⟩) hb).trans c2
          have HFB := Lib.hid hfb; clear hfb
          have HOW := Lib.hid how; clear how
          have HBB := Lib.hid hbb; clear hbb
          rw [Nat.add_zero] at hc0
          have hown3 : (Wc.alloc (.cells #[.int .i64 (1 + (x2 : Int)), .int .i64 (x3 : Int), .string ⟨#[]⟩] 23)).ownsRow w.heap.size 23 3 (.slice A1 pre.length cap1) pre.length (cellsR pre) := HOW.out.alloc _
          have HO3 := Lib.hid hown3; clear hown3
          have HCL := Lib.hid (cell_three_new Wc (.int .i64 (1 + (x2 : Int))) (.int .i64 (x3 : Int)) (.string ⟨#[]⟩) 23)
          go_wp2_with (at_builtin; refine wpList_append_own_at _ rfl _ _ 32 rfl w.heap.size 23 i0 (.agg #[.int .i64 0, .int .i64 0, .string ⟨#[]⟩]) 3 32 Try.underlying32 hi hz0 hz1 hz2 rfl (by decide) _ _ _ rfl HO3.out ⟨Wc.heap.size, 0, none⟩ 1 1 [.int .i64 (1 + (x2 : Int)), .int .i64 (x3 : Int), .string ⟨#[]⟩] rfl rfl HCL.out ?c2 ?c3 ?c4 ?c5 ?_)
          case c2 => intro u hu; simp at hu; rcases hu with rfl | rfl | rfl <;> rfl
          case c3 => unfold maxLen; omega
          case c4 => omega
          case c5 => have := HBB.out.size; simp; omega
          intro v' V2 hown4 hgrow _ hat
          have hb9 : Below w.heap.size w V2 := (HBB.out.alloc HBB.out.size _).grown hgrow (by have := HBB.out.size; simp; omega) (fun g hg => (HO3.out.lt g hg).1)
          have HB9 := Lib.hid hb9; clear hb9 hgrow
          go_wp2_with fail
          go_roundw
          case rel => exact ⟨pre ++ [⟨1 + (x2 : Int), (x3 : Int), ⟨#[]⟩⟩], by simp; omega, HN, by simp, by rw [cellsR_append, List.length_append]; exact hown4, HB9.out⟩
          case measure => simp [intOf]; omega
      · have h12' : pre.length = 12 := by have := hni.out.1; omega
        have h12i : ((pre.length : Int) < 12) = False := by simp; omega
        clear h12'
        go_wp2_with fail
        go_ret
        exact ⟨A1, _, cap1, pre, rfl, hcap, hcm, HFS.out, hni.out, hbw⟩
    · have hlt' : ((pre.length : Int) < (n : Int)) = False := by simp; omega
      go_wp2_with fail
      go_ret
      exact ⟨A1, _, cap1, pre, rfl, hcap, hcm, HFS.out, hni.out, hbw⟩
theorem frames_any (v : Int) (hv : v = 1 ∨ v = 2) (A : Option Addr) (n cap : Nat) (f : Nat → Nat → Int) (B : Option Addr) (m cap2 : Nat) (g_ : Nat → ByteArray) (w : World) (h : IsRaw w A n 3 f) (h2 : IsStrs w B m g_) :
    Calls Try.prog 16 #[.int .i64 v, .slice A n cap, .slice B m cap2] w (FramesPost v w) := by
  rcases hv with rfl | rfl
  · exact frames_one A n cap f B m cap2 g_ w h h2
  · exact frames_two A n cap f B m cap2 g_ w h h2
end Go.Proofs.Ytjciojgldibfmaa
