import Derived.Test.YtjdpihppniibjaaRefPut
import Derived.Test.YtjdpihppniibjaaRange
import Derived.Shelf.Abstract
import Derived.Shelf.RegionOpen
import Derived.WalkKit
import Derived.OwnWalkIn
import Derived.TacticsInMore
import Derived.LoopNIn
import Derived.LoopIn
import Derived.Maps.AppendAt
import Derived.Lib.Hide
/-
  The contract of varint.Put: for every number from 0 to 2^53 its bytes, else ErrArg; nothing that was in memory changes. (Its iterator's contract on the way.)
-/
namespace Go.Proofs.Ytjdpihppniibjaa
open Go.RowKit Go.Shelf

attribute [local go_sem] Oper.semAt_some

/-- What an iterator that keeps one number in a captured variable does to memory between two rounds. -/
def StBox (B : Nat) (X Y : World) : Prop := ∃ v, Y = X.setCell ⟨B, 0, none⟩ v
/-- What it asks of a round: that variable stays as it was. -/
def KpBox (B : Nat) (X Y : World) : Prop := Y.heap[B]? = X.heap[B]?
/-- The number in a captured variable. -/
def boxN (W : World) (B : Nat) : Nat := ((W.cell? ⟨B, 0, none⟩).map fun v => (intOf v).toNat).getD 0
theorem boxN_eq {W : World} {B : Nat} {t : TypeId} {k : Nat} (h : Boxed W B t (.int .i64 k)) : boxN W B = k := by
  unfold boxN; rw [h.cell]; simp [intOf]
theorem KpBox.boxed {B : Nat} {t : TypeId} {v : Value} {X Y : World} (h : KpBox B X Y) (hb : Boxed X B t v) : Boxed Y B t v := Eq.trans h hb
theorem u8_of {m : Nat} (h : m < 256) : ((UInt8.ofNat m).toNat : Int) = (m : Int) := by rw [toNat_ofNat_lt h]

set_option maxRecDepth 100000 in
set_option maxHeartbeats 1000000 in
theorem bytesOf1_seq (n k Bn : Nat) (w : World) (hb : Boxed w Bn 3 (.int .i64 k)) (hk : (k : Int) ≤ 9007199254740992) :
    SeqSt n Try.prog 46 #[.pointer (some ⟨Bn, 0, none⟩)] (fun x : UInt8 => #[Value.int .u8 x.toNat]) (StBox Bn) (KpBox Bn) (fun xs => xs = vb k) (fun _ => True) (fun pre _ => pre.length < (vb k).length) w := by
  intro l J Jx W hW hJ _ hY h0
  have hb0 : Boxed W Bn 3 (.int .i64 k) := (hW.block Bn hb.lt).trans hb
  refine callsIn_of_wp Try.func46 rfl trivial ?_ rfl
  simp only [Try.ntmps46, List.size_toArray, List.length_cons, List.length_nil, Nat.reduceAdd, Nat.reduceSub, Array.replicate_succ, Array.replicate_zero, List.push_toArray, List.append_toArray, List.nil_append, List.cons_append]
  gi_wp2
  gi_loopw [3] (fun _ wr => ∃ (pre : List UInt8) (m : Nat), (m : Int) ≤ 9007199254740992 ∧ pre ++ vb m = vb k ∧ Boxed wr Bn 3 (.int .i64 m) ∧ J pre wr) (fun _ wr => boxN wr Bn)
  case atStart => exact ⟨[], k, hk, rfl, hb0, h0⟩
  case round =>
    obtain ⟨pre, m, hm, hv, hbm, hJm⟩ := hrel
    have hc := hbm.cell
    have hz := hbm.frozen
    have hlen : pre.length < (vb k).length := by
      have := congrArg List.length hv
      rw [List.length_append] at this
      have := vb_pos m
      omega
    by_cases hlt : m < 128
    · obtain ⟨fn, tmps, assign, body, hy, hR⟩ := hY pre (UInt8.ofNat m) wr hJm hlen
      rw [u8_of (by omega)] at hy
      have HV := Lib.hid hv; clear hv
      have HN := Lib.hid hlen; clear hlen
      gi_wp2
      refine ⟨fun h => (by cases h), hR.mono ?_⟩
      rintro e W3 (⟨rfl, hJ3, hk3⟩ | ⟨rfl, hJx3⟩)
      · gi_wp2
        go_end0
        exact ⟨⟨_, rfl⟩, .inl ⟨pre ++ [UInt8.ofNat m], by rw [← HV.out, vb_small hlt], hJ3⟩⟩
      · gi_wp2
        go_end0
        exact ⟨⟨_, rfl⟩, .inr ⟨pre ++ [UInt8.ofNat m], trivial, hJx3⟩⟩
    · obtain ⟨fn, tmps, assign, body, hy, hR⟩ := hY pre (UInt8.ofNat (m % 128 + 128)) wr hJm hlen
      have eu : ((UInt8.ofNat (m % 128 + 128)).toNat : Int) = (m : Int) % 128 + 128 := by rw [u8_of (by omega)]; omega
      rw [eu] at hy
      clear eu
      have HV := Lib.hid hv; clear hv
      have HN := Lib.hid hlen; clear hlen
      gi_wp2
      refine ⟨fun h => (by cases h), hR.mono ?_⟩
      rintro e W3 (⟨rfl, hJ3, hk3⟩ | ⟨rfl, hJx3⟩)
      · have hb3 := hk3.boxed hbm
        have hc3 := hb3.cell
        have hz3 := hb3.frozen
        have hs : Boxed (W3.setCell ⟨Bn, 0, none⟩ (.int .i64 ((m : Int) / 128))) Bn 3 (.int .i64 ((m / 128 : Nat) : Int)) := hb3.set _
        have HS := Lib.hid hs; clear hs
        gi_wp2
        go_roundw
        case rel => exact ⟨pre ++ [UInt8.ofNat (m % 128 + 128)], m / 128, by omega, by rw [← HV.out, vb_big hlt]; simp, HS.out, hJ _ _ _ hJ3 ⟨_, rfl⟩⟩
        case measure => rw [boxN_eq hbm, boxN_eq HS.out]; omega
      · gi_wp2
        refine bodyPost_ret (results_none rfl _ _ _) rfl ?_
        exact ⟨⟨_, rfl⟩, .inr ⟨_, trivial, hJx3⟩⟩

/-- bytesOf: its number is boxed; the function value captures the box. -/
theorem bytesOf_any (n : Nat) (x : Int) (w : World) :
    CallsIn Fence.wide n Try.prog 44 #[.int .i64 x] w fun e w' => e = .returned (.func (.func 46) #[] #[.pointer (some ⟨w.heap.size, 0, none⟩)]) ∧ w' = w.alloc (.cells #[.int .i64 x] 3) := by
  refine callsIn_of_wp Try.func44 rfl trivial ?_ rfl
  simp only [Try.ntmps44, List.size_toArray, List.length_cons, List.length_nil, Nat.reduceAdd, Nat.reduceSub, Array.replicate_succ, Array.replicate_zero, List.push_toArray, List.append_toArray, List.nil_append, List.cons_append]
  gi_wp2
  go_ret
  exact ⟨rfl, rfl⟩

theorem infoU8 : (Try.prog.info? 5).map (fun i => (i.zero, i.size, i.bytes)) = some (some (.int .u8 0), 1, 1) := by kernel_rfl

/-- A row of bytes, as a text. -/
theorem conv_bytes {W : World} {base : Nat} {v : Value} {l : List UInt8} (h : W.ownsRow base 5 1 v l.length (l.map fun c => Value.int .u8 c.toNat)) :
    (convert 44 9 v).run Try.prog W = .ok (.string (bs l)) W := by
  rcases h.2 with ⟨rfl, h0⟩ | ⟨g, cap, cur, rfl, _, hgb, hnc, hcm, hcs, htake⟩
  · have : l = [] := List.eq_nil_of_length_eq_zero (by simpa using h0)
    subst this
    rw [run_convert_bytes_string _ _ _ 5 _ _ _ Try.underlying44 Try.underlying5 Try.underlying9]
    simp [Conv.bytesToString]; rfl
  · exact run_convert_bytes_back W _ _ 5 ⟨g, 0, none⟩ cap l Try.underlying44 Try.underlying5 Try.underlying9 (fun j hj => h.cells (g := g) rfl j _ (by simp [hj]))

set_option maxRecDepth 100000 in
set_option maxHeartbeats 2000000 in
theorem put_ok (n : Int) (h1 : 0 ≤ n) (h2 : n ≤ 9007199254740992) (w : World) :
    Calls Try.prog 41 #[.int .i64 n] w fun e w' => e = .returned (.tuple #[.string (bs (vb n.toNat)), .int .i64 0]) ∧ Below w.heap.size w w' := by
  obtain ⟨k, rfl⟩ : ∃ k : Nat, n = (k : Int) := ⟨n.toNat, by omega⟩
  clear h1
  obtain ⟨i0, hi, hz0, hz1, hz2⟩ := info_parts infoU8
  refine (callsIn_wide (n := 9)).1 ?_
  refine callsIn_of_wp_marks Try.func41 rfl trivial ?_ rfl
  simp only [Try.ntmps41, List.size_toArray, List.length_cons, List.length_nil, Nat.reduceAdd, Nat.reduceSub, Array.replicate_succ, Array.replicate_zero, List.push_toArray, List.append_toArray, List.nil_append, List.cons_append]
  gi_wp2_with (first | (gi_at_make; refine wpListIn_make_own _ rfl _ _ 44 rfl w.heap.size 5 i0 (.int .u8 0) 1 Try.underlying44 hi hz0 hz1 _ _ _ 8 rfl rfl rfl (by rw [hz2]; omega) (by decide) (Nat.le_refl _) ?_; intro w1 hown hgrow) | (refine ⟨trivial, ?_⟩; gi_at_call 44; refine (bytesOf_any _ _ _).mono ?_; rintro e w' ⟨rfl, rfl⟩))
  have hlt1 : w.heap.size < w1.heap.size := (hown.lt _ rfl).2
  have hB1 : Below w.heap.size w w1 := (Below.refl _ _).grown hgrow (Nat.le_refl _) (fun _ h => by cases h)
  obtain ⟨W0, hW0⟩ : ∃ W0, (w1.alloc (.cells #[.slice (some ⟨w.heap.size, 0, none⟩) 0 8] 44)).alloc (.cells #[.int .i64 k] 3) = W0 := ⟨_, rfl⟩
  have bB : Boxed W0 w1.heap.size 44 (.slice (some ⟨w.heap.size, 0, none⟩) 0 8) := by rw [← hW0]; exact (Boxed.new w1 _ _).alloc _
  have bN : Boxed W0 (w1.heap.size + 1) 3 (.int .i64 k) := by
    rw [← hW0]; have := Boxed.new (w1.alloc (.cells #[.slice (some ⟨w.heap.size, 0, none⟩) 0 8] 44)) 3 (.int .i64 k)
    rwa [World.size_alloc] at this
  have hrow0 : W0.ownsRow w.heap.size 5 1 (.slice (some ⟨w.heap.size, 0, none⟩) 0 8) 0 [] := by rw [← hW0]; exact (hown.alloc _).alloc _
  have hB0 : Below w.heap.size w W0 := by rw [← hW0]; exact (hB1.alloc (by omega) _).alloc (by simp; omega) _
  have hsz : W0.heap.size = w1.heap.size + 2 := by rw [← hW0]; simp
  rw [hW0]
  refine range_law (by decide) (gf := 46) (lb := #[.pointer (some ⟨w1.heap.size + 1, 0, none⟩)]) rfl (enters_of Try.func46 (by kernel_rfl) rfl)
    (bytesOf1_seq _ k (w1.heap.size + 1) W0 bN h2) ?hKt ?hKb ?hSt (fun _ => rfl)
    (fun pre W => (∃ v, Boxed W w1.heap.size 44 v ∧ W.ownsRow w.heap.size 5 1 v pre.length (pre.map fun c => Value.int .u8 c.toNat)) ∧ (∃ u, Boxed W (w1.heap.size + 1) 3 u) ∧ Below w.heap.size w W)
    (fun _ _ _ => False) ?hI (fun _ _ _ _ _ h => h.elim) ?hIs (fun _ _ _ _ h => h.elim) ⟨⟨_, bB, hrow0⟩, ⟨_, bN⟩, hB0⟩
    (fun x => { tmps := #[.int .i64 k, undef, .string { data := #[] }, .int .i64 0, .pointer (some ⟨w1.heap.size, 0, none⟩), .int .u8 x.toNat, .int .i64 k, .bool (decide ((k : Int) < 0)), .bool (decide ((k : Int) < 0)), .int .i64 k, .bool (decide (9007199254740992 < (k : Int))), .bool (decide ((k : Int) < 0) || decide (9007199254740992 < (k : Int))), .slice (some ⟨w.heap.size, 0, none⟩) 0 8, .int .i64 k, .func (.func 46) #[] #[.pointer (some ⟨w1.heap.size + 1, 0, none⟩)], .int .u8 x.toNat, undef, undef, undef, undef, undef, undef], defers := [] }) ?assign ?body ?done ?stop
  case assign =>
    intro l x W K hK
    gi_wp2
    exact hK
  case hKt => intro A B C h1 h2; exact Eq.trans h2 h1
  case hKb => intro W l o hl; exact World.putObj_heap_other (by omega)
  case hSt => rintro A B ⟨v, rfl⟩; exact (KeepsOthers.setCell _ _ _).from _
  case hI =>
    have h := Own.from (holdsRow_own w.heap.size w1.heap.size 44 5 1 (fun pre : List UInt8 => pre.length) (fun pre => pre.map fun c => Value.int .u8 c.toNat) (fun _ _ => True)) W0.heap.size
    refine OwnFrom.and ?_ (OwnFrom.and ?_ (ownFrom_below (Nat.le_refl _) (by omega)))
    · rintro s A B row ⟨v, h1, h2⟩ hg hr
      obtain ⟨v', h1', h2', _⟩ := h s A B row ⟨v, h1, h2, trivial⟩ hg hr
      exact ⟨v', h1', h2'⟩
    · rintro s A B row ⟨u, hu⟩ hg hr
      exact ⟨u, (Own.from (boxed_own (w1.heap.size + 1) 3 (fun _ : Unit => u)) _) () A B row hu hg hr⟩
  case hIs =>
    rintro s A B ⟨⟨v, hv, hrow⟩, ⟨u, hu⟩, hB⟩ ⟨x, rfl⟩
    exact ⟨⟨v, hv.other (by omega) x, hrow.kept (grownBy_setCell' A _ x) (.inr fun e => hu.not_row (by decide) hrow e.symm)⟩, ⟨x, hu.set x⟩, hB.setCell (p := ⟨w1.heap.size + 1, 0, none⟩) (by simp; omega) _⟩
  case body =>
    rintro l pre x W ⟨⟨v, hv, hrow⟩, ⟨u, hu⟩, hB⟩ hlt
    have h8 : (vb k).length ≤ 8 := vb_len8 (by omega)
    have hc := hv.cell
    have HL := Lib.hid hlt; clear hlt
    have H8 := Lib.hid h8; clear h8
    gi_wp2_with (gi_at_builtin; go_loud (refine wpListIn_append_own _ rfl _ _ 44 rfl w.heap.size 5 i0 (.int .u8 0) 1 1 Try.underlying44 hi hz0 hz1 hz2 rfl (by decide) _ _ _ rfl (hrow.alloc _) ⟨W.heap.size, 0, none⟩ 1 1 [.int .u8 x.toNat] rfl rfl (cell_one_new _ _ _) (by simp [Value.oneCell']) (by have := HL.out; have := H8.out; unfold maxLen; omega) (by have := HL.out; have := H8.out; omega) (by have := hB.size; simp; omega) ?_; intro v' w2 hown' hgrow' _; obtain ⟨g', cap', rfl⟩ := ownsRow_succ hown'; obtain ⟨hv1, hv2, hr2, hk2, hb2⟩ := hv.appended (by decide) hrow hB.size (by omega) hown' hgrow'; have hc1 := hv1.cell; have hf1 := hv1.frozen))
    have hu1 : Boxed w2 (w1.heap.size + 1) 3 u := (hu.alloc _).kept hgrow' (hu.not_row (by decide) hrow)
    have hu2 : Boxed (w2.setCell ⟨w1.heap.size, 0, none⟩ (.slice (some ⟨g', 0, none⟩) (pre.length + 1) cap')) (w1.heap.size + 1) 3 u := hu1.other (by omega) _
    exact ⟨hk2.from _, Eq.trans hu2 (Eq.symm hu), ⟨_, hv2, by simpa using hr2⟩, ⟨_, hu2⟩, hB.trans hb2⟩
  case done =>
    rintro D ys W hD rfl ⟨⟨v, hv, hrow⟩, ⟨u, hu⟩, hB⟩ hK
    have hc := hv.cell
    have hcv := conv_bytes hrow
    gi_wp2
    refine ⟨by simp, .inl ⟨_, _, rfl, run_takeDeferred hK, ?_⟩⟩
    exact ⟨_, results_tmp2 rfl _ _ _, by simp, hB.trans (belowK_b (w := w) (Nat.le_refl _) W D _ _ (by omega) hK rfl rfl)⟩
  case stop =>
    rintro D c pre W _ _ h _
    exact h.elim

theorem put_nat (k : Nat) (h : (k : Int) ≤ 9007199254740992) (w : World) :
    Calls Try.prog 41 #[.int .i64 k] w fun e w' => e = .returned (.tuple #[.string (bs (vb k)), .int .i64 0]) ∧ Below w.heap.size w w' :=
  put_ok k (by omega) h w

theorem put_at (k : Nat) {n : Int} (e : n = k) (h : (k : Int) ≤ 9007199254740992) (w : World) :
    Calls Try.prog 41 #[.int .i64 n] w fun e w' => e = .returned (.tuple #[.string (bs (vb k)), .int .i64 0]) ∧ Below w.heap.size w w' := by
  subst e; exact put_nat k h w

set_option maxHeartbeats 400000 in
theorem put_no (n : Int) (h : n < 0 ∨ 9007199254740992 < n) (w : World) :
    Calls Try.prog 41 #[.int .i64 n] w fun e w' => e = .returned (.tuple #[.string (bs []), .int .i64 1]) ∧ Below w.heap.size w w' := by
  rcases h with h | h
  · go_enter Try.func41, Try.ntmps41
    go_wp2
    go_ret2
    exact ⟨rfl, Below.refl _ _⟩
  · have h' : 0 ≤ n := by omega
    go_enter Try.func41, Try.ntmps41
    go_wp2
    go_ret2
    exact ⟨rfl, Below.refl _ _⟩
end Go.Proofs.Ytjdpihppniibjaa
