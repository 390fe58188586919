import Derived.Test.YtjdpihppniibjaaBuild
import Derived.Test.YtjdpihppniibjaaRefRight
/-
  The contracts of field.Encode and of the document's own: what encR says; nothing that was in memory changes.
-/
namespace Go.Proofs.Ytjdpihppniibjaa
open Go.RowKit

set_option maxHeartbeats 400000 in
theorem number_any (n : Int) (h1 : 0 ≤ n) (h2 : n ≤ 9007199254740992) (w : World) :
    Calls Try.prog 31 #[.int .i64 n] w fun e w' => e = .returned (.string (bs (vb n.toNat))) ∧ Below w.heap.size w w' := by
  have hp := put_ok n h1 h2
  clear h1 h2
  generalize bs (vb n.toNat) = S at hp ⊢
  go_enter Try.func31, Try.ntmps31
  go_wp2_with fail
  refine (hp _).mono ?_; rintro e w1 ⟨rfl, b1⟩
  go_wp2_with fail
  go_ret
  exact ⟨rfl, b1⟩

theorem byteCells_append (a b : List UInt8) : Lib.byteCells (a ++ b) = Lib.byteCells a ++ Lib.byteCells b := by simp [Lib.byteCells]
theorem blk_new (w : World) (cs : Array Value) (t : TypeId) : (w.alloc (.cells cs t)).heap[w.heap.size]? = some (.cells cs t (0, 0)) := World.alloc_heap_new w _
theorem IsBuilder.le {T e : TypeId} {B b : Nat} {l : List Value} {w : World} (h : Lib.IsBuilder T e B b l w) : B ≤ b ∧ b < w.heap.size := by
  rcases h with h | h
  · exact ⟨h.1, h.lt⟩
  · exact ⟨h.1, h.lt⟩

set_option maxRecDepth 100000 in
set_option maxHeartbeats 4000000 in
theorem encode_any (A : Option Addr) (n cap : Nat) (fs : List Fld) (w : World) (h : IsFs w A n fs) :
    Calls Try.prog 17 #[.slice A n cap] w fun e w' => e = .returned (.tuple #[.string (bs (encR fs).1), .int .i64 (encR fs).2]) ∧ Below w.heap.size w w' := by
  have hr := right_any A n cap fs w h
  obtain ⟨hn, hm, hwf, hc⟩ := h
  unfold maxLen at hm
  have HN := Lib.hid hn; clear hn
  have HC := Lib.hid hc; clear hc
  cases hR : rightB fs with
  | false =>
    rw [hR] at hr
    have HE : Hid (encR fs = ([], 1)) := by show encR fs = _; unfold encR; rw [hR]; rfl
    clear hR
    go_enter Try.func17, Try.ntmps17
    go_wp2_with fail
    refine hr.mono ?_; rintro e w1 ⟨rfl, b1⟩
    go_wp2_with fail
    go_ret2
    exact ⟨by rw [HE.out]; rfl, b1⟩
  | true =>
    rw [hR] at hr
    have HRI := Lib.hid (rightB_iff.1 hR)
    have HR := Lib.hid hR; clear hR
    go_enter Try.func17, Try.ntmps17
    go_wp2_with fail
    refine hr.mono ?_; rintro e w1 ⟨rfl, b1⟩
    go_wp2_with fail
    go_loopw [12] (fun i wr => ∃ k : Nat, k ≤ n ∧ i = .int .i64 k ∧ Lib.IsBuilder 58 5 w1.heap.size w1.heap.size (Lib.byteCells (encL (fs.take k))) wr ∧ Below w1.heap.size w1 wr) (fun i _ => n - (intOf i).toNat)
    case atStart =>
      refine ⟨0, by omega, rfl, .inl ⟨Nat.le_refl _, .slice none 0 0, blk_new _ _ _, World.ownsRow_nil _ _ _ _, by simp [Value.ownBlock]⟩, (Below.refl _ _).alloc (Nat.le_refl _) _⟩
    case round =>
      obtain ⟨k, hk, rfl, hbu, hbw⟩ := hrel
      by_cases hlt : k < n
      · obtain ⟨b, off, hA, hb, hat⟩ := HC.out (by omega)
        subst hA
        have HK : Hid (k < fs.length) := by have := HN.out; show k < fs.length; omega
        have hbv : Below w.heap.size w wr := bch b1 hbw
        obtain ⟨c1, c2⟩ : wr.cell? ⟨b, off + k * 2, none⟩ = some (.int .i64 (tg fs k)) ∧ wr.cell? ⟨b, off + k * 2 + 1, none⟩ = some (.string (dt fs k)) := by
          have h := hat k HK.out
          exact ⟨(hbv.cell (p := ⟨b, off + k * 2, none⟩) hb).trans h.1, (hbv.cell (p := ⟨b, off + k * 2 + 1, none⟩) hb).trans h.2⟩
        clear hat
        have hok := okAt_iff.1 (HRI.out.2 k HK.out)
        have hhd := hd_nonneg k (Nat.le_of_lt HK.out) (fun j hj => HRI.out.2 j (Nat.lt_trans hj HK.out))
        have hl1 := encL_take_len HRI.out.2 k (Nat.le_of_lt HK.out)
        have h64 := HRI.out.1
        have hv1 := vb_len8 (n := (tg fs k).toNat) (by omega)
        have hv2 := vb_len8 (n := (dt fs k).size) (by omega)
        have hbl : (Lib.byteCells (encL (fs.take k))).length = (encL (fs.take k)).length := Lib.byteCells_length _
        have hkk : k < 64 := by have := HK.out; omega
        have HS : Hid (Lib.byteCells (encL (fs.take k)) ++ Lib.strCells (bs (vb (tg fs k).toNat)) ++ Lib.strCells (bs (vb (dt fs k).size)) ++ Lib.strCells (dt fs k) = Lib.byteCells (encL (fs.take (k + 1)))) := by
          show _ = _
          rw [encL_snoc HK.out, byteCells_append, byteCells_append, byteCells_append, ← List.append_assoc, ← List.append_assoc]
          rfl
        have p1 := number_any (tg fs k) (by omega) (by omega)
        have p2 := number_any ((dt fs k).size : Int) (by omega) (by omega)
        rw [Int.toNat_natCast] at p2
        obtain ⟨hle, hbl2⟩ := IsBuilder.le hbu
        have hx0 := blk_new wr #[.int .i64 (tg fs k), .string (dt fs k)] 47
        have hsz0 : (wr.alloc (.cells #[.int .i64 (tg fs k), .string (dt fs k)] 47)).heap.size = wr.heap.size + 1 := by simp
        have ba : Below wr.heap.size wr (wr.alloc (.cells #[.int .i64 (tg fs k), .string (dt fs k)] 47)) := (Below.refl _ _).alloc (Nat.le_refl _) _
        have hbu1 := IsBuilder_below hbu ba
        have hn1 : (bs (vb (tg fs k).toNat)).size ≤ 8 := by rw [bs_size]; exact hv1
        have hn2 : (bs (vb (dt fs k).size)).size ≤ 8 := by rw [bs_size]; exact hv2
        have hn3 : (dt fs k).size ≤ 1000 := hok.2.2
        have hlen0 : (Lib.byteCells (encL (fs.take k))).length ≤ 70000 := by omega
        clear hok hhd hl1 h64 hv1 hv2 hbl hkk
        generalize Lib.byteCells (encL (fs.take k)) = L0 at *
        generalize bs (vb (tg fs k).toNat) = S1 at *
        generalize bs (vb (dt fs k).size) = S2 at *
        go_wp2_with fail
        refine (p1 _).mono ?_; rintro e V1 ⟨rfl, d1⟩
        have hx1 : V1.heap[wr.heap.size]? = _ := (d1.block _ (by omega)).trans hx0
        have hbu2 := IsBuilder_below hbu1 d1
        have hs1 := d1.size
        go_wp2_with fail
        refine (bwrite _ _ L0 S1 _ hbu2 (by omega) (by omega)).mono ?_; rintro e V2 ⟨rfl, hbu3, e2, o2⟩
        have hx2 := o2 _ _ hx1 (by simp; omega) (by intro c fz h; injection h with _ h _; exact absurd h (by decide))
        have c5 : V2.cell? ⟨wr.heap.size, 1, none⟩ = some (.string (dt fs k)) := Lib.cell_of_heap hx2 1
        have hs2 := e2.size
        have HX2 := Lib.hid hx2
        clear hx0 hx1 hx2
        go_wp2_with fail
        refine (p2 _).mono ?_; rintro e V3 ⟨rfl, d3⟩
        have hx3 := (d3.block _ (lt_of_blk HX2.out)).trans HX2.out
        have hbu4 := IsBuilder_below (.inr hbu3) d3
        have hs3 := d3.size
        have HX3 := Lib.hid hx3
        clear hx3 c5
        go_wp2_with fail
        refine (bwrite _ _ _ S2 _ hbu4 (by rw [List.length_append, Lib.strCells_length]; omega) (by omega)).mono ?_; rintro e V4 ⟨rfl, hbu5, e4, o4⟩
        have hx4 := o4 _ _ HX3.out (by simp; omega) (by intro c fz h; injection h with _ h _; exact absurd h (by decide))
        have c6 : V4.cell? ⟨wr.heap.size, 1, none⟩ = some (.string (dt fs k)) := Lib.cell_of_heap hx4 1
        have hs4 := e4.size
        clear hx4
        go_wp2_with fail
        refine (bwrite _ _ _ (dt fs k) _ (.inr hbu5) (by rw [List.length_append, List.length_append, Lib.strCells_length, Lib.strCells_length]; omega) (by omega)).mono ?_; rintro e V5 ⟨rfl, hbu6, e5, o5⟩
        go_wp2_with fail
        go_roundw
        case rel =>
          refine ⟨k + 1, by omega, by go_num, by rw [← HS.out]; exact .inr hbu6, ?_⟩
          have hz := hbw.size
          exact ((((hbw.trans (ba.mono (by omega))).trans (d1.mono (by omega))).trans e2).trans ((d3.mono (by omega)).trans e4)).trans e5
        case measure => simp [intOf]; omega
      · have hkn : n = k := by omega
        subst hkn
        have hl1 := encL_take_len HRI.out.2 n (by have := HN.out; omega)
        have e1 : fs.take n = fs := List.take_of_length_le (by have := HN.out; omega)
        rw [e1] at hbu hl1
        clear e1
        have h64 := HRI.out.1
        have hN := HN.out
        obtain ⟨hle, hbl2⟩ := IsBuilder.le hbu
        have hL : ((Lib.byteCells (encL fs)).length : Int) = ((encL fs).length : Int) := by rw [Lib.byteCells_length]
        by_cases hlong : (encL fs).length ≤ 10000
        · have HE : Hid (encR fs = (encL fs, 0)) := by show encR fs = _; unfold encR; rw [HR.out, if_pos rfl, if_pos hlong]
          have hstr := Try.Builder_String_any _ _ _ _ hbu (by omega)
          have hlen := Try.Builder_Len _ _ _ _ hbu
          rw [hL] at hlen
          clear hL hl1 hN
          go_wp2_with fail
          refine hlen.mono ?_; rintro e V1 ⟨rfl, rfl⟩
          go_wp2_with fail
          refine hstr.mono ?_; rintro e V2 ⟨rfl, d2⟩
          go_wp2_with fail
          go_ret2
          exact ⟨by rw [HE.out]; rfl, (bch b1 hbw).trans (d2.mono b1.size)⟩
        · have HE : Hid (encR fs = ([], 12)) := by show encR fs = _; unfold encR; rw [HR.out, if_pos rfl, if_neg hlong]
          have hlen := Try.Builder_Len _ _ _ _ hbu
          rw [hL] at hlen
          clear hL hl1 hN
          go_wp2_with fail
          refine hlen.mono ?_; rintro e V1 ⟨rfl, rfl⟩
          go_wp2_with fail
          go_ret2
          exact ⟨by rw [HE.out]; rfl, bch b1 hbw⟩
end Go.Proofs.Ytjdpihppniibjaa
