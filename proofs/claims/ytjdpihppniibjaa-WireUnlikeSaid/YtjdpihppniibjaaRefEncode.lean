import Derived.Test.YtjdpihppniibjaaEncode
/-
  The contract of the document's own Encode: what encR says; nothing that was in memory changes.
-/
namespace Go.Proofs.Ytjdpihppniibjaa
open Go.RowKit

set_option maxRecDepth 100000 in
set_option maxHeartbeats 4000000 in
theorem refencode_any (A : Option Addr) (n cap : Nat) (fs : List Fld) (w : World) (h : IsFs w A n fs) :
    Calls Try.prog 20 #[.slice A n cap] w fun e w' => e = .returned (.tuple #[.string (bs (encR fs).1), .int .i64 (encR fs).2]) ∧ Below w.heap.size w w' := by
  have hr := refright_any A n cap fs w h
  obtain ⟨hn, hm, hwf, hc⟩ := h
  unfold maxLen at hm
  have HN := Lib.hid hn; clear hn
  have HC := Lib.hid hc; clear hc
  cases hR : rightB fs with
  | false =>
    rw [hR] at hr
    have HE : Hid (encR fs = ([], 1)) := by show encR fs = _; unfold encR; rw [hR]; rfl
    clear hR
    go_enter Try.func20, Try.ntmps20
    go_wp2_with fail
    refine hr.mono ?_; rintro e w1 ⟨rfl, b1⟩
    go_wp2_with fail
    go_ret2
    exact ⟨by rw [HE.out]; rfl, b1⟩
  | true =>
    rw [hR] at hr
    have HRI := Lib.hid (rightB_iff.1 hR)
    have HR := Lib.hid hR; clear hR
    go_enter Try.func20, Try.ntmps20
    go_wp2_with fail
    refine hr.mono ?_; rintro e w1 ⟨rfl, b1⟩
    go_wp2_with fail
    go_loopw [5, 6] (fun s i wr => ∃ k : Nat, k ≤ n ∧ i = .int .i64 k ∧ s = .string (bs (encL (fs.take k))) ∧ Below w.heap.size w wr) (fun _ i _ => n - (intOf i).toNat)
    case atStart => exact ⟨0, by omega, rfl, rfl, b1⟩
    case round =>
      obtain ⟨k, hk, rfl, rfl, hbv⟩ := hrel
      by_cases hlt : k < n
      · obtain ⟨b, off, hA, hb, hat⟩ := HC.out (by omega)
        subst hA
        have HK : Hid (k < fs.length) := by have := HN.out; show k < fs.length; omega
        obtain ⟨c1, c2⟩ : wr.cell? ⟨b, off + k * 2, none⟩ = some (.int .i64 (tg fs k)) ∧ wr.cell? ⟨b, off + k * 2 + 1, none⟩ = some (.string (dt fs k)) := by
          have h := hat k HK.out
          exact ⟨(hbv.cell (p := ⟨b, off + k * 2, none⟩) hb).trans h.1, (hbv.cell (p := ⟨b, off + k * 2 + 1, none⟩) hb).trans h.2⟩
        clear hat
        have hok := okAt_iff.1 (HRI.out.2 k HK.out)
        have hhd := hd_nonneg k (Nat.le_of_lt HK.out) (fun j hj => HRI.out.2 j (Nat.lt_trans hj HK.out))
        have hl1 := encL_take_len HRI.out.2 k (Nat.le_of_lt HK.out)
        have h64 := HRI.out.1
        have hv1 := vb_len8 (n := (tg fs k).toNat) (by omega)
        have hv2 := vb_len8 (n := (dt fs k).size) (by omega)
        have hkk : k < 64 := by have := HK.out; omega
        have HS : Hid (bs (encL (fs.take k)) ++ bs (vb (tg fs k).toNat) ++ bs (vb (dt fs k).size) ++ dt fs k = bs (encL (fs.take (k + 1)))) := by
          show _ = _
          rw [encL_snoc HK.out, ← bs_append, ← bs_append, ← bs_append, bs_of (dt fs k)]
          simp only [bs_data, ByteArray.append_assoc]
        have p1 := refput_ok (tg fs k) (by omega) (by omega)
        have p2 := refput_ok ((dt fs k).size : Int) (by omega) (by omega)
        rw [Int.toNat_natCast] at p2
        have hn1 : (bs (vb (tg fs k).toNat)).size ≤ 8 := by rw [bs_size]; exact hv1
        have hn2 : (bs (vb (dt fs k).size)).size ≤ 8 := by rw [bs_size]; exact hv2
        have hn3 : (dt fs k).size ≤ 1000 := hok.2.2
        have hlen0 : (bs (encL (fs.take k))).size ≤ 70000 := by rw [bs_size]; omega
        clear hok hhd hl1 h64 hv1 hv2 hkk
        generalize bs (encL (fs.take k)) = L0 at *
        generalize bs (vb (tg fs k).toNat) = S1 at *
        generalize bs (vb (dt fs k).size) = S2 at *
        have a1 := fun W => str_add (a := L0) (b := S1) (by omega) W
        have a2 := fun W => str_add (a := L0 ++ S1) (b := S2) (by rw [ByteArray.size_append]; omega) W
        have a3 := fun W => str_add (a := L0 ++ S1 ++ S2) (b := dt fs k) (by rw [ByteArray.size_append, ByteArray.size_append]; omega) W
        rw [HS.out] at a3
        go_wp2_with fail
        refine (p1 _).mono ?_; rintro e V1 ⟨rfl, d1⟩
        have c3 : V1.cell? ⟨b, off + k * 2, none⟩ = some (.int .i64 (tg fs k)) := (d1.cell (p := ⟨b, off + k * 2, none⟩) (lt_of_cell c1)).trans c1
        have c4 : V1.cell? ⟨b, off + k * 2 + 1, none⟩ = some (.string (dt fs k)) := (d1.cell (p := ⟨b, off + k * 2 + 1, none⟩) (lt_of_cell c2)).trans c2
        go_wp2_with fail
        refine (p2 _).mono ?_; rintro e V2 ⟨rfl, d2⟩
        have c5 : V2.cell? ⟨b, off + k * 2 + 1, none⟩ = some (.string (dt fs k)) := (d2.cell (p := ⟨b, off + k * 2 + 1, none⟩) (lt_of_cell c4)).trans c4
        go_wp2_with fail
        go_roundw
        case rel => exact ⟨k + 1, by omega, by go_num, rfl, bch (bch hbv d1) d2⟩
        case measure => simp [intOf]; omega
      · have hkn : n = k := by omega
        subst hkn
        have hl1 := encL_take_len HRI.out.2 n (by have := HN.out; omega)
        have e1 : fs.take n = fs := List.take_of_length_le (by have := HN.out; omega)
        rw [e1] at hl1 ⊢
        clear e1
        have h64 := HRI.out.1
        have hN := HN.out
        by_cases hlong : (encL fs).length ≤ 10000
        · have HE : Hid (encR fs = (encL fs, 0)) := by show encR fs = _; unfold encR; rw [HR.out, if_pos rfl, if_pos hlong]
          have hL : (bs (encL fs)).size ≤ 10000 := by rw [bs_size]; exact hlong
          clear hl1 hN hlong
          generalize hT : bs (encL fs) = T at *
          have HT := Lib.hid hT; clear hT
          go_wp2_with fail
          go_ret2
          exact ⟨by rw [HE.out, HT.out]; rfl, hbv⟩
        · have HE : Hid (encR fs = ([], 12)) := by show encR fs = _; unfold encR; rw [HR.out, if_pos rfl, if_neg hlong]
          have hL : 10000 < (bs (encL fs)).size := by rw [bs_size]; omega
          have hL2 : (bs (encL fs)).size ≤ 9223372036854775807 := by rw [bs_size]; omega
          clear hl1 hN hlong
          generalize bs (encL fs) = T at *
          go_wp2_with fail
          go_ret2
          exact ⟨by rw [HE.out]; rfl, hbv⟩
end Go.Proofs.Ytjdpihppniibjaa
