import Derived.Test.YtjdpihppniibjaaRefRight
import Derived.Laws.Strings2
/-
  The contract of field.take: what takeF says; nothing that was in memory changes.
-/
namespace Go.Proofs.Ytjdpihppniibjaa
open Go.RowKit

theorem data_extract (s : ByteArray) (i j : Nat) : (s.extract i j).data.toList = (s.data.toList.drop i).take (j - i) := by
  simp [ByteArray.data_extract, Array.toList_extract, List.extract_eq_take_drop]
theorem data_from (s : ByteArray) (i : Nat) : (s.extract i s.size).data.toList = s.data.toList.drop i := by
  rw [data_extract, List.take_of_length_le (by simp)]
theorem slice_mid {T S : ByteArray} {j k : Nat} (h : T.extract j k = S) (h1 : j ≤ k) (h2 : k ≤ T.size) (W : World) :
    (Instr.slice 9 (.string T) (some (.int .i64 j)) (some (.int .i64 k)) none).run Try.prog W = .ok (.string S) W := by
  rw [run_slice_string W _ T _ _ (j : Int) (k : Int) Try.underlying9 (by omega) (by omega) (by omega), ← h]; rfl

set_option maxRecDepth 100000 in
set_option maxHeartbeats 4000000 in
theorem ftake_any (s : ByteArray) (a : Nat) (hs : s.size ≤ 140737488351232) (w : World) :
    Calls Try.prog 37 #[.string s, .int .i64 a] w fun e w' => e = .returned (.tuple #[.agg #[.int .i64 (takeF s.data.toList a).1, .string (bs (takeF s.data.toList a).2.1)], .int .i64 (takeF s.data.toList a).2.2.1, .int .i64 (takeF s.data.toList a).2.2.2]) ∧ Below w.heap.size w w' := by
  have hsl : s.data.toList.length = s.size := by simp
  have t1 := take_any s (by unfold maxLen; omega)
  have hk1 := takeR_snd_le s.data.toList
  have hf1 := takeR_fst_le s.data.toList
  generalize hT : takeF s.data.toList a = T
  unfold takeF at hT
  have t2 := take_any (s.extract (takeR s.data.toList).2.1 s.size) (by unfold maxLen; rw [ByteArray.size_extract]; omega)
  rw [data_from] at t2
  have hk2 := takeR_snd_le (s.data.toList.drop (takeR s.data.toList).2.1)
  have hf2 := takeR_fst_le (s.data.toList.drop (takeR s.data.toList).2.1)
  have he2 := takeR_err (s.data.toList.drop (takeR s.data.toList).2.1)
  have he1 := takeR_err s.data.toList
  rw [List.length_drop] at hk2
  generalize (takeR (s.data.toList.drop (takeR s.data.toList).2.1)).1 = n2 at *
  generalize (takeR (s.data.toList.drop (takeR s.data.toList).2.1)).2.1 = k2 at *
  generalize (takeR (s.data.toList.drop (takeR s.data.toList).2.1)).2.2 = e2 at *
  generalize (takeR s.data.toList).1 = n1 at *
  generalize (takeR s.data.toList).2.1 = k1 at *
  generalize (takeR s.data.toList).2.2 = e1 at *
  rw [hsl] at hT hk1 hk2
  clear hsl
  have HT := Lib.hid hT; clear hT
  rcases he1 with rfl | rfl | rfl
  · cases hM : mayB (n1 : Int) (a : Int) with
    | false =>
      rw [hM] at HT
      have HT2 := Lib.hid (HT.out.symm.trans ((if_neg (by decide)).trans (if_pos rfl)))
      clear HT hk1 hk2 hf1 hf2 he2 t2
      go_enter Try.func37, Try.ntmps37
      go_wp2_with fail
      refine (t1 _).mono ?_; rintro e V1 ⟨rfl, d1⟩
      have hx := (d1.block w.heap.size (by simp)).trans (World.alloc_heap_new w _)
      have c0 : V1.cell? ⟨w.heap.size, 0, none⟩ = some (.int .i64 0) := cell_blk hx 0
      have c1 : V1.cell? ⟨w.heap.size, 1, none⟩ = some (.string ⟨#[]⟩) := cell_blk hx 1
      have f0 : V1.frozen? ⟨w.heap.size, 0, none⟩ = false := frozen_blk hx 0
      have f1 : V1.frozen? ⟨w.heap.size, 1, none⟩ = false := frozen_blk hx 1
      clear hx
      go_wp2_with fail
      refine (mayFollow_any _ _ _).mono ?_; rintro e w' ⟨rfl, rfl⟩
      rw [hM]
      go_wp2_with fail
      refine bodyPost_ret (v := .tuple #[.agg #[.int .i64 0, .string ⟨#[]⟩], .int .i64 0, .int .i64 13]) (by simp [results, Try.results37, go_sem, c0, c1]) rfl ⟨by rw [HT2.out]; rfl, ?_⟩
      exact ((((Below.refl _ w).alloc (Nat.le_refl _) _).trans (d1.mono (by simp))).setCell (Nat.le_refl _) _).setCell (Nat.le_refl _) _
    | true =>
      rw [hM] at HT
      have HT2 := Lib.hid (HT.out.symm.trans ((if_neg (by decide)).trans (if_neg (by decide))))
      clear HT
      have hS := fun W => slice_from (T := s) (k := k1) rfl hk1.1 W
      generalize s.extract k1 s.size = S2 at hS t2
      have hkk : k1 + k2 ≤ s.size := by omega
      have hk18 := hk1.2
      have hk28 := hk2.2
      have hk10 := hk1.1
      clear hk1 hk2
      rcases he2 with rfl | rfl | rfl
      · by_cases h1000 : 1000 < n2
        · have HT3 := Lib.hid (HT2.out.trans ((if_neg (by decide)).trans (if_pos h1000)))
          clear HT2
          have h1000' : (1000 : Int) < (n2 : Int) := by omega
          go_enter Try.func37, Try.ntmps37
          go_wp2_with fail
          refine (t1 _).mono ?_; rintro e V1 ⟨rfl, d1⟩
          go_wp2_with fail
          refine (mayFollow_any _ _ _).mono ?_; rintro e w' ⟨rfl, rfl⟩
          rw [hM]
          go_wp2_with fail
          refine (t2 _).mono ?_; rintro e V2 ⟨rfl, d2⟩
          have hx := (d2.block w.heap.size (by have := d1.size; simp at this; omega)).trans ((d1.block w.heap.size (by simp)).trans (World.alloc_heap_new w _))
          have c0 : V2.cell? ⟨w.heap.size, 0, none⟩ = some (.int .i64 0) := cell_blk hx 0
          have c1 : V2.cell? ⟨w.heap.size, 1, none⟩ = some (.string ⟨#[]⟩) := cell_blk hx 1
          have f0 : V2.frozen? ⟨w.heap.size, 0, none⟩ = false := frozen_blk hx 0
          have f1 : V2.frozen? ⟨w.heap.size, 1, none⟩ = false := frozen_blk hx 1
          clear hx
          go_wp2_with fail
          refine bodyPost_ret (v := .tuple #[.agg #[.int .i64 0, .string ⟨#[]⟩], .int .i64 0, .int .i64 11]) (by simp [results, Try.results37, go_sem, c0, c1]) rfl ⟨by rw [HT3.out]; rfl, ?_⟩
          exact ((((Below.refl _ w).alloc (Nat.le_refl _) _).trans ((bch d1 d2).mono (by simp))).setCell (Nat.le_refl _) _).setCell (Nat.le_refl _) _
        · by_cases hcut : s.size < k1 + k2 + n2
          · have HT3 := Lib.hid (HT2.out.trans ((if_neg (by decide)).trans ((if_neg h1000).trans (if_pos hcut))))
            clear HT2
            have hcut' : ((s.size : Int) - ((k1 : Int) + (k2 : Int))) < (n2 : Int) := by omega
            go_enter Try.func37, Try.ntmps37
            go_wp2_with fail
            refine (t1 _).mono ?_; rintro e V1 ⟨rfl, d1⟩
            go_wp2_with fail
            refine (mayFollow_any _ _ _).mono ?_; rintro e w' ⟨rfl, rfl⟩
            rw [hM]
            go_wp2_with fail
            refine (t2 _).mono ?_; rintro e V2 ⟨rfl, d2⟩
            have hx := (d2.block w.heap.size (by have := d1.size; simp at this; omega)).trans ((d1.block w.heap.size (by simp)).trans (World.alloc_heap_new w _))
            have c0 : V2.cell? ⟨w.heap.size, 0, none⟩ = some (.int .i64 0) := cell_blk hx 0
            have c1 : V2.cell? ⟨w.heap.size, 1, none⟩ = some (.string ⟨#[]⟩) := cell_blk hx 1
            have f0 : V2.frozen? ⟨w.heap.size, 0, none⟩ = false := frozen_blk hx 0
            have f1 : V2.frozen? ⟨w.heap.size, 1, none⟩ = false := frozen_blk hx 1
            clear hx
            go_wp2_with fail
            refine bodyPost_ret (v := .tuple #[.agg #[.int .i64 0, .string ⟨#[]⟩], .int .i64 0, .int .i64 10]) (by simp [results, Try.results37, go_sem, c0, c1]) rfl ⟨by rw [HT3.out]; rfl, ?_⟩
            exact ((((Below.refl _ w).alloc (Nat.le_refl _) _).trans ((bch d1 d2).mono (by simp))).setCell (Nat.le_refl _) _).setCell (Nat.le_refl _) _
          · have HT3 := Lib.hid (HT2.out.trans ((if_neg (by decide)).trans ((if_neg h1000).trans (if_neg hcut))))
            clear HT2
            have HD : Hid (s.extract (k1 + k2) (k1 + k2 + n2) = bs ((s.data.toList.drop (k1 + k2)).take n2)) := by
              show _ = _
              rw [bs_of (s.extract _ _), data_extract, Nat.add_sub_cancel_left]
            have hS2 := fun W => slice_mid (T := s) (j := k1 + k2) (k := k1 + k2 + n2) HD.out (by omega) (by omega) W
            simp only [Int.natCast_add] at hS2
            have HT4 : Hid (T = (n1, (s.data.toList.drop (k1 + k2)).take n2, k1 + k2 + n2, 0)) := HT3.out
            clear HT3 HD
            generalize (s.data.toList.drop (k1 + k2)).take n2 = DL at hS2 HT4
            have hcut' : (n2 : Int) ≤ (s.size : Int) - ((k1 : Int) + (k2 : Int)) := by omega
            have h1000' : (n2 : Int) ≤ 1000 := by omega
            go_enter Try.func37, Try.ntmps37
            go_wp2_with fail
            refine (t1 _).mono ?_; rintro e V1 ⟨rfl, d1⟩
            go_wp2_with fail
            refine (mayFollow_any _ _ _).mono ?_; rintro e w' ⟨rfl, rfl⟩
            rw [hM]
            go_wp2_with fail
            refine (t2 _).mono ?_; rintro e V2 ⟨rfl, d2⟩
            have hx := (d2.block w.heap.size (by have := d1.size; simp at this; omega)).trans ((d1.block w.heap.size (by simp)).trans (World.alloc_heap_new w _))
            have c0 : V2.cell? ⟨w.heap.size, 0, none⟩ = some (.int .i64 0) := cell_blk hx 0
            have c1 : V2.cell? ⟨w.heap.size, 1, none⟩ = some (.string ⟨#[]⟩) := cell_blk hx 1
            have f0 : V2.frozen? ⟨w.heap.size, 0, none⟩ = false := frozen_blk hx 0
            have f1 : V2.frozen? ⟨w.heap.size, 1, none⟩ = false := frozen_blk hx 1
            clear hx
            go_wp2_with fail
            refine bodyPost_ret (v := .tuple #[.agg #[.int .i64 n1, .string (bs DL)], .int .i64 ((k1 : Int) + k2 + n2), .int .i64 0]) (by simp [results, Try.results37, go_sem, c0, c1]) rfl ⟨by rw [HT4.out]; simp, ?_⟩
            exact ((((Below.refl _ w).alloc (Nat.le_refl _) _).trans ((bch d1 d2).mono (by simp))).setCell (Nat.le_refl _) _).setCell (Nat.le_refl _) _
      all_goals
        have HT3 := Lib.hid (HT2.out.trans (if_pos (by decide)))
        clear HT2
        go_enter Try.func37, Try.ntmps37
        go_wp2_with fail
        refine (t1 _).mono ?_; rintro e V1 ⟨rfl, d1⟩
        go_wp2_with fail
        refine (mayFollow_any _ _ _).mono ?_; rintro e w' ⟨rfl, rfl⟩
        rw [hM]
        go_wp2_with fail
        refine (t2 _).mono ?_; rintro e V2 ⟨rfl, d2⟩
        have hx := (d2.block w.heap.size (by have := d1.size; simp at this; omega)).trans ((d1.block w.heap.size (by simp)).trans (World.alloc_heap_new w _))
        have c0 : V2.cell? ⟨w.heap.size, 0, none⟩ = some (.int .i64 0) := cell_blk hx 0
        have c1 : V2.cell? ⟨w.heap.size, 1, none⟩ = some (.string ⟨#[]⟩) := cell_blk hx 1
        have f0 : V2.frozen? ⟨w.heap.size, 0, none⟩ = false := frozen_blk hx 0
        have f1 : V2.frozen? ⟨w.heap.size, 1, none⟩ = false := frozen_blk hx 1
        clear hx
        go_wp2_with fail
        refine bodyPost_ret (v := .tuple #[.agg #[.int .i64 0, .string ⟨#[]⟩], .int .i64 0, .int .i64 T.2.2.2]) (by rw [HT3.out]; simp [results, Try.results37, go_sem, c0, c1]) rfl ⟨by rw [HT3.out]; rfl, ?_⟩
        exact ((((Below.refl _ w).alloc (Nat.le_refl _) _).trans ((bch d1 d2).mono (by simp))).setCell (Nat.le_refl _) _).setCell (Nat.le_refl _) _
  all_goals
    have HT2 := Lib.hid (HT.out.symm.trans (if_pos (by decide)))
    clear HT hk1 hk2 hf1 hf2 he2 t2
    go_enter Try.func37, Try.ntmps37
    go_wp2_with fail
    refine (t1 _).mono ?_; rintro e V1 ⟨rfl, d1⟩
    have hx := (d1.block w.heap.size (by simp)).trans (World.alloc_heap_new w _)
    have c0 : V1.cell? ⟨w.heap.size, 0, none⟩ = some (.int .i64 0) := cell_blk hx 0
    have c1 : V1.cell? ⟨w.heap.size, 1, none⟩ = some (.string ⟨#[]⟩) := cell_blk hx 1
    have f0 : V1.frozen? ⟨w.heap.size, 0, none⟩ = false := frozen_blk hx 0
    have f1 : V1.frozen? ⟨w.heap.size, 1, none⟩ = false := frozen_blk hx 1
    clear hx
    go_wp2_with fail
    refine bodyPost_ret (v := .tuple #[.agg #[.int .i64 0, .string ⟨#[]⟩], .int .i64 0, .int .i64 T.2.2.2]) (by rw [HT2.out]; simp [results, Try.results37, go_sem, c0, c1]) rfl ⟨by rw [HT2.out]; rfl, ?_⟩
    exact ((((Below.refl _ w).alloc (Nat.le_refl _) _).trans (d1.mono (by simp))).setCell (Nat.le_refl _) _).setCell (Nat.le_refl _) _
end Go.Proofs.Ytjdpihppniibjaa
