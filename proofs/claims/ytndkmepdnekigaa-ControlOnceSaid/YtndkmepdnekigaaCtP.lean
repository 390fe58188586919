import Derived.Test.YtndkmepdnekigaaCtPk
/-
  The contract of the program's own New of controllers (stage 18).
-/
namespace Go.Proofs.Ytndkmepdnekigaa
open Go.RowKit Go.Lib
set_option linter.unusedVariables false
set_option linter.unusedSimpArgs false

set_option maxRecDepth 100000 in
set_option maxHeartbeats 8000000 in
theorem newC9_any : NewC9 := by
  intro n h b w hwn hwh hwb
  have HZ0 := Blk.new w (.cells #[.int .i64 0, .slice none 0 0, .slice none 0 0] 26)
  have HB0 := ba9 w (.cells #[.int .i64 0, .slice none 0 0, .slice none 0 0] 26)
  obtain ⟨W, hW⟩ : ∃ W, w.alloc (.cells #[.int .i64 0, .slice none 0 0, .slice none 0 0] 26) = W := ⟨_, rfl⟩
  rw [hW] at HZ0 HB0
  have HZ := Lib.hid HZ0; clear HZ0
  have HB := Lib.hid HB0; clear HB0
  have HNO : Hid (¬ RightC (newRaw n h b) → newC n h b = zeroC) := fun e => if_neg e
  have HYES : Hid (RightC (newRaw n h b) → newC n h b = newRaw n h b) := fun e => if_pos e
  have q := fun V => within9_any n 1 8 V
  by_cases hn : 1 ≤ n ∧ n ≤ 8
  rotate_left
  · have HE : Hid (newC n h b = zeroC) := HNO.out (fun e => by
      have h3 := e.2.2.1
      have : (newRaw n h b).pl.length = min n.toNat 9 := by simp [newRaw]
      rw [this] at h3
      omega)
    rw [show wi9 n 1 8 = false from decide_eq_false hn] at q
    clear hn
    go_enter Try.func12, Try.ntmps12
    go_upto_region 1 with fail
    try rw [hW]
    clear hW
    go_wp2_with fail
    ((with_reducible refine (q _).mono ?_); rintro e V ⟨rfl, rfl⟩)
    clear q
    have x0 := Blk.cell HZ.out 0
    have x1 := Blk.cell HZ.out 1
    have x2 := Blk.cell HZ.out 2
    simp only [List.getElem?_toArray, List.getElem?_cons_zero, List.getElem?_cons_succ] at x0 x1 x2
    have f0 := Blk.frozen HZ.out 0
    have f1 := Blk.frozen HZ.out 1
    have f2 := Blk.frozen HZ.out 2
    have hz3 := Blk.set (Blk.set (Blk.set HZ.out 0 (.int .i64 0) #[.int .i64 0, .slice none 0 0, .slice none 0 0] rfl) 1 (.slice none 0 0) #[.int .i64 0, .slice none 0 0, .slice none 0 0] rfl) 2 (.slice none 0 0) #[.int .i64 0, .slice none 0 0, .slice none 0 0] rfl
    have hb3 := ((HB.out.setCell (p := ⟨w.heap.size, 0, none⟩) (Nat.le_refl _) (.int .i64 0)).setCell (p := ⟨w.heap.size, 1, none⟩) (Nat.le_refl _) (.slice none 0 0)).setCell (p := ⟨w.heap.size, 2, none⟩) (Nat.le_refl _) (.slice none 0 0)
    skip
    have HZ3 := Lib.hid hz3; clear hz3
    have HB3 := Lib.hid hb3; clear hb3
    go_wp2_with fail
    have e0 := Blk.cell HZ3.out 0
    have e1 := Blk.cell HZ3.out 1
    have e2 := Blk.cell HZ3.out 2
    simp only [List.getElem?_toArray, List.getElem?_cons_zero, List.getElem?_cons_succ] at e0 e1 e2
    refine bodyPost_ret (v := .agg #[.int .i64 0, .slice none 0 0, .slice none 0 0]) (by simp [results, Try.results12, go_sem, e0, e1, e2]) rfl ?_
    rw [HE.out]
    exact ⟨_, _, _, _, _, _, rfl, Nat.le_refl _, Nat.le_refl _, ⟨isG_nil _ _, isG_nil _ _⟩, HB3.out⟩
  obtain ⟨k, rfl⟩ : ∃ k : Nat, n = k := ⟨n.toNat, by omega⟩
  have hk : 1 ≤ k ∧ k ≤ 8 := by omega
  have HK := Lib.hid hk
  rw [show wi9 (k : Int) 1 8 = true from decide_eq_true hn] at q
  have HRAW : Hid (newRaw (k : Int) h b = ⟨1, [(h, b)], List.replicate k (h, 1, 0)⟩) := by
    show _ = _
    unfold newRaw
    rw [show min (k : Int).toNat 9 = k by omega]
  clear hn
  have hm1 := Blk.new W (.cells #[.int .i64 h, .int .i64 b] 45)
  have hb1 := ba9 W (.cells #[.int .i64 h, .int .i64 b] 45)
  have hp2 := Blk.new (W.alloc (.cells #[.int .i64 h, .int .i64 b] 45)) (.cells #[.int .i64 h, .int .i64 1, .int .i64 0] 48)
  have hb2 := ba9 (W.alloc (.cells #[.int .i64 h, .int .i64 b] 45)) (.cells #[.int .i64 h, .int .i64 1, .int .i64 0] 48)
  rw [World.size_alloc] at hp2
  have hm2 := Blk.below hm1 hb2
  have hzz := Blk.below (Blk.below HZ.out hb1) hb2
  have hbb := bch HB.out (bch hb1 hb2)
  have hgw : w.heap.size < W.heap.size := Blk.lt HZ.out
  have qr := repeat9_any (h, 1, 0) (W.heap.size + 1) k hk _ hp2
  obtain ⟨W3, hW3⟩ : ∃ X, (W.alloc (.cells #[.int .i64 h, .int .i64 b] 45)).alloc (.cells #[.int .i64 h, .int .i64 1, .int .i64 0] 48) = X := ⟨_, rfl⟩
  rw [hW3] at hm2 hzz hbb qr
  have HM2 := Lib.hid hm2; clear hm2
  have HZZ := Lib.hid hzz; clear hzz
  have HBB := Lib.hid hbb; clear hbb
  have HGW := Lib.hid hgw; clear hgw
  clear hk hm1 hb1 hp2 hb2
  go_enter Try.func12, Try.ntmps12
  go_upto_region 1 with fail
  try rw [hW]
  clear hW
  go_wp2_with fail
  ((with_reducible refine (q _).mono ?_); rintro e V ⟨rfl, rfl⟩)
  clear q
  go_wp2_with fail
  try rw [hW3]
  clear hW3
  ((with_reducible refine qr.mono ?_); rintro e V ⟨Bp, capp, rfl, hcp, hip, b1⟩)
  clear qr
  have hm4 := Blk.below (Blk.below HM2.out b1) (ba9 V (.cells #[.int .i64 1, .slice (some ⟨W.heap.size, 0, none⟩) 1 1, .slice Bp k capp] 26))
  have hz4 := Blk.below (Blk.below HZZ.out b1) (ba9 V (.cells #[.int .i64 1, .slice (some ⟨W.heap.size, 0, none⟩) 1 1, .slice Bp k capp] 26))
  have hx4 := Blk.new V (.cells #[.int .i64 1, .slice (some ⟨W.heap.size, 0, none⟩) 1 1, .slice Bp k capp] 26)
  have hb4 := (bch HBB.out b1).alloc (bch HBB.out b1).size (.cells #[.int .i64 1, .slice (some ⟨W.heap.size, 0, none⟩) 1 1, .slice Bp k capp] 26)
  have hi4 := hip.below (ba9 V (.cells #[.int .i64 1, .slice (some ⟨W.heap.size, 0, none⟩) 1 1, .slice Bp k capp] 26))
  go_upto_region 4 with fail
  obtain ⟨X4, hX4⟩ : ∃ X, V.alloc (.cells #[.int .i64 1, .slice (some ⟨W.heap.size, 0, none⟩) 1 1, .slice Bp k capp] 26) = X := ⟨_, rfl⟩
  rw [hX4] at hm4 hz4 hx4 hb4 hi4
  try rw [hX4]
  clear hX4 hip b1
  have HM4 := Lib.hid hm4; clear hm4
  have HZ4 := Lib.hid hz4; clear hz4
  have HX4 := Lib.hid hx4; clear hx4
  have HB4 := Lib.hid hb4; clear hb4
  have HI4 : Hid (IsCt X4 ⟨1, [(h, b)], List.replicate k (h, 1, 0)⟩ (some ⟨W.heap.size, 0, none⟩) 1 Bp k) := ⟨m_one_at (q := (h, b)) HM4.out, hi4⟩
  clear hi4
  have HCP := Lib.hid hcp; clear hcp
  have HCW : Hid (CtW ⟨1, [(h, b)], List.replicate k (h, 1, 0)⟩) := ⟨show (Lit.int .i64 1).wf = true by decide, fun x hx => by rw [List.mem_singleton] at hx; rw [hx]; exact ⟨hwh, hwb⟩, fun x hx => by rw [(List.mem_replicate.1 hx).2]; exact ⟨hwh, show (Lit.int .i64 1).wf = true by decide, show (Lit.int .i64 0).wf = true by decide⟩⟩
  have q : Calls Try.prog 16 #[.agg #[.int .i64 1, .slice (some ⟨W.heap.size, 0, none⟩) 1 1, .slice Bp k capp]] X4 fun e w' => e = .returned (.bool (rightC (newRaw (k : Int) h b))) ∧ Below X4.heap.size X4 w' := by
    rw [HRAW.out]
    exact rightC9_any ⟨1, [(h, b)], List.replicate k (h, 1, 0)⟩ (some ⟨W.heap.size, 0, none⟩) Bp 1 1 k capp X4 ⟨HI4.out, HCW.out, Nat.le_refl _, HCP.out, by omega, by have := HK.out; omega⟩
  have z0 := Blk.cell HX4.out 0
  have z1 := Blk.cell HX4.out 1
  have z2 := Blk.cell HX4.out 2
  simp only [List.getElem?_toArray, List.getElem?_cons_zero, List.getElem?_cons_succ] at z0 z1 z2
  go_wp2_with fail
  ((with_reducible refine (q).mono ?_); rintro e X5 ⟨rfl, b5⟩)
  clear q z0 z1 z2
  have hz5 := Blk.below HZ4.out b5
  have hx5 := Blk.below HX4.out b5
  have hb5 := bch HB4.out b5
  have hi7 := HI4.out.1.below b5
  have hj7 := HI4.out.2.below b5
  have hap : ApartN w.heap.size (some ⟨W.heap.size, 0, none⟩) 1 ∧ ApartN w.heap.size Bp k := ⟨fun _ bb off e => by have := HGW.out; cases e; omega, s3_apart (c := zeroC) (A := none) (B := none) (n := 0) (cap := 0) (m := 0) (cm := 0) hz5 hj7⟩
  cases hr : rightC (newRaw (k : Int) h b) with
  | false =>
    have HE : Hid (newC (k : Int) h b = zeroC) := HNO.out (by unfold rightC at hr; exact of_decide_eq_false hr)
    clear hr hap hi7 hj7 hx5 HNO HYES
    have x0 := Blk.cell hz5 0
    have x1 := Blk.cell hz5 1
    have x2 := Blk.cell hz5 2
    simp only [List.getElem?_toArray, List.getElem?_cons_zero, List.getElem?_cons_succ] at x0 x1 x2
    have f0 := Blk.frozen hz5 0
    have f1 := Blk.frozen hz5 1
    have f2 := Blk.frozen hz5 2
    have hz3 := Blk.set (Blk.set (Blk.set hz5 0 (.int .i64 0) #[.int .i64 0, .slice none 0 0, .slice none 0 0] rfl) 1 (.slice none 0 0) #[.int .i64 0, .slice none 0 0, .slice none 0 0] rfl) 2 (.slice none 0 0) #[.int .i64 0, .slice none 0 0, .slice none 0 0] rfl
    have hb3 := ((hb5.setCell (p := ⟨w.heap.size, 0, none⟩) (Nat.le_refl _) (.int .i64 0)).setCell (p := ⟨w.heap.size, 1, none⟩) (Nat.le_refl _) (.slice none 0 0)).setCell (p := ⟨w.heap.size, 2, none⟩) (Nat.le_refl _) (.slice none 0 0)
    clear hz5 hb5
    have HZ3 := Lib.hid hz3; clear hz3
    have HB3 := Lib.hid hb3; clear hb3
    go_wp2_with fail
    have e0 := Blk.cell HZ3.out 0
    have e1 := Blk.cell HZ3.out 1
    have e2 := Blk.cell HZ3.out 2
    simp only [List.getElem?_toArray, List.getElem?_cons_zero, List.getElem?_cons_succ] at e0 e1 e2
    refine bodyPost_ret (v := .agg #[.int .i64 0, .slice none 0 0, .slice none 0 0]) (by simp [results, Try.results12, go_sem, e0, e1, e2]) rfl ?_
    rw [HE.out]
    exact ⟨_, _, _, _, _, _, rfl, Nat.le_refl _, Nat.le_refl _, ⟨isG_nil _ _, isG_nil _ _⟩, HB3.out⟩
  | true =>
    have HE : Hid (newC (k : Int) h b = ⟨1, [(h, b)], List.replicate k (h, 1, 0)⟩) := by
      show _ = _
      rw [HYES.out (by unfold rightC at hr; exact of_decide_eq_true hr), HRAW.out]
    clear hr HNO HYES
    have z0 := Blk.cell hx5 0
    have z1 := Blk.cell hx5 1
    have z2 := Blk.cell hx5 2
    simp only [List.getElem?_toArray, List.getElem?_cons_zero, List.getElem?_cons_succ] at z0 z1 z2
    have x0 := Blk.cell hz5 0
    have x1 := Blk.cell hz5 1
    have x2 := Blk.cell hz5 2
    simp only [List.getElem?_toArray, List.getElem?_cons_zero, List.getElem?_cons_succ] at x0 x1 x2
    have f0 := Blk.frozen hz5 0
    have f1 := Blk.frozen hz5 1
    have f2 := Blk.frozen hz5 2
    have hz3 := Blk.set (Blk.set (Blk.set hz5 0 (.int .i64 1) #[.int .i64 1, .slice none 0 0, .slice none 0 0] rfl) 1 (.slice (some ⟨W.heap.size, 0, none⟩) 1 1) #[.int .i64 1, .slice (some ⟨W.heap.size, 0, none⟩) 1 1, .slice none 0 0] rfl) 2 (.slice Bp k capp) #[.int .i64 1, .slice (some ⟨W.heap.size, 0, none⟩) 1 1, .slice Bp k capp] rfl
    have hb3 := ((hb5.setCell (p := ⟨w.heap.size, 0, none⟩) (Nat.le_refl _) (.int .i64 1)).setCell (p := ⟨w.heap.size, 1, none⟩) (Nat.le_refl _) (.slice (some ⟨W.heap.size, 0, none⟩) 1 1)).setCell (p := ⟨w.heap.size, 2, none⟩) (Nat.le_refl _) (.slice Bp k capp)
    have hi3 := ((hi7.far (j := 0) (u := .int .i64 1) hap.1).far (j := 1) (u := .slice (some ⟨W.heap.size, 0, none⟩) 1 1) hap.1).far (j := 2) (u := .slice Bp k capp) hap.1
    have HI3 := Lib.hid hi3; clear hi3
    have hj3 := ((hj7.far (j := 0) (u := .int .i64 1) hap.2).far (j := 1) (u := .slice (some ⟨W.heap.size, 0, none⟩) 1 1) hap.2).far (j := 2) (u := .slice Bp k capp) hap.2
    have HJ3 := Lib.hid hj3; clear hj3
    clear hz5 hb5 hx5 hap hi7 hj7
    have HZ3 := Lib.hid hz3; clear hz3
    have HB3 := Lib.hid hb3; clear hb3
    go_wp2_with fail
    have e0 := Blk.cell HZ3.out 0
    have e1 := Blk.cell HZ3.out 1
    have e2 := Blk.cell HZ3.out 2
    simp only [List.getElem?_toArray, List.getElem?_cons_zero, List.getElem?_cons_succ] at e0 e1 e2
    refine bodyPost_ret (v := .agg #[.int .i64 1, .slice (some ⟨W.heap.size, 0, none⟩) 1 1, .slice Bp k capp]) (by simp [results, Try.results12, go_sem, e0, e1, e2]) rfl ?_
    rw [HE.out]
    exact ⟨_, _, _, _, _, _, rfl, Nat.le_refl _, HCP.out, ⟨HI3.out, HJ3.out⟩, HB3.out⟩
end Go.Proofs.Ytndkmepdnekigaa
