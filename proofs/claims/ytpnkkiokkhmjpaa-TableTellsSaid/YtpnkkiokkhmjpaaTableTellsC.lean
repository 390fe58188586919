import Derived.Test.YtpnkkiokkhmjpaaTabLaw
import Derived.Test.YtpnkkiokkhmjpaaTabLawMath
import Derived.Test.YtpnkkiokkhmjpaaTabRef
/-
  The walk of the law TableTells, over what is asked of the program (stage 12).
-/
namespace Go.Proofs.Ytpnkkiokkhmjpaa
open Go.RowKit
set_option linter.unusedVariables false
set_option linter.unusedSimpArgs false

theorem rkeys_le {t : List Rcd} (h : ∀ r ∈ t, RcW r) (o : OpR) : ∀ s ∈ (doT t o).2.keys, s.size ≤ maxLen := by
  have hs : ∀ s ∈ scanT t o, s.size ≤ maxLen := fun s hs => by
    unfold scanT at hs
    obtain ⟨r, hr, rfl⟩ := List.mem_map.1 hs
    have hr2 := (List.mem_filter.1 (List.mem_of_mem_take hr)).1
    have := (h r hr2).1.1
    unfold maxLen; omega
  have hp : ∀ k, (putT t k o).2.keys = [] := fun k => put_keys t k o
  intro s hm
  by_cases hb : RightT t ∧ checkO 2 o = 0
  · rw [doT_ok hb] at hm
    split at hm
    · exact hs s hm
    · split at hm
      · rw [hp] at hm; cases hm
      · split at hm
        · split at hm
          · cases hm
          · rw [hp] at hm; cases hm
        · split at hm
          · cases hm
          · split at hm
            · cases hm
            · split at hm
              · cases hm
              · split at hm
                · cases hm
                · cases hm
  · rw [doT_bad hb] at hm; cases hm
theorem do_size {t : List Rcd} {o : OpR} (h : t.length * 88 ≤ 140737488351232) : (doT t o).1.length * 88 ≤ 140737488351232 := by
  by_cases hb : RightT t ∧ checkO 2 o = 0
  · have := (do_right hb.1 o).2.2; omega
  · rw [doT_bad hb]; exact h
theorem do_call88 (kD : DoT) {t u : List Rcd} {o : OpR} {r : RepR} (h : doT t o = (u, r)) (ho : OpWf o) {A : Option Addr} {n cap : Nat} {w : World} (hc : n ≤ cap) (hts : IsTs w A n t) (hn : n * 88 ≤ 140737488351232) :
    Calls Try.prog 16 #[.slice A n cap, .agg #[.int .i64 o.kind, .string o.key, .string o.value, .int .i64 o.rev, .string o.upto, .int .i64 o.life, .string o.note]] w (DoAns w u r) := by
  have q := kD t o A n cap w ho hc hts hn
  rw [h] at q
  exact q
theorem refdo_ans {t u : List Rcd} {o : OpR} {r : RepR} (h : doT t o = (u, r)) (ho : OpWf o) {A : Option Addr} {n cap : Nat} {w : World} (hts : IsTs w A n t) (hn : n * 88 ≤ 140737488351232) :
    Calls Try.prog 17 #[.slice A n cap, .agg #[.int .i64 o.kind, .string o.key, .string o.value, .int .i64 o.rev, .string o.upto, .int .i64 o.life, .string o.note]] w (DoAns w u r) := by
  have hk := rkeys_le hts.2.2.1 o
  have q := refdo_any t o A n cap w hts hn ho
  unfold opV at q
  refine q.mono ?_
  rintro e W ⟨v, l, K, rfl, hr, hm, hx, hK, hb⟩
  rw [h] at hm hK hk ⊢
  obtain ⟨A2, cap2, rfl, hc, hts2⟩ := hr.isTs hx
  obtain ⟨Ak, ck, rfl, hck, hss⟩ := hK.isSs hk
  rw [hm] at hts2
  exact ⟨A2, _, cap2, Ak, _, ck, rfl, hc, hts2, hck, hss, hb⟩
/-- The two ops, the three versions, the two tables. -/
def ooT (o1 o3 : OpR) (k : Nat) : OpR := if k = 0 then o1 else o3
def vvT (z : Int) (j : Nat) : Int := if j = 0 then z else if j = 1 then 1 else 2
set_option maxRecDepth 100000 in
set_option maxHeartbeats 8000000 in
theorem tableTells_core (kH : CheckT) (kW : WritesT) (kR : RightQT) (kS : SameQT) (kD : DoT) (a0 : Option Addr) (n0 cap0 : Nat) (f : Nat → Nat → Int) (a1 : Option Addr) (n1 cap1 : Nat) (t1 : List Rcd) (x20 x21 x22 x23 x24 : Int) (o3 : OpR) (z4 : Int) (w : World) (h0 : IsRaw w a0 n0 5 f) (h1 : IsTs w a1 n1 t1) (le1 : n1 ≤ cap1) (k1 : n1 * 88 ≤ 140737488351232) (w20 : (Lit.int .i64 x20).wf = true) (w21 : (Lit.int .i64 x21).wf = true) (w22 : (Lit.int .i64 x22).wf = true) (w23 : (Lit.int .i64 x23).wf = true) (w24 : (Lit.int .i64 x24).wf = true) (w3 : OpWf o3) (w4 : (Lit.int .i64 z4).wf = true) :
    Calls Try.prog 3 #[.slice a0 n0 cap0, .slice a1 n1 cap1, .agg #[.int .i64 x20, .int .i64 x21, .int .i64 x22, .int .i64 x23, .int .i64 x24], opV o3, .int .i64 z4] w fun e w' => e = .returned (.bool true) ∧ Below w.heap.size w w' := by
  have qa : ∀ W, Calls Try.prog 12 #[.agg #[.int .i64 x20, .int .i64 x21, .int .i64 x22, .int .i64 x23, .int .i64 x24]] W (fun e w' => e = .returned (opV (opR (arr5 x20 x21 x22 x23 x24))) ∧ Below W.heap.size W w') := fun W => op_any (arr5 x20 x21 x22 x23 x24) (arr5_wf w20 w21 w22 w23 w24) W
  have hwf1 := opR_wf (arr5 x20 x21 x22 x23 x24)
  generalize opR (arr5 x20 x21 x22 x23 x24) = o1 at *
  have HOW : Hid (∀ k, OpWf (ooT o1 o3 k)) := fun k => by unfold ooT; split; exact hwf1; exact w3
  have HVW : Hid (∀ j, (Lit.int .i64 (vvT z4 j)).wf = true) := fun j => by unfold vvT; split; exact w4; split <;> decide
  clear hwf1 w3 w4 w20 w21 w22 w23 w24
  unfold opV at qa
  have HTR := Lib.hid (table_right f n0)
  generalize hT : tableR f n0 = T at HTR
  have hb1 : Below w.heap.size w (w.alloc (.cells #[.int .i64 x20, .int .i64 x21, .int .i64 x22, .int .i64 x23, .int .i64 x24] 24)) := (Below.refl _ _).alloc (Nat.le_refl _) _
  have hbw : Below w.heap.size w ((w.alloc (.cells #[.int .i64 x20, .int .i64 x21, .int .i64 x22, .int .i64 x23, .int .i64 x24] 24)).alloc (.cells #[.int .i64 o3.kind, .string o3.key, .string o3.value, .int .i64 o3.rev, .string o3.upto, .int .i64 o3.life, .string o3.note] 26)) := hb1.alloc (by simp) _
  have hra := Blk.below (Blk.new w (.cells #[.int .i64 x20, .int .i64 x21, .int .i64 x22, .int .i64 x23, .int .i64 x24] 24)) ((Below.refl _ _).alloc (Nat.le_refl _) (.cells #[.int .i64 o3.kind, .string o3.key, .string o3.value, .int .i64 o3.rev, .string o3.upto, .int .i64 o3.life, .string o3.note] 26))
  have hro : OpBlk ((w.alloc (.cells #[.int .i64 x20, .int .i64 x21, .int .i64 x22, .int .i64 x23, .int .i64 x24] 24)).alloc (.cells #[.int .i64 o3.kind, .string o3.key, .string o3.value, .int .i64 o3.rev, .string o3.upto, .int .i64 o3.life, .string o3.note] 26)) (w.heap.size + 1) o3 := by have h := OpBlk.new (w.alloc (.cells #[.int .i64 x20, .int .i64 x21, .int .i64 x22, .int .i64 x23, .int .i64 x24] 24)) o3; rw [World.size_alloc] at h; exact h
  have h00 := h0.below hbw
  have h11 := h1.below hbw
  obtain ⟨W0, hW0⟩ : ∃ W, (w.alloc (.cells #[.int .i64 x20, .int .i64 x21, .int .i64 x22, .int .i64 x23, .int .i64 x24] 24)).alloc (.cells #[.int .i64 o3.kind, .string o3.key, .string o3.value, .int .i64 o3.rev, .string o3.upto, .int .i64 o3.life, .string o3.note] 26) = W := ⟨_, rfl⟩
  rw [hW0] at hbw hra hro h00 h11
  have HW0 := Lib.hid hW0
  have HLE := Lib.hid le1; clear le1
  have HK88 := Lib.hid k1; clear k1
  clear h0 h1 hW0 hb1
  unfold opV
  go_enter Try.func3, Try.ntmps3
  go_upto_region 1 with fail
  rw [HW0.out]
  clear HW0
  have HB0 := Lib.hid hbw; clear hbw
  have Hraw0 := Lib.hid h00; clear h00
  have HY0 := Lib.hid h11; clear h11
  have HA0 := Lib.hid hra; clear hra
  have HO0 : Hid (OpBlk W0 (w.heap.size + 1) o3) := hro; clear hro
  have q_aw := fun W => awakeT_any kH kW kR kS kD W
  go_wp2_with fail
  ((with_reducible refine (q_aw _).mono ?_); rintro e W1 ⟨rfl, b_⟩)
  have h_b := bch HB0.out b_
  have h_raw := Hraw0.out.below b_
  have h_A := HA0.out.below b_
  have h_O := HO0.out.below b_
  have h_any := HY0.out.below b_
  have HB1 := Lib.hid h_b; clear h_b
  have Hraw1 := Lib.hid h_raw; clear h_raw
  have HA1 := Lib.hid h_A; clear h_A
  have HO1 := Lib.hid h_O; clear h_O
  have Hany1 := Lib.hid h_any; clear h_any
  clear b_
  clear q_aw
  go_upto_region 2 with fail
  refine wp_region_noPanic ?_
  refine wp_region_held_drew (S := (fun W => Below W1.heap.size W1 W)) (by kernel_rfl) ((Below.refl _ _).drew) (fun hHeld => ?_)
  refine wpAnyH_take (i := 0) (v := ?_) rfl (by kernel_rfl) (by kernel_rfl) (by kernel_rfl) (fun _ _ _ h => h) (Or.inl ⟨by rfl, ?_⟩) (by assumption) ?_
  rotate_left
  · (intro w hSw; (try dsimp only at hSw); (have ha_ := Blk.below HA1.out hSw); (have c0 := Blk.cell ha_ 0); (have c1 := Blk.cell ha_ 1); (have c2 := Blk.cell ha_ 2); (have c3 := Blk.cell ha_ 3); (have c4 := Blk.cell ha_ 4); simp only [List.getElem?_toArray, List.getElem?_cons_zero, List.getElem?_cons_succ] at c0 c1 c2 c3 c4; go_simp; (try with_reducible rfl))
  simp only [Act.put, List.getElem_toArray, List.getElem_cons_zero, List.setIfInBounds_toArray, List.set_cons_zero, List.set_cons_succ]
  refine wpAnyH_take (i := 2) (v := ?_) rfl (by kernel_rfl) (by kernel_rfl) (by kernel_rfl) (fun _ _ _ h => h) (Or.inl ⟨by rfl, ?_⟩) (by assumption) ?_
  rotate_left
  · (intro w hSw; (try dsimp only at hSw); obtain ⟨p0, p1, p2, p3, p4, p5, p6⟩ := (OpBlk.below HO1.out hSw).cells; go_simp; (try with_reducible rfl))
  simp only [Act.put, List.getElem_toArray, List.getElem_cons_zero, List.getElem_cons_succ, List.setIfInBounds_toArray, List.set_cons_zero, List.set_cons_succ]
  refine wpAnyH_take (i := 5) (v := ?_) rfl (by kernel_rfl) (by kernel_rfl) (by kernel_rfl) (fun _ _ _ h => h) (Or.inl ⟨by rfl, ?_⟩) (by assumption) ?_
  rotate_left
  · (intro w hSw; (try dsimp only at hSw); go_simp; (try with_reducible rfl))
  simp only [Act.put, List.getElem_toArray, List.getElem_cons_zero, List.getElem_cons_succ, List.setIfInBounds_toArray, List.set_cons_zero, List.set_cons_succ]
  refine wpAnyH_ready (rs := [1]) (by kernel_rfl) (by simp) ?_
  refine AllReadyH.cons rfl (fun K hK => ?_) AllReadyH.nil
  rw [if_pos (by rfl)]
  go_simp
  ((with_reducible refine (qa _).mono ?_); rintro e V1 ⟨rfl, bq⟩)
  refine hK.out _ _ (bch hHeld bq) (fun hHeld2 => ?_)
  clear hK K hHeld
  have hHeld := hHeld2; clear hHeld2
  refine wpAnyH_ready (rs := [3]) (by kernel_rfl) (by simp) ?_
  refine AllReadyH.cons rfl (fun K hK => ?_) AllReadyH.nil
  rw [if_pos (by rfl)]
  go_simp
  refine hK.out _ _ (hHeld.alloc hHeld.size _) (fun hHeld2 => ?_)
  clear hK K hHeld
  have hHeld := hHeld2; clear hHeld2
  refine wpAnyH_take (i := 4) (v := ?_) rfl (by kernel_rfl) (by kernel_rfl) (by kernel_rfl) (fun _ _ _ h => h) (Or.inl ⟨by rfl, ?_⟩) (by assumption) ?_
  rotate_left
  · (intro w hSw; (try dsimp only at hSw); go_simp; (try with_reducible rfl))
  simp only [Act.put, List.getElem_toArray, List.getElem_cons_zero, List.getElem_cons_succ, List.setIfInBounds_toArray, List.set_cons_zero, List.set_cons_succ]
  refine wpAnyH_done (by kernel_rfl) ?_ _
  refine NoPanic.normal ?_
  clear qa bq
  have hbl := Blk.new V1 (.cells #[.int .i64 o1.kind, .string o1.key, .string o1.value, .int .i64 o1.rev, .string o1.upto, .int .i64 o1.life, .string o1.note, .int .i64 o3.kind, .string o3.key, .string o3.value, .int .i64 o3.rev, .string o3.upto, .int .i64 o3.life, .string o3.note] 26)
  have hh := hHeld
  clear hHeld
  obtain ⟨W2, hW2⟩ : ∃ W, V1.alloc (.cells #[.int .i64 o1.kind, .string o1.key, .string o1.value, .int .i64 o1.rev, .string o1.upto, .int .i64 o1.life, .string o1.note, .int .i64 o3.kind, .string o3.key, .string o3.value, .int .i64 o3.rev, .string o3.upto, .int .i64 o3.life, .string o3.note] 26) = W := ⟨_, rfl⟩
  rw [hW2] at hbl hh ⊢
  clear hW2
  obtain ⟨gb, hgb⟩ : ∃ g, V1.heap.size = g := ⟨_, rfl⟩
  rw [hgb] at hbl ⊢
  clear hgb
  have HOO : Hid (∀ k, k < 2 → W2.cell? ⟨gb, k * 7, none⟩ = some (.int .i64 (ooT o1 o3 k).kind) ∧ W2.cell? ⟨gb, k * 7 + 1, none⟩ = some (.string (ooT o1 o3 k).key) ∧ W2.cell? ⟨gb, k * 7 + 2, none⟩ = some (.string (ooT o1 o3 k).value) ∧ W2.cell? ⟨gb, k * 7 + 3, none⟩ = some (.int .i64 (ooT o1 o3 k).rev) ∧ W2.cell? ⟨gb, k * 7 + 4, none⟩ = some (.string (ooT o1 o3 k).upto) ∧ W2.cell? ⟨gb, k * 7 + 5, none⟩ = some (.int .i64 (ooT o1 o3 k).life) ∧ W2.cell? ⟨gb, k * 7 + 6, none⟩ = some (.string (ooT o1 o3 k).note)) := fun k hk => by
    rcases (by omega : k = 0 ∨ k = 1) with rfl | rfl
    · exact ⟨Blk.cell hbl 0, Blk.cell hbl 1, Blk.cell hbl 2, Blk.cell hbl 3, Blk.cell hbl 4, Blk.cell hbl 5, Blk.cell hbl 6⟩
    · exact ⟨Blk.cell hbl 7, Blk.cell hbl 8, Blk.cell hbl 9, Blk.cell hbl 10, Blk.cell hbl 11, Blk.cell hbl 12, Blk.cell hbl 13⟩
  have HGB : Hid (gb < W2.heap.size) := Blk.lt hbl
  clear hbl
  have h_b := bch HB1.out hh
  have h_raw := Hraw1.out.below hh
  have h_any := Hany1.out.below hh
  have HB2 := Lib.hid h_b; clear h_b
  have Hraw2 := Lib.hid h_raw; clear h_raw
  have Hany2 := Lib.hid h_any; clear h_any
  clear hh
  go_wp2_with fail
  go_loopw [28] (fun i wy => ∃ (k : Nat) (wr : World), wr = wy ∧ k ≤ 2 ∧ i = .int .i64 k ∧ Below W2.heap.size W2 wr) (fun i _ => 2 - (intOf i).toNat)
  case atStart => exact ⟨0, _, rfl, by omega, rfl, Below.refl _ _⟩
  case round =>
    obtain ⟨k, wr, rfl, hk2, rfl, hb⟩ := hrel
    have HB := Lib.hid hb; clear hb
    by_cases hlt : k < 2
    · have hk0 : (0 : Int) ≤ (k : Int) := by omega
      have hki : (k : Int) < 2 := by omega
      obtain ⟨y0, y1, y2, y3, y4, y5, y6⟩ := HOO.out k hlt
      have z0 := (HB.out.cell (p := ⟨gb, k * 7, none⟩) HGB.out).trans y0
      have z1 := (HB.out.cell (p := ⟨gb, k * 7 + 1, none⟩) HGB.out).trans y1
      have z2 := (HB.out.cell (p := ⟨gb, k * 7 + 2, none⟩) HGB.out).trans y2
      have z3 := (HB.out.cell (p := ⟨gb, k * 7 + 3, none⟩) HGB.out).trans y3
      have z4' := (HB.out.cell (p := ⟨gb, k * 7 + 4, none⟩) HGB.out).trans y4
      have z5 := (HB.out.cell (p := ⟨gb, k * 7 + 5, none⟩) HGB.out).trans y5
      have z6 := (HB.out.cell (p := ⟨gb, k * 7 + 6, none⟩) HGB.out).trans y6
      clear y0 y1 y2 y3 y4 y5 y6
      have HWO := Lib.hid (HOW.out k)
      obtain ⟨o, ho⟩ : ∃ o, ooT o1 o3 k = o := ⟨_, rfl⟩
      rw [ho] at z0 z1 z2 z3 z4' z5 z6 HWO
      clear ho
      have hbo := OpBlk.new wr o
      have hbb : Below wr.heap.size wr (wr.alloc (.cells #[.int .i64 o.kind, .string o.key, .string o.value, .int .i64 o.rev, .string o.upto, .int .i64 o.life, .string o.note] 26)) := (Below.refl _ _).alloc (Nat.le_refl _) _
      go_upto_region 5 with fail
      clear z0 z1 z2 z3 z4' z5 z6
      obtain ⟨W3, hW3⟩ : ∃ W, wr.alloc (.cells #[.int .i64 o.kind, .string o.key, .string o.value, .int .i64 o.rev, .string o.upto, .int .i64 o.life, .string o.note] 26) = W := ⟨_, rfl⟩
      rw [hW3] at hbo hbb ⊢
      clear hW3
      have HB3 := Lib.hid (bch HB.out hbb); clear hbb
      have HO3 : Hid (OpBlk W3 wr.heap.size o) := hbo; clear hbo
      have hi4 := Blk.new W3 (.cells #[.int .i64 z4, .int .i64 1, .int .i64 2] 3)
      have hb4 : Below W3.heap.size W3 (W3.alloc (.cells #[.int .i64 z4, .int .i64 1, .int .i64 2] 3)) := (Below.refl _ _).alloc (Nat.le_refl _) _
      obtain ⟨W4, hW4⟩ : ∃ W, W3.alloc (.cells #[.int .i64 z4, .int .i64 1, .int .i64 2] 3) = W := ⟨_, rfl⟩
      rw [hW4] at hi4 hb4
      obtain ⟨g4, hg4⟩ : ∃ g, W3.heap.size = g := ⟨_, rfl⟩
      have HO4 : Hid (OpBlk W4 wr.heap.size o) := OpBlk.below HO3.out hb4
      have HB4 := Lib.hid (bch HB3.out hb4)
      rw [hg4] at hi4
      have HVV : Hid (∀ j, j < 3 → W4.cell? ⟨g4, j, none⟩ = some (.int .i64 (vvT z4 j))) := fun j hj => by
        rcases (by omega : j = 0 ∨ j = 1 ∨ j = 2) with rfl | rfl | rfl
        · exact Blk.cell hi4 0
        · exact Blk.cell hi4 1
        · exact Blk.cell hi4 2
      have HG4 : Hid (g4 < W4.heap.size) := Blk.lt hi4
      clear hi4 hb4
      go_wp2_with fail
      try rw [hg4]
      clear hg4 hW4
      go_loopw [35] (fun i wy => ∃ (j : Nat) (wr2 : World), wr2 = wy ∧ j ≤ 3 ∧ i = .int .i64 j ∧ Below W4.heap.size W4 wr2) (fun i _ => 3 - (intOf i).toNat)
      case atStart => exact ⟨0, _, rfl, by omega, rfl, Below.refl _ _⟩
      case round =>
        obtain ⟨j, wr2, rfl, hj3, rfl, hbj⟩ := hrel
        have HBJ := Lib.hid hbj; clear hbj
        by_cases hjt : j < 3
        · have hj0 : (0 : Int) ≤ (j : Int) := by omega
          have hji : (j : Int) < 3 := by omega
          have v0 := (HBJ.out.cell (p := ⟨g4, j, none⟩) HG4.out).trans (HVV.out j hjt)
          have HVJ := Lib.hid (HVW.out j)
          obtain ⟨v, hv⟩ : ∃ v, vvT z4 j = v := ⟨_, rfl⟩
          rw [hv] at v0 HVJ
          clear hv
          have HOJ : Hid (OpBlk wr2 wr.heap.size o) := OpBlk.below HO4.out HBJ.out
          have qc := fun W => kH v o HVJ.out HWO.out W
          have qd := fun W => refcheck_any v o W
          unfold opV at qc qd
          obtain ⟨c, hc⟩ : ∃ c : Int, ((checkO v o : Nat) : Int) = c := ⟨_, rfl⟩
          rw [hc] at qc qd
          clear hc
          have hcc : (c != c) = false := by simp
          go_upto_region 8 with fail
          clear v0
          refine wp_region_noPanic ?_
          refine wp_region_held_drew (S := (fun W => Below wr2.heap.size wr2 W)) (by kernel_rfl) ((Below.refl _ _).drew) (fun hHeld => ?_)
          refine wpAnyH_take (i := 0) (v := ?_) rfl (by kernel_rfl) (by kernel_rfl) (by kernel_rfl) (fun _ _ _ h => h) (Or.inl ⟨by rfl, ?_⟩) (by assumption) ?_
          rotate_left
          · (intro w hSw; (try dsimp only at hSw); go_simp; (try with_reducible rfl))
          simp only [Act.put, List.getElem_toArray, List.getElem_cons_zero, List.setIfInBounds_toArray, List.set_cons_zero, List.set_cons_succ]
          refine wpAnyH_take (i := 1) (v := ?_) rfl (by kernel_rfl) (by kernel_rfl) (by kernel_rfl) (fun _ _ _ h => h) (Or.inl ⟨by rfl, ?_⟩) (by assumption) ?_
          rotate_left
          · (intro w hSw; (try dsimp only at hSw); obtain ⟨p0, p1, p2, p3, p4, p5, p6⟩ := (OpBlk.below HOJ.out hSw).cells; go_simp; (try with_reducible rfl))
          simp only [Act.put, List.getElem_toArray, List.getElem_cons_zero, List.getElem_cons_succ, List.setIfInBounds_toArray, List.set_cons_zero, List.set_cons_succ]
          refine wpAnyH_take (i := 3) (v := ?_) rfl (by kernel_rfl) (by kernel_rfl) (by kernel_rfl) (fun _ _ _ h => h) (Or.inl ⟨by rfl, ?_⟩) (by assumption) ?_
          rotate_left
          · (intro w hSw; (try dsimp only at hSw); go_simp; (try with_reducible rfl))
          simp only [Act.put, List.getElem_toArray, List.getElem_cons_zero, List.getElem_cons_succ, List.setIfInBounds_toArray, List.set_cons_zero, List.set_cons_succ]
          refine wpAnyH_take (i := 4) (v := ?_) rfl (by kernel_rfl) (by kernel_rfl) (by kernel_rfl) (fun _ _ _ h => h) (Or.inl ⟨by rfl, ?_⟩) (by assumption) ?_
          rotate_left
          · (intro w hSw; (try dsimp only at hSw); obtain ⟨p0, p1, p2, p3, p4, p5, p6⟩ := (OpBlk.below HOJ.out hSw).cells; go_simp; (try with_reducible rfl))
          simp only [Act.put, List.getElem_toArray, List.getElem_cons_zero, List.getElem_cons_succ, List.setIfInBounds_toArray, List.set_cons_zero, List.set_cons_succ]
          refine wpAnyH_ready (rs := [2]) (by kernel_rfl) (by simp) ?_
          refine AllReadyH.cons rfl (fun K hK => ?_) AllReadyH.nil
          rw [if_pos (by rfl)]
          go_simp
          ((with_reducible refine (qc _).mono ?_); rintro e V5 ⟨rfl, bq⟩)
          refine hK.out _ _ (bch hHeld bq) (fun hHeld2 => ?_)
          clear hK K hHeld
          have hHeld := hHeld2; clear hHeld2
          refine wpAnyH_ready (rs := [5]) (by kernel_rfl) (by simp) ?_
          refine AllReadyH.cons rfl (fun K hK => ?_) AllReadyH.nil
          rw [if_pos (by rfl)]
          go_simp
          ((with_reducible refine (qd _).mono ?_); rintro e V6 ⟨rfl, bq⟩)
          refine hK.out _ _ (bch hHeld bq) (fun hHeld2 => ?_)
          clear hK K hHeld
          have hHeld := hHeld2; clear hHeld2
          refine wpAnyH_take (i := 6) (v := ?_) rfl (by kernel_rfl) (by kernel_rfl) (by kernel_rfl) (fun _ _ _ h => h) (Or.inl ⟨by rfl, ?_⟩) (by assumption) ?_
          rotate_left
          · (intro w hSw; (try dsimp only at hSw); go_simp; (try with_reducible rfl))
          simp only [Act.put, List.getElem_toArray, List.getElem_cons_zero, List.getElem_cons_succ, List.setIfInBounds_toArray, List.set_cons_zero, List.set_cons_succ]
          refine wpAnyH_done (by kernel_rfl) ?_ _
          refine NoPanic.normal ?_
          have hh := hHeld
          clear hHeld
          have HBK := Lib.hid (bch HBJ.out hh); clear hh
          clear qc qd
          go_wp2_with fail
          go_roundw
          case rel => exact ⟨j + 1, _, rfl, by omega, by go_num, HBK.out⟩
          case measure => simp [intOf]; omega
        · have hji : ¬ (j : Int) < 3 := by omega
          have HBE := Lib.hid (bch HB4.out HBJ.out)
          have HOE : Hid (OpBlk wr2 wr.heap.size o) := OpBlk.below HO4.out HBJ.out
          clear HO3 HO4 HB3 HB4
          have hraw := Hraw2.out.below HBE.out
          have q_tb := table_any a0 n0 cap0 f _ hraw
          have HYE := Lib.hid (Hany2.out.below HBE.out)
          go_wp2_with fail
          ((with_reducible refine q_tb.mono ?_); rintro e W5 ⟨v_, l_, rfl, hr_, hm_, hx_, b_⟩)
          obtain ⟨AT, nT, capT, hv_, hcapT, ht_⟩ := tab_ts hr_ hm_ hx_
          subst hv_
          rw [hT] at ht_
          have hm6 := Blk.new W5 (.cells #[.slice AT nT capT, .slice a1 n1 cap1] 23)
          have hb6 : Below W5.heap.size W5 (W5.alloc (.cells #[.slice AT nT capT, .slice a1 n1 cap1] 23)) := (Below.refl _ _).alloc (Nat.le_refl _) _
          obtain ⟨W6, hW6⟩ : ∃ W, W5.alloc (.cells #[.slice AT nT capT, .slice a1 n1 cap1] 23) = W := ⟨_, rfl⟩
          rw [hW6] at hm6 hb6
          obtain ⟨g6, hg6⟩ : ∃ g, W5.heap.size = g := ⟨_, rfl⟩
          have HT6 := Lib.hid (ht_.below hb6)
          have HY6 := Lib.hid ((HYE.out.below b_).below hb6)
          have HO6 : Hid (OpBlk W6 wr.heap.size o) := OpBlk.below (OpBlk.below HOE.out b_) hb6
          have HB6 := Lib.hid (bch (bch HBE.out b_) hb6)
          have HNT : Hid (nT ≤ 20) := ts_len ht_ HTR.out
          have HCT := Lib.hid hcapT
          rw [hg6] at hm6
          have HMM : Hid (∀ m, m < 2 → ∃ A n cap t, W6.cell? ⟨g6, m, none⟩ = some (.slice A n cap) ∧ n ≤ cap ∧ IsTs W6 A n t ∧ n * 88 ≤ 140737488351232) := fun m hm => by
            rcases (by omega : m = 0 ∨ m = 1) with rfl | rfl
            · exact ⟨AT, nT, capT, T, Blk.cell hm6 0, HCT.out, HT6.out, by have := HNT.out; omega⟩
            · exact ⟨a1, n1, cap1, t1, Blk.cell hm6 1, HLE.out, HY6.out, HK88.out⟩
          have HG6 : Hid (g6 < W6.heap.size) := Blk.lt hm6
          clear hm6 hb6 b_ hr_ hm_ hx_ ht_ q_tb hraw HYE HOE hcapT
          go_wp2_with fail
          try rw [hg6]
          clear hg6 hW6
          go_loopw [52] (fun i wy => ∃ (m : Nat) (wr3 : World), wr3 = wy ∧ m ≤ 2 ∧ i = .int .i64 m ∧ Below W6.heap.size W6 wr3) (fun i _ => 2 - (intOf i).toNat)
          case atStart => exact ⟨0, _, rfl, by omega, rfl, Below.refl _ _⟩
          case round =>
            obtain ⟨m, wr3, rfl, hm2, rfl, hbm⟩ := hrel
            have HBM := Lib.hid hbm; clear hbm
            by_cases hmt : m < 2
            · have hm0 : (0 : Int) ≤ (m : Int) := by omega
              have hmi : (m : Int) < 2 := by omega
              obtain ⟨A, n, cap, t, s0, hnc, hts, h88⟩ := HMM.out m hmt
              have s1 := (HBM.out.cell (p := ⟨g6, m, none⟩) HG6.out).trans s0
              have Hts7 := Lib.hid (hts.below HBM.out); clear hts
              have HO7 : Hid (OpBlk wr3 wr.heap.size o) := OpBlk.below HO6.out HBM.out
              have HB7 : Hid (Below wr3.heap.size wr3 wr3) := Below.refl _ _
              have HNC := Lib.hid hnc; clear hnc
              have H88 := Lib.hid h88; clear h88
              obtain ⟨U, R, hdo⟩ : ∃ U R, doT t o = (U, R) := ⟨_, _, rfl⟩
              have hu88 := do_size (t := t) (o := o) (by have := Hts7.out.1; have := H88.out; omega)
              rw [hdo] at hu88
              have HDO := Lib.hid hdo; clear hdo
              have HU88 : Hid (U.length * 88 ≤ 140737488351232) := hu88; clear hu88
              clear s0
              go_upto_region 14 with fail
              clear s1
              obtain ⟨p0, p1, p2, p3, p4, p5, p6⟩ := HO7.out.cells
              try simp only at p0 p1 p2 p3 p4 p5 p6
              have q_do := do_call88 kD HDO.out HWO.out HNC.out Hts7.out H88.out
              go_wp2_with fail
              ((with_reducible refine q_do.mono ?_); rintro e W8 ⟨M1, m1, mcap1, K1, k1, kc1, rfl, hcap1, ht_, hkc1, hs_, b_⟩)
              clear p0 p1 p2 p3 p4 p5 p6
              go_upto_region 15 with fail
              have h_b := (bch HB7.out b_).alloc (bch HB7.out b_).size (.cells #[.int .i64 R.errno, .int .i64 R.rev, .string R.value, .slice K1 k1 kc1] 37)
              have h_ts := (Hts7.out.below b_).below ((Below.refl _ _).alloc (Nat.le_refl _) (.cells #[.int .i64 R.errno, .int .i64 R.rev, .string R.value, .slice K1 k1 kc1] 37))
              have h_O := (HO7.out.below b_).below ((Below.refl _ _).alloc (Nat.le_refl _) (.cells #[.int .i64 R.errno, .int .i64 R.rev, .string R.value, .slice K1 k1 kc1] 37))
              have h_T1 := IsTs.below ht_ ((Below.refl _ _).alloc (Nat.le_refl _) (.cells #[.int .i64 R.errno, .int .i64 R.rev, .string R.value, .slice K1 k1 kc1] 37))
              have h_S1 := IsSs.below hs_ ((Below.refl _ _).alloc (Nat.le_refl _) (.cells #[.int .i64 R.errno, .int .i64 R.rev, .string R.value, .slice K1 k1 kc1] 37))
              have h_P1 := Blk.new W8 (.cells #[.int .i64 R.errno, .int .i64 R.rev, .string R.value, .slice K1 k1 kc1] 37)
              obtain ⟨V_W8, hV_⟩ : ∃ W, W8.alloc (.cells #[.int .i64 R.errno, .int .i64 R.rev, .string R.value, .slice K1 k1 kc1] 37) = W := ⟨_, rfl⟩
              rw [hV_] at h_b h_ts h_O h_T1 h_S1 h_P1 ⊢
              clear hV_
              have HB21 := Lib.hid h_b; clear h_b
              have Hts21 := Lib.hid h_ts; clear h_ts
              have HO21 := Lib.hid h_O; clear h_O
              have HT121 := Lib.hid h_T1; clear h_T1
              have HS121 := Lib.hid h_S1; clear h_S1
              have HP121 := Lib.hid h_P1; clear h_P1
              clear b_ ht_ hs_ q_do
              obtain ⟨p0, p1, p2, p3, p4, p5, p6⟩ := HO21.out.cells
              try simp only at p0 p1 p2 p3 p4 p5 p6
              have q_do := refdo_ans (cap := cap) HDO.out HWO.out Hts21.out H88.out
              go_wp2_with fail
              ((with_reducible refine q_do.mono ?_); rintro e W9 ⟨M2, m2, mcap2, K2, k2, kc2, rfl, hcap2, ht_, hkc2, hs_, b_⟩)
              clear p0 p1 p2 p3 p4 p5 p6
              go_upto_region 16 with fail
              have h_b := (bch HB21.out b_).alloc (bch HB21.out b_).size (.cells #[.int .i64 R.errno, .int .i64 R.rev, .string R.value, .slice K2 k2 kc2] 37)
              have h_ts := (Hts21.out.below b_).below ((Below.refl _ _).alloc (Nat.le_refl _) (.cells #[.int .i64 R.errno, .int .i64 R.rev, .string R.value, .slice K2 k2 kc2] 37))
              have h_O := (HO21.out.below b_).below ((Below.refl _ _).alloc (Nat.le_refl _) (.cells #[.int .i64 R.errno, .int .i64 R.rev, .string R.value, .slice K2 k2 kc2] 37))
              have h_T1 := (HT121.out.below b_).below ((Below.refl _ _).alloc (Nat.le_refl _) (.cells #[.int .i64 R.errno, .int .i64 R.rev, .string R.value, .slice K2 k2 kc2] 37))
              have h_S1 := (HS121.out.below b_).below ((Below.refl _ _).alloc (Nat.le_refl _) (.cells #[.int .i64 R.errno, .int .i64 R.rev, .string R.value, .slice K2 k2 kc2] 37))
              have h_P1 := (HP121.out.below b_).below ((Below.refl _ _).alloc (Nat.le_refl _) (.cells #[.int .i64 R.errno, .int .i64 R.rev, .string R.value, .slice K2 k2 kc2] 37))
              have h_T2 := IsTs.below ht_ ((Below.refl _ _).alloc (Nat.le_refl _) (.cells #[.int .i64 R.errno, .int .i64 R.rev, .string R.value, .slice K2 k2 kc2] 37))
              have h_S2 := IsSs.below hs_ ((Below.refl _ _).alloc (Nat.le_refl _) (.cells #[.int .i64 R.errno, .int .i64 R.rev, .string R.value, .slice K2 k2 kc2] 37))
              have h_P2 := Blk.new W9 (.cells #[.int .i64 R.errno, .int .i64 R.rev, .string R.value, .slice K2 k2 kc2] 37)
              obtain ⟨V_W9, hV_⟩ : ∃ W, W9.alloc (.cells #[.int .i64 R.errno, .int .i64 R.rev, .string R.value, .slice K2 k2 kc2] 37) = W := ⟨_, rfl⟩
              rw [hV_] at h_b h_ts h_O h_T1 h_S1 h_P1 h_T2 h_S2 h_P2 ⊢
              clear hV_
              have HB22 := Lib.hid h_b; clear h_b
              have Hts22 := Lib.hid h_ts; clear h_ts
              have HO22 := Lib.hid h_O; clear h_O
              have HT122 := Lib.hid h_T1; clear h_T1
              have HS122 := Lib.hid h_S1; clear h_S1
              have HP122 := Lib.hid h_P1; clear h_P1
              have HT222 := Lib.hid h_T2; clear h_T2
              have HS222 := Lib.hid h_S2; clear h_S2
              have HP222 := Lib.hid h_P2; clear h_P2
              clear b_ ht_ hs_ q_do
              have q_ := refsame12_any U U M1 M2 m1 m2 mcap1 mcap2 _ HT122.out HT222.out
              rw [sameT_self] at q_
              go_wp2_with fail
              ((with_reducible refine q_.mono ?_); rintro e W10 ⟨rfl, b_⟩)
              clear q_
              have h_b := bch HB22.out b_
              have h_ts := Hts22.out.below b_
              have h_O := HO22.out.below b_
              have h_T1 := HT122.out.below b_
              have h_S1 := HS122.out.below b_
              have h_P1 := HP122.out.below b_
              have h_T2 := HT222.out.below b_
              have h_S2 := HS222.out.below b_
              have h_P2 := HP222.out.below b_
              have HB23 := Lib.hid h_b; clear h_b
              have Hts23 := Lib.hid h_ts; clear h_ts
              have HO23 := Lib.hid h_O; clear h_O
              have HT123 := Lib.hid h_T1; clear h_T1
              have HS123 := Lib.hid h_S1; clear h_S1
              have HP123 := Lib.hid h_P1; clear h_P1
              have HT223 := Lib.hid h_T2; clear h_T2
              have HS223 := Lib.hid h_S2; clear h_S2
              have HP223 := Lib.hid h_P2; clear h_P2
              clear b_
              have r0 := Blk.cell HP123.out 0
              have r1 := Blk.cell HP123.out 1
              have r2 := Blk.cell HP123.out 2
              have r3 := Blk.cell HP123.out 3
              simp only [List.getElem?_toArray, List.getElem?_cons_zero, List.getElem?_cons_succ] at r0 r1 r2 r3
              have s0 := Blk.cell HP223.out 0
              have s1 := Blk.cell HP223.out 1
              have s2 := Blk.cell HP223.out 2
              have s3 := Blk.cell HP223.out 3
              simp only [List.getElem?_toArray, List.getElem?_cons_zero, List.getElem?_cons_succ] at s0 s1 s2 s3
              have q_ := refsamerep_any R R K1 K2 k1 kc1 k2 kc2 _ HS123.out HS223.out
              rw [sameRp_self] at q_
              unfold rpV at q_
              go_wp2_with fail
              ((with_reducible refine q_.mono ?_); rintro e W11 ⟨rfl, b_⟩)
              clear q_
              clear r0 r1 r2 r3 s0 s1 s2 s3
              have h_b := bch HB23.out b_
              have h_ts := Hts23.out.below b_
              have h_O := HO23.out.below b_
              have h_T1 := HT123.out.below b_
              have h_S1 := HS123.out.below b_
              have h_P1 := HP123.out.below b_
              have h_T2 := HT223.out.below b_
              have h_S2 := HS223.out.below b_
              have h_P2 := HP223.out.below b_
              have HB24 := Lib.hid h_b; clear h_b
              have Hts24 := Lib.hid h_ts; clear h_ts
              have HO24 := Lib.hid h_O; clear h_O
              have HT124 := Lib.hid h_T1; clear h_T1
              have HS124 := Lib.hid h_S1; clear h_S1
              have HP124 := Lib.hid h_P1; clear h_P1
              have HT224 := Lib.hid h_T2; clear h_T2
              have HS224 := Lib.hid h_S2; clear h_S2
              have HP224 := Lib.hid h_P2; clear h_P2
              clear b_
              obtain ⟨br, hbr⟩ : ∃ b, rightT t = b := ⟨_, rfl⟩
              obtain ⟨bs, hbs⟩ : ∃ b, sameT U t = b := ⟨_, rfl⟩
              have hbr2 : (br != br) = false := by simp
              have hbs2 : (bs != bs) = false := by simp
              have HBR := Lib.hid hbr; clear hbr
              have HBS := Lib.hid hbs; clear hbs
              have q_ := kR t A n cap _ HNC.out Hts24.out H88.out
              rw [HBR.out] at q_
              go_wp2_with fail
              ((with_reducible refine q_.mono ?_); rintro e W12 ⟨rfl, b_⟩)
              clear q_
              have h_b := bch HB24.out b_
              have h_ts := Hts24.out.below b_
              have h_O := HO24.out.below b_
              have h_T1 := HT124.out.below b_
              have h_S1 := HS124.out.below b_
              have h_P1 := HP124.out.below b_
              have h_T2 := HT224.out.below b_
              have h_S2 := HS224.out.below b_
              have h_P2 := HP224.out.below b_
              have HB25 := Lib.hid h_b; clear h_b
              have Hts25 := Lib.hid h_ts; clear h_ts
              have HO25 := Lib.hid h_O; clear h_O
              have HT125 := Lib.hid h_T1; clear h_T1
              have HS125 := Lib.hid h_S1; clear h_S1
              have HP125 := Lib.hid h_P1; clear h_P1
              have HT225 := Lib.hid h_T2; clear h_T2
              have HS225 := Lib.hid h_S2; clear h_S2
              have HP225 := Lib.hid h_P2; clear h_P2
              clear b_
              have q_ := refright12_any t A n cap _ Hts25.out
              rw [HBR.out] at q_
              go_wp2_with fail
              ((with_reducible refine q_.mono ?_); rintro e W13 ⟨rfl, b_⟩)
              clear q_
              have h_b := bch HB25.out b_
              have h_ts := Hts25.out.below b_
              have h_O := HO25.out.below b_
              have h_T1 := HT125.out.below b_
              have h_S1 := HS125.out.below b_
              have h_P1 := HP125.out.below b_
              have h_T2 := HT225.out.below b_
              have h_S2 := HS225.out.below b_
              have h_P2 := HP225.out.below b_
              have HB26 := Lib.hid h_b; clear h_b
              have Hts26 := Lib.hid h_ts; clear h_ts
              have HO26 := Lib.hid h_O; clear h_O
              have HT126 := Lib.hid h_T1; clear h_T1
              have HS126 := Lib.hid h_S1; clear h_S1
              have HP126 := Lib.hid h_P1; clear h_P1
              have HT226 := Lib.hid h_T2; clear h_T2
              have HS226 := Lib.hid h_S2; clear h_S2
              have HP226 := Lib.hid h_P2; clear h_P2
              clear b_
              have q_ := kS U t M1 A m1 n mcap1 cap _ hcap1 HNC.out HT126.out Hts26.out (by have := HT126.out.1; have := HU88.out; omega) H88.out
              rw [HBS.out] at q_
              go_wp2_with fail
              ((with_reducible refine q_.mono ?_); rintro e W14 ⟨rfl, b_⟩)
              clear q_
              have h_b := bch HB26.out b_
              have h_ts := Hts26.out.below b_
              have h_O := HO26.out.below b_
              have h_T1 := HT126.out.below b_
              have h_S1 := HS126.out.below b_
              have h_P1 := HP126.out.below b_
              have h_T2 := HT226.out.below b_
              have h_S2 := HS226.out.below b_
              have h_P2 := HP226.out.below b_
              have HB27 := Lib.hid h_b; clear h_b
              have Hts27 := Lib.hid h_ts; clear h_ts
              have HO27 := Lib.hid h_O; clear h_O
              have HT127 := Lib.hid h_T1; clear h_T1
              have HS127 := Lib.hid h_S1; clear h_S1
              have HP127 := Lib.hid h_P1; clear h_P1
              have HT227 := Lib.hid h_T2; clear h_T2
              have HS227 := Lib.hid h_S2; clear h_S2
              have HP227 := Lib.hid h_P2; clear h_P2
              clear b_
              have q_ := refsame12_any U t M2 A m2 n mcap2 cap _ HT227.out Hts27.out
              rw [HBS.out] at q_
              go_wp2_with fail
              ((with_reducible refine q_.mono ?_); rintro e W15 ⟨rfl, b_⟩)
              clear q_
              have h_b := bch HB27.out b_
              have h_ts := Hts27.out.below b_
              have h_O := HO27.out.below b_
              have h_T1 := HT127.out.below b_
              have h_S1 := HS127.out.below b_
              have h_P1 := HP127.out.below b_
              have h_T2 := HT227.out.below b_
              have h_S2 := HS227.out.below b_
              have h_P2 := HP227.out.below b_
              have HB28 := Lib.hid h_b; clear h_b
              have Hts28 := Lib.hid h_ts; clear h_ts
              have HO28 := Lib.hid h_O; clear h_O
              have HT128 := Lib.hid h_T1; clear h_T1
              have HS128 := Lib.hid h_S1; clear h_S1
              have HP128 := Lib.hid h_P1; clear h_P1
              have HT228 := Lib.hid h_T2; clear h_T2
              have HS228 := Lib.hid h_S2; clear h_S2
              have HP228 := Lib.hid h_P2; clear h_P2
              clear b_
              go_wp2_with fail
              go_roundw
              case rel => exact ⟨m + 1, _, rfl, by omega, by go_num, bch HBM.out HB28.out⟩
              case measure => simp [intOf]; omega
            · have hmi : ¬ (m : Int) < 2 := by omega
              have HB16 := Lib.hid (bch HB6.out HBM.out)
              have HO16 : Hid (OpBlk wr3 wr.heap.size o) := OpBlk.below HO6.out HBM.out
              have qc := fun W => kW o HWO.out W
              have qd := fun W => refwrites_any o W
              unfold opV at qc qd
              obtain ⟨c, hc⟩ : ∃ c, writesO o = c := ⟨_, rfl⟩
              rw [hc] at qc qd
              clear hc
              have hcc : (c != c) = false := by simp
              go_upto_region 19 with fail
              refine wp_region_noPanic ?_
              refine wp_region_held_drew (S := (fun W => Below wr3.heap.size wr3 W)) (by kernel_rfl) ((Below.refl _ _).drew) (fun hHeld => ?_)
              refine wpAnyH_take (i := 0) (v := ?_) rfl (by kernel_rfl) (by kernel_rfl) (by kernel_rfl) (fun _ _ _ h => h) (Or.inl ⟨by rfl, ?_⟩) (by assumption) ?_
              rotate_left
              · (intro w hSw; (try dsimp only at hSw); obtain ⟨p0, p1, p2, p3, p4, p5, p6⟩ := (OpBlk.below HO16.out hSw).cells; go_simp; (try with_reducible rfl))
              simp only [Act.put, List.getElem_toArray, List.getElem_cons_zero, List.setIfInBounds_toArray, List.set_cons_zero, List.set_cons_succ]
              refine wpAnyH_take (i := 2) (v := ?_) rfl (by kernel_rfl) (by kernel_rfl) (by kernel_rfl) (fun _ _ _ h => h) (Or.inl ⟨by rfl, ?_⟩) (by assumption) ?_
              rotate_left
              · (intro w hSw; (try dsimp only at hSw); obtain ⟨p0, p1, p2, p3, p4, p5, p6⟩ := (OpBlk.below HO16.out hSw).cells; go_simp; (try with_reducible rfl))
              simp only [Act.put, List.getElem_toArray, List.getElem_cons_zero, List.getElem_cons_succ, List.setIfInBounds_toArray, List.set_cons_zero, List.set_cons_succ]
              refine wpAnyH_ready (rs := [1]) (by kernel_rfl) (by simp) ?_
              refine AllReadyH.cons rfl (fun K hK => ?_) AllReadyH.nil
              rw [if_pos (by rfl)]
              go_simp
              ((with_reducible refine (qc _).mono ?_); rintro e V17 ⟨rfl, bq⟩)
              refine hK.out _ _ (bch hHeld bq) (fun hHeld2 => ?_)
              clear hK K hHeld
              have hHeld := hHeld2; clear hHeld2
              refine wpAnyH_ready (rs := [3]) (by kernel_rfl) (by simp) ?_
              refine AllReadyH.cons rfl (fun K hK => ?_) AllReadyH.nil
              rw [if_pos (by rfl)]
              go_simp
              ((with_reducible refine (qd _).mono ?_); rintro e V18 ⟨rfl, bq⟩)
              refine hK.out _ _ (bch hHeld bq) (fun hHeld2 => ?_)
              clear hK K hHeld
              have hHeld := hHeld2; clear hHeld2
              refine wpAnyH_take (i := 4) (v := ?_) rfl (by kernel_rfl) (by kernel_rfl) (by kernel_rfl) (fun _ _ _ h => h) (Or.inl ⟨by rfl, ?_⟩) (by assumption) ?_
              rotate_left
              · (intro w hSw; (try dsimp only at hSw); go_simp; (try with_reducible rfl))
              simp only [Act.put, List.getElem_toArray, List.getElem_cons_zero, List.getElem_cons_succ, List.setIfInBounds_toArray, List.set_cons_zero, List.set_cons_succ]
              refine wpAnyH_done (by kernel_rfl) ?_ _
              refine NoPanic.normal ?_
              have hh := hHeld
              clear hHeld
              have HB17 := Lib.hid (bch HB16.out hh); clear hh
              clear qc qd
              go_wp2_with fail
              go_roundw
              case rel => exact ⟨k + 1, _, rfl, by omega, by go_num, HB17.out⟩
              case measure => simp [intOf]; omega
    · have hki : ¬ (k : Int) < 2 := by omega
      go_wp2_with fail
      go_ret
      exact ⟨rfl, bch HB2.out HB.out⟩
end Go.Proofs.Ytpnkkiokkhmjpaa
