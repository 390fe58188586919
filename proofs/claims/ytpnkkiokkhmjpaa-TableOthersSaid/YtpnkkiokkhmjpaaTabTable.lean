import Derived.Test.YtpnkkiokkhmjpaaTabTabMath
import Derived.Test.YtpnkkiokkhmjpaaTabDo
/-
  The contract of the law package's own Table (stage 12).
-/
namespace Go.Proofs.Ytpnkkiokkhmjpaa
open Go.RowKit
set_option linter.unusedVariables false
set_option linter.unusedSimpArgs false

theorem set_atR (t : List Rcd) (j : Nat) : t.set j (atR t j) = t := by
  by_cases h : j < t.length
  · rw [atR_get h, List.set_getElem_self]
  · rw [List.set_eq_of_length_le (by omega)]
/-- What Table leaves. -/
def TabPost (w : World) (t : List Rcd) (e : Ending) (w' : World) : Prop :=
  ∃ v l, e = .returned v ∧ RowT w' w.heap.size v l ∧ l.map Prod.fst = t ∧ ExT w' l ∧ Below w.heap.size w w'
/-- Six fields of one block, stored into a record of a row: what it carries turned. -/
theorem exT_turn {W : World} {l : List (Rcd × Value)} {i : Nat} {q : Rcd × Value} (h : ExT W l) (hr : RcW q.1) (hx : ExAt W q) : ExT W (l.set i q) := fun p hp => by
  rcases List.mem_or_eq_of_mem_set hp with h1 | rfl
  · exact h p h1
  · exact ⟨hr, hx⟩
theorem fs_one_new (w : World) (t : Int) (d : ByteArray) (hw : FsWf [(t, d)]) : IsFs (w.alloc (.cells #[.int .i64 t, .string d] 57)) (some ⟨w.heap.size, 0, none⟩) 1 [(t, d)] := by
  have hx := World.alloc_heap_new w (.cells #[.int .i64 t, .string d] 57)
  refine ⟨rfl, by unfold maxLen; omega, hw, fun _ => ⟨w.heap.size, 0, rfl, by simp, fun i hi => ?_⟩⟩
  have : i = 0 := by simpa using hi
  subst this
  exact ⟨cell_blk hx 0, cell_blk hx 1⟩
set_option maxRecDepth 100000 in
set_option maxHeartbeats 8000000 in
theorem table_any (A : Option Addr) (n cap : Nat) (f : Nat → Nat → Int) (w : World) (h : IsRaw w A n 5 f) :
    Calls Try.prog 15 #[.slice A n cap] w (TabPost w (tableR f n)) := by
  have hn9 := h.1
  have HC := Lib.hid h.2; clear h
  obtain ⟨R, hR⟩ : ∃ R, tableR f n = R := ⟨_, rfl⟩
  rw [hR]
  unfold tableR at hR
  have HR := Lib.hid hR; clear hR
  go_enter Try.func15, Try.ntmps15
  go_wp2_with fail
  go_loopw [3, 4] (fun v i wy => ∃ (k : Nat) (wr : World) (l : List (Rcd × Value)), wr = wy ∧ k ≤ n ∧ k ≤ 40 ∧ i = .int .i64 k ∧ RowT wr w.heap.size v l ∧ l.map Prod.fst = tabD f k ∧ ExT wr l ∧ Below w.heap.size w wr) (fun _ i _ => n - (intOf i).toNat)
  case atStart => exact ⟨0, _, [], rfl, by omega, by omega, rfl, rowT_nil _ _, rfl, ExT.nil _, Below.refl _ _⟩
  case round =>
    obtain ⟨k, wr, l, rfl, hk, hk40, rfl, hrow, hl, hex, hb⟩ := hrel
    obtain ⟨Av, cv, hv, hcv, hts⟩ := hrow.isTs hex
    have HROW := Lib.hid hrow; clear hrow
    have HEX := Lib.hid hex; clear hex
    have HL := Lib.hid hl
    rw [hl] at hts
    have HTS := Lib.hid hts; clear hts hl
    have HLN : Hid (l.length = (tabD f k).length) := by have := congrArg List.length HL.out; rw [List.length_map] at this; exact this
    have hl20 : l.length ≤ 20 := by rw [HLN.out]; exact (tabD_right f k).2.2
    have HB := Lib.hid hb; clear hb
    subst hv
    generalize l.length = m at *
    by_cases hcnd : k < n ∧ k < 40
    · obtain ⟨hlt, h40⟩ := hcnd
      obtain ⟨b, off, hA, hbb, hc⟩ := HC.out (by omega)
      subst hA
      have z0 := hc k 0 hlt (by omega)
      rw [Nat.add_zero] at z0
      have z1 := hc k 1 hlt (by omega)
      have z2 := hc k 2 hlt (by omega)
      have z3 := hc k 3 hlt (by omega)
      have z4 := hc k 4 hlt (by omega)
      have ha : ∀ j, j < 5 → (Lit.int .i64 (f k j)).wf = true := fun j hj => (hc k j hlt hj).2
      have x0 := (HB.out.cell (p := ⟨b, off + k * 5, none⟩) hbb).trans z0.1
      have x1 := (HB.out.cell (p := ⟨b, off + k * 5 + 1, none⟩) hbb).trans z1.1
      have x2 := (HB.out.cell (p := ⟨b, off + k * 5 + 2, none⟩) hbb).trans z2.1
      have x3 := (HB.out.cell (p := ⟨b, off + k * 5 + 3, none⟩) hbb).trans z3.1
      have x4 := (HB.out.cell (p := ⟨b, off + k * 5 + 4, none⟩) hbb).trans z4.1
      have qo := op_any (f k) ha wr
      have HS : Hid (tabD f (k + 1) = (doT (tabD f k) (opR (f k))).1) := rfl
      have hki : (k : Int) < (n : Int) := by omega
      have hk4 : (k : Int) < 40 := by omega
      have hk0 : (0 : Int) ≤ (k : Int) := by omega
      unfold fiveV at qo
      clear hc z0 z1 z2 z3 z4 ha
      go_wp2_with fail
      ((with_reducible refine qo.mono ?_); rintro e W1 ⟨rfl, b1⟩)
      have qd := refdo_any (tabD f k) (opR (f k)) Av m cv W1 (HTS.out.below b1) (by omega) (opR_wf _)
      have HB1 := Lib.hid (bch HB.out b1)
      clear qo b1 x0 x1 x2 x3 x4
      unfold DoOwn at qd
      go_wp2_with fail
      ((with_reducible refine qd.mono ?_); rintro e W2 ⟨v2, l2, K2, rfl, hr2, hm2, hx2, _, b2⟩)
      have HR2 := Lib.hid (hr2.base (b := w.heap.size) HB1.out.size)
      have HX2 := Lib.hid hx2
      have HM2 := Lib.hid hm2
      have HB2 := Lib.hid (bch HB1.out b2)
      clear qd hr2 hx2 hm2 b2
      go_wp2_with fail
      go_roundw
      case rel => exact ⟨k + 1, _, l2, rfl, by omega, by omega, by go_num, HR2.out, by rw [HM2.out, HS.out], HX2.out, HB2.out⟩
      case measure => simp [intOf]; omega
    · have HKE : Hid (k = min n 40) := by show _ = _; omega
      have HR1 : Hid (twK n (tabD f k) m = R) := by show _ = _; rw [HLN.out, HKE.out]; exact HR.out
      have hcnd2 : (n : Int) ≤ (k : Int) ∨ ((k : Int) < (n : Int) ∧ (40 : Int) ≤ (k : Int)) := by omega
      have HLT : Hid ((tabD f k).length = m) := HLN.out.symm
      have hm20 : m ≤ 20 := hl20
      obtain ⟨t, ht⟩ : ∃ t, tabD f k = t := ⟨_, rfl⟩
      rw [ht] at HL HR1 HLT
      clear hcnd HLN HTS hl20 ht HR
      rcases hcnd2 with h1 | ⟨h1, h2⟩
      · have hk9 : ¬ ((k : Int) < (n : Int)) := by omega
        go_wp2_with fail
        go_loopw [5] (fun i wy => ∃ (j : Nat) (w2 : World) (l2 : List (Rcd × Value)), w2 = wy ∧ j ≤ m ∧ i = .int .i64 j ∧ RowT w2 w.heap.size (.slice Av m cv) l2 ∧ l2.map Prod.fst = twK n t j ∧ ExT w2 l2 ∧ Below w.heap.size w w2) (fun i _ => m - (intOf i).toNat)
        case atStart => exact ⟨0, _, l, rfl, by omega, rfl, HROW.out, HL.out, HEX.out, HB.out⟩
        case round =>
          clear HROW HEX HB HL hk9 h1
          obtain ⟨j, w2, l2, rfl, hj, rfl, hrow, hl, hex, hb⟩ := hrel
          have HROW := Lib.hid hrow; clear hrow
          have HEX := Lib.hid hex; clear hex
          have HL := Lib.hid hl
          have HLN : Hid (l2.length = m) := by have := congrArg List.length hl; rw [List.length_map, twK_len] at this; show _ = _; rw [this]; exact HLT.out
          have HB := Lib.hid hb; clear hb hl
          by_cases hlt : j < m
          · have hjl : j < l2.length := by have := HLN.out; omega
            have HJL := Lib.hid hjl; clear hjl
            obtain ⟨g, hA, hbg⟩ := HROW.out.at0 HJL.out
            subst hA
            have hji : (j : Int) < (m : Int) := by omega
            have hj0 : (0 : Int) ≤ (j : Int) := by omega
            have HPR : Hid ((atP l2 j).1 = atR (twK n t j) j) := by show _ = _; rw [atP_map l2 HJL.out, HL.out]
            by_cases c3 : j % 3 = 1
            · have e3 : (((j : Int) % 3) == 1) = true := by simp; omega
              have HTW : Hid (tw1 j (atR (twK n t j) j) = { (atP l2 j).1 with extra := [(9 + (j : Int), ⟨#[99, 97, 114, 114, 105, 101, 100]⟩)] }) := by show _ = _; rw [tw1, if_pos c3, HPR.out]; rfl
              clear c3
              have hx0 := HROW.out.six HJL.out
              have hbf : Below w2.heap.size w2 (w2.alloc (.cells #[.int .i64 (9 + (j : Int)), .string ⟨#[99, 97, 114, 114, 105, 101, 100]⟩] 57)) := (Below.refl _ _).alloc (Nat.le_refl _) _
              have hfs := fs_one_new w2 (9 + (j : Int)) ⟨#[99, 97, 114, 114, 105, 101, 100]⟩ (carried_wf j (by omega))
              have hbl := Blk.new w2 (.cells #[.int .i64 (9 + (j : Int)), .string ⟨#[99, 97, 114, 114, 105, 101, 100]⟩] 57)
              have hs9 : IntKind.i64.wrap (9 + (j : Int)) = 9 + (j : Int) := IntWalk.i64_in _ (by omega)
              obtain ⟨V, hV⟩ : ∃ V, w2.alloc (.cells #[.int .i64 (9 + (j : Int)), .string ⟨#[99, 97, 114, 114, 105, 101, 100]⟩] 57) = V := ⟨_, rfl⟩
              rw [hV] at hbf hfs hbl
              have hrv := HROW.out.below hbf
              have hxv := HEX.out.below hbf
              have hbv := bch HB.out hbf
              have hgh : g ≠ w2.heap.size := fun e => by have := (HROW.out.lt g (by simp [Value.ownBlock])).2; omega
              have hs1 := (RowT.set hrv j 5 (.slice (some ⟨w2.heap.size, 0, none⟩) 1 1) ({ (atP l2 j).1 with extra := [(9 + (j : Int), ⟨#[99, 97, 114, 114, 105, 101, 100]⟩)] }, .slice (some ⟨w2.heap.size, 0, none⟩) 1 1) HJL.out (by omega) rfl).1
              have hk1 := hxv.kept (gb_set V g (j * 6 + 5) (.slice (some ⟨w2.heap.size, 0, none⟩) 1 1)) (fun q e => by cases e; exact hrv.block g (by simp [Value.ownBlock]))
              have hxn : ExAt V ({ (atP l2 j).1 with extra := [(9 + (j : Int), ⟨#[99, 97, 114, 114, 105, 101, 100]⟩)] }, .slice (some ⟨w2.heap.size, 0, none⟩) 1 1) := ⟨_, 1, 1, rfl, Nat.le_refl _, hfs, fun _ => ⟨_, _, _, _, rfl, hbl⟩⟩
              have hxn2 := hxn.kept (gb_set V g (j * 6 + 5) (.slice (some ⟨w2.heap.size, 0, none⟩) 1 1)) (fun q e => by cases e; exact hrv.block g (by simp [Value.ownBlock]))
              have hrw : RcW { (atP l2 j).1 with extra := [(9 + (j : Int), ⟨#[99, 97, 114, 114, 105, 101, 100]⟩)] } := by have h := (HEX.out _ (atP_mem HJL.out)).1; exact ⟨h.1, h.2.1, h.2.2.1, by show 1 * 24 ≤ _; omega⟩
              have hk2 := exT_turn (i := j) hk1 hrw hxn2
              have hb1 := hbv.setCell (p := ⟨g, j * 6 + 5, none⟩) hbg (.slice (some ⟨w2.heap.size, 0, none⟩) 1 1)
              have HM1 : Hid ((l2.set j ({ (atP l2 j).1 with extra := [(9 + (j : Int), ⟨#[99, 97, 114, 114, 105, 101, 100]⟩)] }, .slice (some ⟨w2.heap.size, 0, none⟩) 1 1)).map Prod.fst = (twK n t j).set j (tw1 j (atR (twK n t j) j))) := by show _ = _; rw [map_setP, HL.out, HTW.out]
              obtain ⟨l3, hl3⟩ : ∃ l3, l2.set j ({ (atP l2 j).1 with extra := [(9 + (j : Int), ⟨#[99, 97, 114, 114, 105, 101, 100]⟩)] }, .slice (some ⟨w2.heap.size, 0, none⟩) 1 1) = l3 := ⟨_, rfl⟩
              have HLJ3 : Hid (j < l3.length) := by show _ < _; rw [← hl3, List.length_set]; exact HJL.out
              have HP3 : Hid ((atP l3 j).1 = { (atP l2 j).1 with extra := [(9 + (j : Int), ⟨#[99, 97, 114, 114, 105, 101, 100]⟩)] }) := by show _ = _; rw [← hl3, atP_set HJL.out]
              rw [hl3] at hs1 hk2 HM1
              have u5 := (hrv.six HJL.out).2.2.2.2.2
              have fz5 : V.frozen? ⟨g, j * 6 + 5, none⟩ = false := hrv.frozen
              have HRV := Lib.hid hs1; clear hs1
              have HXV := Lib.hid hk2; clear hk2
              have HBV := Lib.hid hb1; clear hb1
              have HTW2 : Hid (tw1 j (atR (twK n t j) j) = (atP l3 j).1) := by show _ = _; rw [HTW.out, HP3.out]
              clear hl3 hx0 hbf hfs hbl hrv hxv hbv hk1 hxn hxn2 hrw
              go_upto_region 11 with fail
              obtain ⟨W, hW⟩ : ∃ W, V.setCell ⟨g, j * 6 + 5, none⟩ (.slice (some ⟨w2.heap.size, 0, none⟩) 1 1) = W := ⟨_, rfl⟩
              rw [hW] at HRV HXV HBV ⊢
              clear hW hV u5 fz5 HTW
              have HTW := HTW2
              by_cases c5 : j % 5 = 4 ∧ 7 < n
              · have e5 : (((j : Int) % 5) == 4) = true := by simp; omega
                have e7 : (7 : Int) < (n : Int) := by omega
                have e7d : decide ((7 : Int) < (n : Int)) = true := decide_eq_true e7
                have hx2 := (RowT.six HRV.out HLJ3.out)
                have hs2 := (RowT.set HRV.out j 2 (.int .i64 9007199254740992) ({ (atP l3 j).1 with rev := maxN }, (atP l3 j).2) HLJ3.out (by omega) rfl).1
                have hX2 := exT_set (HXV.out.kept (gb_set W g (j * 6 + 2) (.int .i64 9007199254740992)) (fun q e => by cases e; exact RowT.block HRV.out g (by simp [Value.ownBlock]))) HLJ3.out (r := { (atP l3 j).1 with rev := maxN }) (by have h := (HXV.out _ (atP_mem HLJ3.out)).1; exact ⟨h.1, by show (Lit.int .i64 9007199254740992).wf = true; decide, h.2.2⟩) rfl
                have hb2 := HBV.out.setCell (p := ⟨g, j * 6 + 2, none⟩) hbg (.int .i64 9007199254740992)
                have HM2 : Hid ((l3.set j ({ (atP l3 j).1 with rev := maxN }, (atP l3 j).2)).map Prod.fst = twK n t (j + 1)) := by
                  show _ = _
                  rw [map_setP, twK, HM1.out]
                  show _ = (twK n t j).set j (tw2 n j (tw1 j (atR (twK n t j) j)))
                  rw [tw2, if_pos c5]
                  simp [HTW.out]
                obtain ⟨_, _, u2, _, _, _⟩ := hx2
                have fz : W.frozen? ⟨g, j * 6 + 2, none⟩ = false := RowT.frozen HRV.out
                have HR2 := Lib.hid hs2; clear hs2
                have HX2 := Lib.hid hX2; clear hX2
                have HB2 := Lib.hid hb2; clear hb2
                clear c5
                go_wp2_with fail
                go_roundw
                case rel => exact ⟨j + 1, _, _, rfl, by omega, by go_num, HR2.out, HM2.out, HX2.out, HB2.out⟩
                case measure => simp [intOf]; omega
              · have HM2 : Hid (l3.map Prod.fst = twK n t (j + 1)) := by
                  show _ = _
                  rw [twK, HM1.out]
                  show _ = (twK n t j).set j (tw2 n j (tw1 j (atR (twK n t j) j)))
                  rw [tw2, if_neg c5]
                have HR2 := Lib.hid (HRV.out)
                have HX2 := Lib.hid (HXV.out)
                have HB2 := Lib.hid (HBV.out)
                have e57 : (((j : Int) % 5) == 4) = false ∨ (((j : Int) % 5) == 4) = true ∧ ¬ ((7 : Int) < (n : Int)) := by
                  by_cases c4 : j % 5 = 4
                  · right; exact ⟨by simp; omega, by omega⟩
                  · left; simp; omega
                have E57 := Lib.hid e57; clear e57 c5
                rcases E57.out with e5 | ⟨e5, e7⟩
                all_goals
                  go_wp2_with fail
                  go_roundw
                  case rel => exact ⟨j + 1, _, _, rfl, by omega, by go_num, HR2.out, HM2.out, HX2.out, HB2.out⟩
                  case measure => simp [intOf]; omega
            · have e3 : (((j : Int) % 3) == 1) = false := by simp; omega
              have HTW : Hid (tw1 j (atR (twK n t j) j) = (atP l2 j).1) := by show _ = _; rw [tw1, if_neg c3, HPR.out]
              have HM0 : Hid (l2.map Prod.fst = (twK n t j).set j (tw1 j (atR (twK n t j) j))) := by
                show _ = _
                rw [HTW.out, HPR.out, HL.out, set_atR]
              clear c3
              by_cases c5 : j % 5 = 4 ∧ 7 < n
              · have e5 : (((j : Int) % 5) == 4) = true := by simp; omega
                have e7 : (7 : Int) < (n : Int) := by omega
                have e7d : decide ((7 : Int) < (n : Int)) = true := decide_eq_true e7
                have hx2 := (RowT.six HROW.out HJL.out)
                have hs2 := (RowT.set HROW.out j 2 (.int .i64 9007199254740992) ({ (atP l2 j).1 with rev := maxN }, (atP l2 j).2) HJL.out (by omega) rfl).1
                have hX2 := exT_set (HEX.out.kept (gb_set w2 g (j * 6 + 2) (.int .i64 9007199254740992)) (fun q e => by cases e; exact RowT.block HROW.out g (by simp [Value.ownBlock]))) HJL.out (r := { (atP l2 j).1 with rev := maxN }) (by have h := (HEX.out _ (atP_mem HJL.out)).1; exact ⟨h.1, by show (Lit.int .i64 9007199254740992).wf = true; decide, h.2.2⟩) rfl
                have hb2 := HB.out.setCell (p := ⟨g, j * 6 + 2, none⟩) hbg (.int .i64 9007199254740992)
                have HM2 : Hid ((l2.set j ({ (atP l2 j).1 with rev := maxN }, (atP l2 j).2)).map Prod.fst = twK n t (j + 1)) := by
                  show _ = _
                  rw [map_setP, twK, HM0.out]
                  show _ = (twK n t j).set j (tw2 n j (tw1 j (atR (twK n t j) j)))
                  rw [tw2, if_pos c5]
                  simp [HTW.out]
                obtain ⟨_, _, u2, _, _, _⟩ := hx2
                have fz : w2.frozen? ⟨g, j * 6 + 2, none⟩ = false := RowT.frozen HROW.out
                have HR2 := Lib.hid hs2; clear hs2
                have HX2 := Lib.hid hX2; clear hX2
                have HB2 := Lib.hid hb2; clear hb2
                clear c5
                go_wp2_with fail
                go_roundw
                case rel => exact ⟨j + 1, _, _, rfl, by omega, by go_num, HR2.out, HM2.out, HX2.out, HB2.out⟩
                case measure => simp [intOf]; omega
              · have HM2 : Hid (l2.map Prod.fst = twK n t (j + 1)) := by
                  show _ = _
                  rw [twK, HM0.out]
                  show _ = (twK n t j).set j (tw2 n j (tw1 j (atR (twK n t j) j)))
                  rw [tw2, if_neg c5]
                have HR2 := Lib.hid (HROW.out)
                have HX2 := Lib.hid (HEX.out)
                have HB2 := Lib.hid (HB.out)
                have e57 : (((j : Int) % 5) == 4) = false ∨ (((j : Int) % 5) == 4) = true ∧ ¬ ((7 : Int) < (n : Int)) := by
                  by_cases c4 : j % 5 = 4
                  · right; exact ⟨by simp; omega, by omega⟩
                  · left; simp; omega
                have E57 := Lib.hid e57; clear e57 c5
                rcases E57.out with e5 | ⟨e5, e7⟩
                all_goals
                  go_wp2_with fail
                  go_roundw
                  case rel => exact ⟨j + 1, _, _, rfl, by omega, by go_num, HR2.out, HM2.out, HX2.out, HB2.out⟩
                  case measure => simp [intOf]; omega
          · have hje : j = m := by omega
            have hji : ¬ ((j : Int) < (m : Int)) := by omega
            have HE : Hid (l2.map Prod.fst = R) := by show _ = _; rw [HL.out, hje, HR1.out]
            clear hlt hje
            go_wp2_with fail
            go_ret
            exact ⟨_, l2, rfl, HROW.out, HE.out, HEX.out, HB.out⟩
      · have hk9 : ¬ ((k : Int) < 40) := by omega
        go_wp2_with fail
        go_loopw [5] (fun i wy => ∃ (j : Nat) (w2 : World) (l2 : List (Rcd × Value)), w2 = wy ∧ j ≤ m ∧ i = .int .i64 j ∧ RowT w2 w.heap.size (.slice Av m cv) l2 ∧ l2.map Prod.fst = twK n t j ∧ ExT w2 l2 ∧ Below w.heap.size w w2) (fun i _ => m - (intOf i).toNat)
        case atStart => exact ⟨0, _, l, rfl, by omega, rfl, HROW.out, HL.out, HEX.out, HB.out⟩
        case round =>
          clear HROW HEX HB HL hk9 h1
          obtain ⟨j, w2, l2, rfl, hj, rfl, hrow, hl, hex, hb⟩ := hrel
          have HROW := Lib.hid hrow; clear hrow
          have HEX := Lib.hid hex; clear hex
          have HL := Lib.hid hl
          have HLN : Hid (l2.length = m) := by have := congrArg List.length hl; rw [List.length_map, twK_len] at this; show _ = _; rw [this]; exact HLT.out
          have HB := Lib.hid hb; clear hb hl
          by_cases hlt : j < m
          · have hjl : j < l2.length := by have := HLN.out; omega
            have HJL := Lib.hid hjl; clear hjl
            obtain ⟨g, hA, hbg⟩ := HROW.out.at0 HJL.out
            subst hA
            have hji : (j : Int) < (m : Int) := by omega
            have hj0 : (0 : Int) ≤ (j : Int) := by omega
            have HPR : Hid ((atP l2 j).1 = atR (twK n t j) j) := by show _ = _; rw [atP_map l2 HJL.out, HL.out]
            by_cases c3 : j % 3 = 1
            · have e3 : (((j : Int) % 3) == 1) = true := by simp; omega
              have HTW : Hid (tw1 j (atR (twK n t j) j) = { (atP l2 j).1 with extra := [(9 + (j : Int), ⟨#[99, 97, 114, 114, 105, 101, 100]⟩)] }) := by show _ = _; rw [tw1, if_pos c3, HPR.out]; rfl
              clear c3
              have hx0 := HROW.out.six HJL.out
              have hbf : Below w2.heap.size w2 (w2.alloc (.cells #[.int .i64 (9 + (j : Int)), .string ⟨#[99, 97, 114, 114, 105, 101, 100]⟩] 57)) := (Below.refl _ _).alloc (Nat.le_refl _) _
              have hfs := fs_one_new w2 (9 + (j : Int)) ⟨#[99, 97, 114, 114, 105, 101, 100]⟩ (carried_wf j (by omega))
              have hbl := Blk.new w2 (.cells #[.int .i64 (9 + (j : Int)), .string ⟨#[99, 97, 114, 114, 105, 101, 100]⟩] 57)
              have hs9 : IntKind.i64.wrap (9 + (j : Int)) = 9 + (j : Int) := IntWalk.i64_in _ (by omega)
              obtain ⟨V, hV⟩ : ∃ V, w2.alloc (.cells #[.int .i64 (9 + (j : Int)), .string ⟨#[99, 97, 114, 114, 105, 101, 100]⟩] 57) = V := ⟨_, rfl⟩
              rw [hV] at hbf hfs hbl
              have hrv := HROW.out.below hbf
              have hxv := HEX.out.below hbf
              have hbv := bch HB.out hbf
              have hgh : g ≠ w2.heap.size := fun e => by have := (HROW.out.lt g (by simp [Value.ownBlock])).2; omega
              have hs1 := (RowT.set hrv j 5 (.slice (some ⟨w2.heap.size, 0, none⟩) 1 1) ({ (atP l2 j).1 with extra := [(9 + (j : Int), ⟨#[99, 97, 114, 114, 105, 101, 100]⟩)] }, .slice (some ⟨w2.heap.size, 0, none⟩) 1 1) HJL.out (by omega) rfl).1
              have hk1 := hxv.kept (gb_set V g (j * 6 + 5) (.slice (some ⟨w2.heap.size, 0, none⟩) 1 1)) (fun q e => by cases e; exact hrv.block g (by simp [Value.ownBlock]))
              have hxn : ExAt V ({ (atP l2 j).1 with extra := [(9 + (j : Int), ⟨#[99, 97, 114, 114, 105, 101, 100]⟩)] }, .slice (some ⟨w2.heap.size, 0, none⟩) 1 1) := ⟨_, 1, 1, rfl, Nat.le_refl _, hfs, fun _ => ⟨_, _, _, _, rfl, hbl⟩⟩
              have hxn2 := hxn.kept (gb_set V g (j * 6 + 5) (.slice (some ⟨w2.heap.size, 0, none⟩) 1 1)) (fun q e => by cases e; exact hrv.block g (by simp [Value.ownBlock]))
              have hrw : RcW { (atP l2 j).1 with extra := [(9 + (j : Int), ⟨#[99, 97, 114, 114, 105, 101, 100]⟩)] } := by have h := (HEX.out _ (atP_mem HJL.out)).1; exact ⟨h.1, h.2.1, h.2.2.1, by show 1 * 24 ≤ _; omega⟩
              have hk2 := exT_turn (i := j) hk1 hrw hxn2
              have hb1 := hbv.setCell (p := ⟨g, j * 6 + 5, none⟩) hbg (.slice (some ⟨w2.heap.size, 0, none⟩) 1 1)
              have HM1 : Hid ((l2.set j ({ (atP l2 j).1 with extra := [(9 + (j : Int), ⟨#[99, 97, 114, 114, 105, 101, 100]⟩)] }, .slice (some ⟨w2.heap.size, 0, none⟩) 1 1)).map Prod.fst = (twK n t j).set j (tw1 j (atR (twK n t j) j))) := by show _ = _; rw [map_setP, HL.out, HTW.out]
              obtain ⟨l3, hl3⟩ : ∃ l3, l2.set j ({ (atP l2 j).1 with extra := [(9 + (j : Int), ⟨#[99, 97, 114, 114, 105, 101, 100]⟩)] }, .slice (some ⟨w2.heap.size, 0, none⟩) 1 1) = l3 := ⟨_, rfl⟩
              have HLJ3 : Hid (j < l3.length) := by show _ < _; rw [← hl3, List.length_set]; exact HJL.out
              have HP3 : Hid ((atP l3 j).1 = { (atP l2 j).1 with extra := [(9 + (j : Int), ⟨#[99, 97, 114, 114, 105, 101, 100]⟩)] }) := by show _ = _; rw [← hl3, atP_set HJL.out]
              rw [hl3] at hs1 hk2 HM1
              have u5 := (hrv.six HJL.out).2.2.2.2.2
              have fz5 : V.frozen? ⟨g, j * 6 + 5, none⟩ = false := hrv.frozen
              have HRV := Lib.hid hs1; clear hs1
              have HXV := Lib.hid hk2; clear hk2
              have HBV := Lib.hid hb1; clear hb1
              have HTW2 : Hid (tw1 j (atR (twK n t j) j) = (atP l3 j).1) := by show _ = _; rw [HTW.out, HP3.out]
              clear hl3 hx0 hbf hfs hbl hrv hxv hbv hk1 hxn hxn2 hrw
              go_upto_region 11 with fail
              obtain ⟨W, hW⟩ : ∃ W, V.setCell ⟨g, j * 6 + 5, none⟩ (.slice (some ⟨w2.heap.size, 0, none⟩) 1 1) = W := ⟨_, rfl⟩
              rw [hW] at HRV HXV HBV ⊢
              clear hW hV u5 fz5 HTW
              have HTW := HTW2
              by_cases c5 : j % 5 = 4 ∧ 7 < n
              · have e5 : (((j : Int) % 5) == 4) = true := by simp; omega
                have e7 : (7 : Int) < (n : Int) := by omega
                have e7d : decide ((7 : Int) < (n : Int)) = true := decide_eq_true e7
                have hx2 := (RowT.six HRV.out HLJ3.out)
                have hs2 := (RowT.set HRV.out j 2 (.int .i64 9007199254740992) ({ (atP l3 j).1 with rev := maxN }, (atP l3 j).2) HLJ3.out (by omega) rfl).1
                have hX2 := exT_set (HXV.out.kept (gb_set W g (j * 6 + 2) (.int .i64 9007199254740992)) (fun q e => by cases e; exact RowT.block HRV.out g (by simp [Value.ownBlock]))) HLJ3.out (r := { (atP l3 j).1 with rev := maxN }) (by have h := (HXV.out _ (atP_mem HLJ3.out)).1; exact ⟨h.1, by show (Lit.int .i64 9007199254740992).wf = true; decide, h.2.2⟩) rfl
                have hb2 := HBV.out.setCell (p := ⟨g, j * 6 + 2, none⟩) hbg (.int .i64 9007199254740992)
                have HM2 : Hid ((l3.set j ({ (atP l3 j).1 with rev := maxN }, (atP l3 j).2)).map Prod.fst = twK n t (j + 1)) := by
                  show _ = _
                  rw [map_setP, twK, HM1.out]
                  show _ = (twK n t j).set j (tw2 n j (tw1 j (atR (twK n t j) j)))
                  rw [tw2, if_pos c5]
                  simp [HTW.out]
                obtain ⟨_, _, u2, _, _, _⟩ := hx2
                have fz : W.frozen? ⟨g, j * 6 + 2, none⟩ = false := RowT.frozen HRV.out
                have HR2 := Lib.hid hs2; clear hs2
                have HX2 := Lib.hid hX2; clear hX2
                have HB2 := Lib.hid hb2; clear hb2
                clear c5
                go_wp2_with fail
                go_roundw
                case rel => exact ⟨j + 1, _, _, rfl, by omega, by go_num, HR2.out, HM2.out, HX2.out, HB2.out⟩
                case measure => simp [intOf]; omega
              · have HM2 : Hid (l3.map Prod.fst = twK n t (j + 1)) := by
                  show _ = _
                  rw [twK, HM1.out]
                  show _ = (twK n t j).set j (tw2 n j (tw1 j (atR (twK n t j) j)))
                  rw [tw2, if_neg c5]
                have HR2 := Lib.hid (HRV.out)
                have HX2 := Lib.hid (HXV.out)
                have HB2 := Lib.hid (HBV.out)
                have e57 : (((j : Int) % 5) == 4) = false ∨ (((j : Int) % 5) == 4) = true ∧ ¬ ((7 : Int) < (n : Int)) := by
                  by_cases c4 : j % 5 = 4
                  · right; exact ⟨by simp; omega, by omega⟩
                  · left; simp; omega
                have E57 := Lib.hid e57; clear e57 c5
                rcases E57.out with e5 | ⟨e5, e7⟩
                all_goals
                  go_wp2_with fail
                  go_roundw
                  case rel => exact ⟨j + 1, _, _, rfl, by omega, by go_num, HR2.out, HM2.out, HX2.out, HB2.out⟩
                  case measure => simp [intOf]; omega
            · have e3 : (((j : Int) % 3) == 1) = false := by simp; omega
              have HTW : Hid (tw1 j (atR (twK n t j) j) = (atP l2 j).1) := by show _ = _; rw [tw1, if_neg c3, HPR.out]
              have HM0 : Hid (l2.map Prod.fst = (twK n t j).set j (tw1 j (atR (twK n t j) j))) := by
                show _ = _
                rw [HTW.out, HPR.out, HL.out, set_atR]
              clear c3
              by_cases c5 : j % 5 = 4 ∧ 7 < n
              · have e5 : (((j : Int) % 5) == 4) = true := by simp; omega
                have e7 : (7 : Int) < (n : Int) := by omega
                have e7d : decide ((7 : Int) < (n : Int)) = true := decide_eq_true e7
                have hx2 := (RowT.six HROW.out HJL.out)
                have hs2 := (RowT.set HROW.out j 2 (.int .i64 9007199254740992) ({ (atP l2 j).1 with rev := maxN }, (atP l2 j).2) HJL.out (by omega) rfl).1
                have hX2 := exT_set (HEX.out.kept (gb_set w2 g (j * 6 + 2) (.int .i64 9007199254740992)) (fun q e => by cases e; exact RowT.block HROW.out g (by simp [Value.ownBlock]))) HJL.out (r := { (atP l2 j).1 with rev := maxN }) (by have h := (HEX.out _ (atP_mem HJL.out)).1; exact ⟨h.1, by show (Lit.int .i64 9007199254740992).wf = true; decide, h.2.2⟩) rfl
                have hb2 := HB.out.setCell (p := ⟨g, j * 6 + 2, none⟩) hbg (.int .i64 9007199254740992)
                have HM2 : Hid ((l2.set j ({ (atP l2 j).1 with rev := maxN }, (atP l2 j).2)).map Prod.fst = twK n t (j + 1)) := by
                  show _ = _
                  rw [map_setP, twK, HM0.out]
                  show _ = (twK n t j).set j (tw2 n j (tw1 j (atR (twK n t j) j)))
                  rw [tw2, if_pos c5]
                  simp [HTW.out]
                obtain ⟨_, _, u2, _, _, _⟩ := hx2
                have fz : w2.frozen? ⟨g, j * 6 + 2, none⟩ = false := RowT.frozen HROW.out
                have HR2 := Lib.hid hs2; clear hs2
                have HX2 := Lib.hid hX2; clear hX2
                have HB2 := Lib.hid hb2; clear hb2
                clear c5
                go_wp2_with fail
                go_roundw
                case rel => exact ⟨j + 1, _, _, rfl, by omega, by go_num, HR2.out, HM2.out, HX2.out, HB2.out⟩
                case measure => simp [intOf]; omega
              · have HM2 : Hid (l2.map Prod.fst = twK n t (j + 1)) := by
                  show _ = _
                  rw [twK, HM0.out]
                  show _ = (twK n t j).set j (tw2 n j (tw1 j (atR (twK n t j) j)))
                  rw [tw2, if_neg c5]
                have HR2 := Lib.hid (HROW.out)
                have HX2 := Lib.hid (HEX.out)
                have HB2 := Lib.hid (HB.out)
                have e57 : (((j : Int) % 5) == 4) = false ∨ (((j : Int) % 5) == 4) = true ∧ ¬ ((7 : Int) < (n : Int)) := by
                  by_cases c4 : j % 5 = 4
                  · right; exact ⟨by simp; omega, by omega⟩
                  · left; simp; omega
                have E57 := Lib.hid e57; clear e57 c5
                rcases E57.out with e5 | ⟨e5, e7⟩
                all_goals
                  go_wp2_with fail
                  go_roundw
                  case rel => exact ⟨j + 1, _, _, rfl, by omega, by go_num, HR2.out, HM2.out, HX2.out, HB2.out⟩
                  case measure => simp [intOf]; omega
          · have hje : j = m := by omega
            have hji : ¬ ((j : Int) < (m : Int)) := by omega
            have HE : Hid (l2.map Prod.fst = R) := by show _ = _; rw [HL.out, hje, HR1.out]
            clear hlt hje
            go_wp2_with fail
            go_ret
            exact ⟨_, l2, rfl, HROW.out, HE.out, HEX.out, HB.out⟩
end Go.Proofs.Ytpnkkiokkhmjpaa
