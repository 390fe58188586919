import Derived.Test.YtjdpihppniibjaaWirePd
import Derived.Test.YtjdpihppniibjaaWireDec
import Derived.Deep.DeepCutAuto
/-
  The contract of the program's own messageOf (stage 8).
-/
namespace Go.Proofs.Ytjdpihppniibjaa
open Go.RowKit
set_option linter.unusedVariables false

/-- May a field be, by the program's way? -/
def okP (v t : Int) (d : ByteArray) : Bool := decide (t ≤ lastTg v) && (if t = 5 then decide (1 ≤ d.size) else numOk d)
def allP (v : Int) (l : List Fld) : Bool := l.all fun f => okP v f.1 f.2
theorem allP_take {v : Int} {fs : List Fld} {k : Nat} (h : k < fs.length) (ha : allP v (fs.take k) = true) (hk : okP v (tg fs k) (dt fs k) = true) : allP v (fs.take (k + 1)) = true := by
  unfold allP at *
  rw [List.take_succ_eq_append_getElem h, List.all_append, ha, fld_at h]; simp [hk]
theorem allP_no {v : Int} {fs : List Fld} {k : Nat} (h : k < fs.length) (hk : okP v (tg fs k) (dt fs k) = false) : allP v fs = false := by
  rw [Bool.eq_false_iff]
  intro e
  have := List.all_eq_true.1 e fs[k] (List.getElem_mem h)
  rw [fld_at h] at this
  simp only at this
  rw [hk] at this; cases this
/-- What messageOf leaves. -/
def MofPost (w : World) (ok : Bool) (m : Mg) (e : Ending) (w' : World) : Prop :=
  e = .returned (.tuple #[mgV (if ok then m else zeroM), .bool ok]) ∧ Below w.heap.size w w'
/-- A field's block; the places' block. -/
def FlBlk (W : World) (x : Nat) (t : Int) (d : ByteArray) : Prop := W.heap[x]? = some (.cells #[.int .i64 t, .string d] 47 (0, 0))
theorem FlBlk.cells {W : World} {x : Nat} {t : Int} {d : ByteArray} (h : FlBlk W x t d) : W.cell? ⟨x, 0, none⟩ = some (.int .i64 t) ∧ W.cell? ⟨x, 1, none⟩ = some (.string d) := ⟨cell_blk h 0, cell_blk h 1⟩
theorem FlBlk.below {w w' : World} {x : Nat} {t : Int} {d : ByteArray} (h : FlBlk w x t d) (hb : Below w.heap.size w w') : FlBlk w' x t d := Eq.trans (hb.block x (lt_of_blk h)) h
theorem FlBlk.far {W : World} {b g : Nat} {t : Int} {d : ByteArray} (h : FlBlk W b t d) (hne : b ≠ g) (j : Nat) (u : Value) : FlBlk (W.setCell ⟨g, j, none⟩ u) b t d := Eq.trans (heap_setCell_other W ⟨g, j, none⟩ b u hne) h
theorem FlBlk.drew {W : World} {x : Nat} {t : Int} {d : ByteArray} (h : FlBlk W x t d) : FlBlk W.drew x t d := h
def PlBlk (W : World) (z g : Nat) : Prop := W.heap[z]? = some (.cells #[.iface 79 (.pointer (some ⟨g, 0, none⟩)), .iface 79 (.pointer (some ⟨g, 1, none⟩)), .iface 79 (.pointer (some ⟨g, 2, none⟩)), .iface 79 (.pointer (some ⟨g, 3, none⟩)), .iface 81 (.pointer (some ⟨g, 4, none⟩)), .iface 79 (.pointer (some ⟨g, 5, none⟩))] 68 (0, 0))
theorem PlBlk.below {w w' : World} {z g : Nat} (h : PlBlk w z g) (hb : Below w.heap.size w w') : PlBlk w' z g := Eq.trans (hb.block z (lt_of_blk h)) h
theorem PlBlk.far {W : World} {z b g : Nat} (h : PlBlk W z b) (hne : z ≠ g) (j : Nat) (u : Value) : PlBlk (W.setCell ⟨g, j, none⟩ u) z b := Eq.trans (heap_setCell_other W ⟨g, j, none⟩ z u hne) h
theorem PlBlk.drew {W : World} {z g : Nat} (h : PlBlk W z g) : PlBlk W.drew z g := h
theorem PlBlk.num {W : World} {z g : Nat} (h : PlBlk W z g) {j : Nat} (h6 : j < 6) (h4 : j ≠ 4) : W.cell? ⟨z, j, none⟩ = some (.iface 79 (.pointer (some ⟨g, j, none⟩))) := by
  rcases (by omega : j = 0 ∨ j = 1 ∨ j = 2 ∨ j = 3 ∨ j = 5) with rfl | rfl | rfl | rfl | rfl
  · exact cell_blk h 0
  · exact cell_blk h 1
  · exact cell_blk h 2
  · exact cell_blk h 3
  · exact cell_blk h 5
theorem PlBlk.text {W : World} {z g : Nat} (h : PlBlk W z g) {j : Nat} (h6 : j < 6) (h4 : j = 4) : W.cell? ⟨z, j, none⟩ = some (.iface 81 (.pointer (some ⟨g, j, none⟩))) := by
  subst h4; exact cell_blk h 4
theorem MgBlk.num {W : World} {g : Nat} {m : Mg} (h : MgBlk W g m) {j : Nat} (h6 : j < 6) (h4 : j ≠ 4) : W.cell? ⟨g, j, none⟩ = some (.int .i64 (if j = 0 then m.kind else if j = 1 then m.frm else if j = 2 then m.to else if j = 3 then m.seq else m.trace)) := by
  obtain ⟨c0, c1, c2, c3, c4, c5⟩ := h.cells
  rcases (by omega : j = 0 ∨ j = 1 ∨ j = 2 ∨ j = 3 ∨ j = 5) with rfl | rfl | rfl | rfl | rfl
  · exact c0
  · exact c1
  · exact c2
  · exact c3
  · exact c5
theorem MgBlk.text {W : World} {g : Nat} {m : Mg} (h : MgBlk W g m) {j : Nat} (h4 : j = 4) : W.cell? ⟨g, j, none⟩ = some (.string m.body) := by
  subst h4; exact h.cells.2.2.2.2.1
theorem MgBlk.setNum {W : World} {g : Nat} {m : Mg} (h : MgBlk W g m) {j : Nat} (h6 : j < 6) (h4 : j ≠ 4) {t : Int} (ht : t = (j : Int) + 1) {d : ByteArray} : MgBlk (W.setCell ⟨g, j, none⟩ (.int .i64 (wholeN d.data.toList : Nat))) g (setM m t d) := by
  obtain ⟨s0, s1, s2, s3, s4, s5⟩ := h.step
  subst ht
  rcases (by omega : j = 0 ∨ j = 1 ∨ j = 2 ∨ j = 3 ∨ j = 5) with rfl | rfl | rfl | rfl | rfl
  · exact s0 _
  · exact s1 _
  · exact s2 _
  · exact s3 _
  · exact s5 _
theorem MgBlk.setText {W : World} {g : Nat} {m : Mg} (h : MgBlk W g m) {j : Nat} (h4 : j = 4) {t : Int} (ht : t = (j : Int) + 1) {d : ByteArray} : MgBlk (W.setCell ⟨g, j, none⟩ (.string d)) g (setM m t d) := by
  obtain ⟨s0, s1, s2, s3, s4, s5⟩ := h.step
  subst h4 ht
  exact s4 _

set_option maxRecDepth 100000 in
set_option maxHeartbeats 8000000 in
theorem messageOf_any (v : Int) (hv : v = 1 ∨ v = 2) (A : Option Addr) (n cap : Nat) (fs : List Fld) (w : World) (h : IsFs w A n fs) (hr : rightB fs = true) :
    Calls Try.prog 26 #[.int .i64 v, .slice A n cap] w (MofPost w (allP v fs) (accM fs)) := by
  obtain ⟨R, hR⟩ : ∃ R, allP v fs = R := ⟨_, rfl⟩
  rw [hR]
  have HRR := Lib.hid hR; clear hR
  obtain ⟨L, hL⟩ : ∃ L, lastTg v = L := ⟨_, rfl⟩
  have HL6 : L ≤ 6 := by rw [← hL]; rcases hv with rfl | rfl <;> decide
  have qL := lastTag_any v
  rw [hL] at qL
  have HLV := Lib.hid hL; clear hL
  have hz0 := MgBlk.new w zeroM
  have hb0 : Below w.heap.size w (w.alloc (.cells #[.int .i64 0, .int .i64 0, .int .i64 0, .int .i64 0, .string ⟨#[]⟩, .int .i64 0] 23)) := (Below.refl _ _).alloc (Nat.le_refl _) _
  have hs0 : (w.alloc (.cells #[.int .i64 0, .int .i64 0, .int .i64 0, .int .i64 0, .string ⟨#[]⟩, .int .i64 0] 23)).heap.size = w.heap.size + 1 := by simp
  obtain ⟨W0, hW0⟩ : ∃ W, w.alloc (.cells #[.int .i64 0, .int .i64 0, .int .i64 0, .int .i64 0, .string ⟨#[]⟩, .int .i64 0] 23) = W := ⟨_, rfl⟩
  have hz1 : MgBlk W0 w.heap.size zeroM := by rw [← hW0]; exact hz0
  rw [hW0] at hb0 hs0
  have HB0 := Lib.hid hb0; clear hb0 hz0
  have HZ := Lib.hid hz1; clear hz1
  have HS0 := Lib.hid hs0; clear hs0
  go_enter Try.func26, Try.ntmps26
  go_wp2_with fail
  have hm0 : MgBlk (W0.alloc (.cells #[.int .i64 0, .int .i64 0, .int .i64 0, .int .i64 0, .string ⟨#[]⟩, .int .i64 0] 23)) W0.heap.size zeroM := MgBlk.new W0 zeroM
  have q0 := placesOf_any W0.heap.size zeroM _ hm0
  ((with_reducible refine q0.mono ?_); rintro e W1 ⟨rfl, b1⟩)
  have hm1 := hm0.below b1
  have b0 : Below W0.heap.size W0 W1 := bch ((Below.refl _ _).alloc (Nat.le_refl _) _) b1
  have hgz : W0.heap.size < W1.heap.size := lt_of_blk hm1
  have hz1 := HZ.out.below b0
  have hb1 := bch HB0.out b0
  clear b0 b1 q0 hm0 HB0 HZ hW0
  have hgw1 := HS0.out
  clear HS0
  generalize W0.heap.size = g at hm1 hgz hgw1 ⊢
  have hgw : w.heap.size ≠ g := by omega
  have hwg : w.heap.size ≤ g := by omega
  clear hgw1
  unfold plV
  go_upto_region 3 with fail
  have hp2 : PlBlk (W1.alloc (.cells #[.iface 79 (.pointer (some ⟨g, 0, none⟩)), .iface 79 (.pointer (some ⟨g, 1, none⟩)), .iface 79 (.pointer (some ⟨g, 2, none⟩)), .iface 79 (.pointer (some ⟨g, 3, none⟩)), .iface 81 (.pointer (some ⟨g, 4, none⟩)), .iface 79 (.pointer (some ⟨g, 5, none⟩))] 68)) W1.heap.size g := World.alloc_heap_new W1 _
  have hal : Below W1.heap.size W1 (W1.alloc (.cells #[.iface 79 (.pointer (some ⟨g, 0, none⟩)), .iface 79 (.pointer (some ⟨g, 1, none⟩)), .iface 79 (.pointer (some ⟨g, 2, none⟩)), .iface 79 (.pointer (some ⟨g, 3, none⟩)), .iface 81 (.pointer (some ⟨g, 4, none⟩)), .iface 79 (.pointer (some ⟨g, 5, none⟩))] 68)) := (Below.refl _ _).alloc (Nat.le_refl _) _
  obtain ⟨V0, hV0⟩ : ∃ W, W1.alloc (.cells #[.iface 79 (.pointer (some ⟨g, 0, none⟩)), .iface 79 (.pointer (some ⟨g, 1, none⟩)), .iface 79 (.pointer (some ⟨g, 2, none⟩)), .iface 79 (.pointer (some ⟨g, 3, none⟩)), .iface 81 (.pointer (some ⟨g, 4, none⟩)), .iface 79 (.pointer (some ⟨g, 5, none⟩))] 68) = W := ⟨_, rfl⟩
  rw [hV0] at hp2 hal
  rw [hV0]
  clear hV0
  have HM2 := Lib.hid (hm1.below hal)
  have HZ2 := Lib.hid (hz1.below hal)
  have HB2 := Lib.hid (bch hb1 hal)
  have HP2 := Lib.hid hp2
  clear hm1 hz1 hb1 hp2 hal
  have hzg : W1.heap.size ≠ g := by omega
  clear hgz
  generalize W1.heap.size = z at HP2 hzg ⊢
  have hnl := h.1
  have hnm := h.2.1
  unfold maxLen at hnm
  have HFS := Lib.hid h; clear h
  have HRIGHT := Lib.hid hr; clear hr
  have HNL := Lib.hid hnl; clear hnl
  go_wp2_with fail
  go_loopw [13] (fun i wy => ∃ k : Nat, k ≤ n ∧ i = .int .i64 k ∧ MgBlk wy g (accM (fs.take k)) ∧ MgBlk wy w.heap.size zeroM ∧ PlBlk wy z g ∧ Hid (allP v (fs.take k) = true) ∧ Below w.heap.size w wy) (fun i _ => n - (intOf i).toNat)
  case atStart => exact ⟨0, by omega, rfl, HM2.out, HZ2.out, HP2.out, rfl, HB2.out⟩
  case round =>
    clear HM2 HZ2 HP2 HB2
    obtain ⟨k, hk, rfl, hm, hz, hp, hal, hb⟩ := hrel
    by_cases hlt : k < n
    · have HK : Hid (k < fs.length) := by have := HNL.out; show k < fs.length; omega
      obtain ⟨b, off, hA, hbb, hat⟩ := HFS.out.2.2.2 (by omega)
      subst hA
      obtain ⟨x0, x1⟩ := hat k HK.out
      have c0 := (hb.cell (p := ⟨b, off + k * 2, none⟩) hbb).trans x0
      have c1 := (hb.cell (p := ⟨b, off + k * 2 + 1, none⟩) hbb).trans x1
      clear hat x0 x1
      have htp := tag_pos HRIGHT.out HK.out
      have hstep := accM_take HK.out
      have HOKF : Hid (okP v (tg fs k) (dt fs k) = false → R = false) := fun h => HRR.out.symm.trans (allP_no HK.out h)
      have HOKS : Hid (okP v (tg fs k) (dt fs k) = true → allP v (fs.take (k + 1)) = true) := fun h => allP_take HK.out hal.out h
      clear hal
      generalize tg fs k = t at *
      generalize dt fs k = d at *
      generalize accM (fs.take k) = M at *
      have HST := Lib.hid hstep; clear hstep
      have HC := Lib.hid (And.intro hm (And.intro hz (And.intro hp hb))); clear hm hz hp hb
      go_upto_region 6 with fail
      obtain ⟨hm, hz, hp, hb⟩ := HC.out
      clear HC c0 c1
      have hal : Below wr.heap.size wr (wr.alloc (.cells #[.int .i64 t, .string d] 47)) := (Below.refl _ _).alloc (Nat.le_refl _) _
      have hf : FlBlk (wr.alloc (.cells #[.int .i64 t, .string d] 47)) wr.heap.size t d := World.alloc_heap_new wr _
      obtain ⟨V, hV⟩ : ∃ W, wr.alloc (.cells #[.int .i64 t, .string d] 47) = W := ⟨_, rfl⟩
      rw [hV] at hal hf
      rw [hV]
      clear hV
      have hxg : wr.heap.size ≠ g := by have := lt_of_blk hm; omega
      obtain ⟨x, hx⟩ : ∃ x, wr.heap.size = x := ⟨_, rfl⟩
      have HMV := Lib.hid (hm.below hal)
      have HZV := Lib.hid (hz.below hal)
      have hs0 : Hid (FlBlk V.drew x t d ∧ PlBlk V.drew z g ∧ Below w.heap.size w V.drew) := ⟨by rw [← hx]; exact hf.drew, (hp.below hal).drew, (bch hb hal).drew⟩
      rw [hx] at hxg ⊢
      clear hm hz hp hb hal hf hx
      by_cases hle : t ≤ L
      · have hL1 : decide (L < t) = false := decide_eq_false (by omega)
        obtain ⟨j, ht⟩ : ∃ j : Nat, t = (j : Int) + 1 := ⟨(t - 1).toNat, by omega⟩
        have hj6 : j < 6 := by omega
        have hb1 : (-9223372036854775808 : Int) ≤ t := by omega
        have hb2 : t ≤ 9223372036854775807 := by omega
        have ht1 : t - 1 = (j : Int) := by omega
        have hj7 : (j : Int) < 6 := by omega
        have hd2 := htp.2
        have hwj : IntKind.i64.wrap (j : Int) = (j : Int) := IntWalk.i64_in _ (by omega)
        have HT := Lib.hid ht; clear ht
        have HLE := Lib.hid hle; clear hle
        have ht := HT.out
        by_cases h5 : t = 5
        · have hj4 : j = 4 := by omega
          have HJ4 := Lib.hid hj4
          have H5 := Lib.hid h5
          clear hj4 h5 ht
          have qT := fun W => textTake_any g j d W (by unfold maxLen; omega)
          cases e9 : decide (1 ≤ d.size) with
          | false =>
            rw [e9] at qT
            have hok : okP v t d = false := by unfold okP; rw [HLV.out, decide_eq_true HLE.out]; rw [if_pos H5.out]; exact e9
            have HR := Lib.hid (HOKF.out hok)
            clear hok HOKF HOKS
            refine wp_region_noPanic ?_
            refine wp_region_held_drew (S := (fun W => FlBlk W x t d ∧ PlBlk W z g ∧ Below w.heap.size w W)) (by kernel_rfl) (hs0.out) (fun hHeld => ?_)
            obtain ⟨V2, hV2⟩ : ∃ W, V.drew = W := ⟨_, rfl⟩
            have hm2 : MgBlk V2 g M := by rw [← hV2]; exact HMV.out.drew
            have hz2 : MgBlk V2 w.heap.size zeroM := by rw [← hV2]; exact HZV.out.drew
            rw [hV2] at hHeld ⊢
            clear hV2
            have HM2 := Lib.hid hm2; clear hm2
            have HZ2 := Lib.hid hz2; clear hz2
            refine wpAnyH_take (i := 0) (v := ?_) rfl (by kernel_rfl) (by kernel_rfl) (by kernel_rfl) (fun _ _ _ h => h) (Or.inl ⟨by rfl, ?_⟩) (by assumption) ?_
            rotate_left
            · (intro w hSw; (try dsimp only at hSw); go_simp; (try with_reducible rfl))
            simp only [Act.put, List.getElem_toArray, List.getElem_cons_zero, List.setIfInBounds_toArray, List.set_cons_zero, List.set_cons_succ]
            refine wpAnyH_take (i := 1) (v := ?_) rfl (by kernel_rfl) (by kernel_rfl) (by kernel_rfl) (fun _ _ _ h => h) (Or.inl ⟨by rfl, ?_⟩) (by assumption) ?_
            rotate_left
            · (intro w hSw; (try dsimp only at hSw); obtain ⟨x0, x1⟩ := hSw.1.cells; go_simp; (try with_reducible rfl))
            simp only [Act.put, List.getElem_toArray, List.getElem_cons_zero, List.getElem_cons_succ, List.setIfInBounds_toArray, List.set_cons_zero, List.set_cons_succ]
            refine wpAnyH_take (i := 2) (v := ?_) rfl (by kernel_rfl) (by kernel_rfl) (by kernel_rfl) (fun _ _ _ h => h) (Or.inl ⟨by rfl, ?_⟩) (by assumption) ?_
            rotate_left
            · (intro w hSw; (try dsimp only at hSw); go_simp; (try with_reducible rfl))
            simp only [Act.put, List.getElem_toArray, List.getElem_cons_zero, List.getElem_cons_succ, List.setIfInBounds_toArray, List.set_cons_zero, List.set_cons_succ]
            refine wpAnyH_ready (rs := [3]) (by kernel_rfl) (by simp) ?_
            refine AllReadyH.cons rfl (fun K hK => ?_) AllReadyH.nil
            rw [if_pos (by rfl)]
            go_simp
            ((with_reducible refine (qL _).mono ?_); rintro e w' ⟨rfl, rfl⟩)
            refine hK.out _ _ (hHeld) (fun hHeld2 => ?_)
            clear hK K hHeld
            have hHeld := hHeld2; clear hHeld2
            refine wpAnyH_take (i := 4) (v := ?_) rfl (by kernel_rfl) (by kernel_rfl) (by kernel_rfl) (fun _ _ _ h => h) (Or.inl ⟨by rfl, ?_⟩) (by assumption) ?_
            rotate_left
            · (intro w hSw; (try dsimp only at hSw); go_simp; (try with_reducible rfl))
            simp only [Act.put, List.getElem_toArray, List.getElem_cons_zero, List.getElem_cons_succ, List.setIfInBounds_toArray, List.set_cons_zero, List.set_cons_succ]
            refine wpAnyH_take (i := 5) (v := ?_) rfl (by kernel_rfl) (by kernel_rfl) (by kernel_rfl) (fun _ _ _ h => h) (Or.inl ⟨by rfl, ?_⟩) (by assumption) ?_
            rotate_left
            · (intro w hSw; (try dsimp only at hSw); go_simp; (try with_reducible rfl))
            simp only [Act.put, List.getElem_toArray, List.getElem_cons_zero, List.getElem_cons_succ, List.setIfInBounds_toArray, List.set_cons_zero, List.set_cons_succ]
            refine wpAnyH_take (i := 6) (v := ?_) rfl (by kernel_rfl) (by kernel_rfl) (by kernel_rfl) (fun _ _ _ h => h) (Or.inl ⟨by rfl, ?_⟩) (by assumption) ?_
            rotate_left
            · (intro w hSw; (try dsimp only at hSw); go_simp; (try with_reducible rfl))
            simp only [Act.put, List.getElem_toArray, List.getElem_cons_zero, List.getElem_cons_succ, List.setIfInBounds_toArray, List.set_cons_zero, List.set_cons_succ]
            refine wpAnyH_take (i := 7) (v := ?_) rfl (by kernel_rfl) (by kernel_rfl) (by kernel_rfl) (fun _ _ _ h => h) (Or.inl ⟨by rfl, ?_⟩) (by assumption) ?_
            rotate_left
            · (intro w hSw; (try dsimp only at hSw); obtain ⟨x0, x1⟩ := hSw.1.cells; go_simp; (try with_reducible rfl))
            simp only [Act.put, List.getElem_toArray, List.getElem_cons_zero, List.getElem_cons_succ, List.setIfInBounds_toArray, List.set_cons_zero, List.set_cons_succ]
            refine wpAnyH_take (i := 8) (v := ?_) rfl (by kernel_rfl) (by kernel_rfl) (by kernel_rfl) (fun _ _ _ h => h) (Or.inl ⟨by rfl, ?_⟩) (by assumption) ?_
            rotate_left
            · (intro w hSw; (try dsimp only at hSw); go_simp; (try with_reducible rfl))
            simp only [Act.put, List.getElem_toArray, List.getElem_cons_zero, List.getElem_cons_succ, List.setIfInBounds_toArray, List.set_cons_zero, List.set_cons_succ]
            refine wpAnyH_take (i := 9) (v := ?_) rfl (by kernel_rfl) (by kernel_rfl) (by kernel_rfl) (fun _ _ _ h => h) (Or.inl ⟨by rfl, ?_⟩) (by assumption) ?_
            rotate_left
            · (intro w hSw; (try dsimp only at hSw); go_simp; (try with_reducible rfl))
            simp only [Act.put, List.getElem_toArray, List.getElem_cons_zero, List.getElem_cons_succ, List.setIfInBounds_toArray, List.set_cons_zero, List.set_cons_succ]
            refine wpAnyH_take (i := 10) (v := ?_) rfl (by kernel_rfl) (by kernel_rfl) (by kernel_rfl) (fun _ _ _ h => h) (Or.inl ⟨by rfl, ?_⟩) (by assumption) ?_
            rotate_left
            · (intro w hSw; (try dsimp only at hSw); have xp := hSw.2.1.text hj6 HJ4.out; go_simp; (try with_reducible rfl))
            simp only [Act.put, List.getElem_toArray, List.getElem_cons_zero, List.getElem_cons_succ, List.setIfInBounds_toArray, List.set_cons_zero, List.set_cons_succ]
            refine wpAnyH_take (i := 11) (v := ?_) rfl (by kernel_rfl) (by kernel_rfl) (by kernel_rfl) (fun _ _ _ h => h) (Or.inl ⟨by rfl, ?_⟩) (by assumption) ?_
            rotate_left
            · (intro w hSw; (try dsimp only at hSw); go_simp; (try with_reducible rfl))
            simp only [Act.put, List.getElem_toArray, List.getElem_cons_zero, List.getElem_cons_succ, List.setIfInBounds_toArray, List.set_cons_zero, List.set_cons_succ]
            refine wpAnyH_take (i := 12) (v := ?_) rfl (by kernel_rfl) (by kernel_rfl) (by kernel_rfl) (fun _ _ _ h => h) (Or.inl ⟨by rfl, ?_⟩) (by assumption) ?_
            rotate_left
            · (intro w hSw; (try dsimp only at hSw); obtain ⟨x0, x1⟩ := hSw.1.cells; go_simp; (try with_reducible rfl))
            simp only [Act.put, List.getElem_toArray, List.getElem_cons_zero, List.getElem_cons_succ, List.setIfInBounds_toArray, List.set_cons_zero, List.set_cons_succ]
            refine wpAnyH_ready (rs := [13]) (by kernel_rfl) (by simp) ?_
            refine AllReadyH.cons rfl (fun K hK => ?_) AllReadyH.nil
            rw [if_pos (by rfl)]
            go_simp
            ((with_reducible refine (qT _ ⟨_, HM2.out.text HJ4.out⟩ (HM2.out.frozen j)).mono ?_); rintro e w' ⟨rfl, hw⟩)
            have hm3 : MgBlk w' g (setM M t d) := by rw [← hw]; exact HM2.out.setText HJ4.out HT.out
            have hz3 : MgBlk w' w.heap.size zeroM := by rw [← hw]; exact HZ2.out.far hgw j _
            have hs3 : FlBlk w' x t d ∧ PlBlk w' z g ∧ Below w.heap.size w w' := by rw [← hw]; exact ⟨hHeld.1.far hxg j _, hHeld.2.1.far hzg j _, hHeld.2.2.setCell (p := ⟨g, j, none⟩) hwg _⟩
            have HM3 := Lib.hid hm3; clear hm3
            have HZ3 := Lib.hid hz3; clear hz3
            clear hw
            refine hK.out _ _ (hs3) (fun hHeld2 => ?_)
            clear hK K hHeld
            have hHeld := hHeld2; clear hHeld2
            refine wpAnyH_take (i := 14) (v := ?_) rfl (by kernel_rfl) (by kernel_rfl) (by kernel_rfl) (fun _ _ _ h => h) (Or.inl ⟨by rfl, ?_⟩) (by assumption) ?_
            rotate_left
            · (intro w hSw; (try dsimp only at hSw); go_simp; (try with_reducible rfl))
            simp only [Act.put, List.getElem_toArray, List.getElem_cons_zero, List.getElem_cons_succ, List.setIfInBounds_toArray, List.set_cons_zero, List.set_cons_succ]
            refine wpAnyH_take (i := 15) (v := ?_) rfl (by kernel_rfl) (by kernel_rfl) (by kernel_rfl) (fun _ _ _ h => h) (Or.inl ⟨by rfl, ?_⟩) (by assumption) ?_
            rotate_left
            · (intro w hSw; (try dsimp only at hSw); go_simp; (try with_reducible rfl))
            simp only [Act.put, List.getElem_toArray, List.getElem_cons_zero, List.getElem_cons_succ, List.setIfInBounds_toArray, List.set_cons_zero, List.set_cons_succ]
            refine wpAnyH_done (by kernel_rfl) ?_ _
            refine NoPanic.normal ?_
            have hz := HZ3.out
            have hb := hHeld.2.2
            clear hHeld
            obtain ⟨d0, d1, d2, d3, d4, d5⟩ := hz.cells
            simp only [zeroM, bemp] at d0 d1 d2 d3 d4 d5
            have f0 := hz.frozen 0
            have f1 := hz.frozen 1
            have f2 := hz.frozen 2
            have f3 := hz.frozen 3
            have f4 := hz.frozen 4
            have f5 := hz.frozen 5
            have HXE := Lib.hid hz; clear hz
            have HBE := Lib.hid hb; clear hb
            go_wp2_with fail
            have hfin := HXE.out.put zeroM
            obtain ⟨e0, e1, e2, e3, e4, e5⟩ := hfin.cells
            try simp only [zeroM, bemp] at e0 e1 e2 e3 e4 e5
            have hbf := below_msg6 HBE.out (Nat.le_refl _) zeroM
            try simp only [zeroM, bemp] at hbf
            refine bodyPost_ret (v := .tuple #[.agg #[.int .i64 0, .int .i64 0, .int .i64 0, .int .i64 0, .string ⟨#[]⟩, .int .i64 0], .bool false]) (by simp [results, Try.results26, go_sem, e0, e1, e2, e3, e4, e5]) rfl ⟨by rw [HR.out]; rfl, hbf⟩
          | true =>
            rw [e9] at qT
            have hok : okP v t d = true := by unfold okP; rw [HLV.out, decide_eq_true HLE.out]; rw [if_pos H5.out]; exact e9
            rw [hok] at HOKS
            clear hok HOKF
            refine wp_region_noPanic ?_
            refine wp_region_held_drew (S := (fun W => FlBlk W x t d ∧ PlBlk W z g ∧ Below w.heap.size w W)) (by kernel_rfl) (hs0.out) (fun hHeld => ?_)
            obtain ⟨V2, hV2⟩ : ∃ W, V.drew = W := ⟨_, rfl⟩
            have hm2 : MgBlk V2 g M := by rw [← hV2]; exact HMV.out.drew
            have hz2 : MgBlk V2 w.heap.size zeroM := by rw [← hV2]; exact HZV.out.drew
            rw [hV2] at hHeld ⊢
            clear hV2
            have HM2 := Lib.hid hm2; clear hm2
            have HZ2 := Lib.hid hz2; clear hz2
            refine wpAnyH_take (i := 0) (v := ?_) rfl (by kernel_rfl) (by kernel_rfl) (by kernel_rfl) (fun _ _ _ h => h) (Or.inl ⟨by rfl, ?_⟩) (by assumption) ?_
            rotate_left
            · (intro w hSw; (try dsimp only at hSw); go_simp; (try with_reducible rfl))
            simp only [Act.put, List.getElem_toArray, List.getElem_cons_zero, List.setIfInBounds_toArray, List.set_cons_zero, List.set_cons_succ]
            refine wpAnyH_take (i := 1) (v := ?_) rfl (by kernel_rfl) (by kernel_rfl) (by kernel_rfl) (fun _ _ _ h => h) (Or.inl ⟨by rfl, ?_⟩) (by assumption) ?_
            rotate_left
            · (intro w hSw; (try dsimp only at hSw); obtain ⟨x0, x1⟩ := hSw.1.cells; go_simp; (try with_reducible rfl))
            simp only [Act.put, List.getElem_toArray, List.getElem_cons_zero, List.getElem_cons_succ, List.setIfInBounds_toArray, List.set_cons_zero, List.set_cons_succ]
            refine wpAnyH_take (i := 2) (v := ?_) rfl (by kernel_rfl) (by kernel_rfl) (by kernel_rfl) (fun _ _ _ h => h) (Or.inl ⟨by rfl, ?_⟩) (by assumption) ?_
            rotate_left
            · (intro w hSw; (try dsimp only at hSw); go_simp; (try with_reducible rfl))
            simp only [Act.put, List.getElem_toArray, List.getElem_cons_zero, List.getElem_cons_succ, List.setIfInBounds_toArray, List.set_cons_zero, List.set_cons_succ]
            refine wpAnyH_ready (rs := [3]) (by kernel_rfl) (by simp) ?_
            refine AllReadyH.cons rfl (fun K hK => ?_) AllReadyH.nil
            rw [if_pos (by rfl)]
            go_simp
            ((with_reducible refine (qL _).mono ?_); rintro e w' ⟨rfl, rfl⟩)
            refine hK.out _ _ (hHeld) (fun hHeld2 => ?_)
            clear hK K hHeld
            have hHeld := hHeld2; clear hHeld2
            refine wpAnyH_take (i := 4) (v := ?_) rfl (by kernel_rfl) (by kernel_rfl) (by kernel_rfl) (fun _ _ _ h => h) (Or.inl ⟨by rfl, ?_⟩) (by assumption) ?_
            rotate_left
            · (intro w hSw; (try dsimp only at hSw); go_simp; (try with_reducible rfl))
            simp only [Act.put, List.getElem_toArray, List.getElem_cons_zero, List.getElem_cons_succ, List.setIfInBounds_toArray, List.set_cons_zero, List.set_cons_succ]
            refine wpAnyH_take (i := 5) (v := ?_) rfl (by kernel_rfl) (by kernel_rfl) (by kernel_rfl) (fun _ _ _ h => h) (Or.inl ⟨by rfl, ?_⟩) (by assumption) ?_
            rotate_left
            · (intro w hSw; (try dsimp only at hSw); go_simp; (try with_reducible rfl))
            simp only [Act.put, List.getElem_toArray, List.getElem_cons_zero, List.getElem_cons_succ, List.setIfInBounds_toArray, List.set_cons_zero, List.set_cons_succ]
            refine wpAnyH_take (i := 6) (v := ?_) rfl (by kernel_rfl) (by kernel_rfl) (by kernel_rfl) (fun _ _ _ h => h) (Or.inl ⟨by rfl, ?_⟩) (by assumption) ?_
            rotate_left
            · (intro w hSw; (try dsimp only at hSw); go_simp; (try with_reducible rfl))
            simp only [Act.put, List.getElem_toArray, List.getElem_cons_zero, List.getElem_cons_succ, List.setIfInBounds_toArray, List.set_cons_zero, List.set_cons_succ]
            refine wpAnyH_take (i := 7) (v := ?_) rfl (by kernel_rfl) (by kernel_rfl) (by kernel_rfl) (fun _ _ _ h => h) (Or.inl ⟨by rfl, ?_⟩) (by assumption) ?_
            rotate_left
            · (intro w hSw; (try dsimp only at hSw); obtain ⟨x0, x1⟩ := hSw.1.cells; go_simp; (try with_reducible rfl))
            simp only [Act.put, List.getElem_toArray, List.getElem_cons_zero, List.getElem_cons_succ, List.setIfInBounds_toArray, List.set_cons_zero, List.set_cons_succ]
            refine wpAnyH_take (i := 8) (v := ?_) rfl (by kernel_rfl) (by kernel_rfl) (by kernel_rfl) (fun _ _ _ h => h) (Or.inl ⟨by rfl, ?_⟩) (by assumption) ?_
            rotate_left
            · (intro w hSw; (try dsimp only at hSw); go_simp; (try with_reducible rfl))
            simp only [Act.put, List.getElem_toArray, List.getElem_cons_zero, List.getElem_cons_succ, List.setIfInBounds_toArray, List.set_cons_zero, List.set_cons_succ]
            refine wpAnyH_take (i := 9) (v := ?_) rfl (by kernel_rfl) (by kernel_rfl) (by kernel_rfl) (fun _ _ _ h => h) (Or.inl ⟨by rfl, ?_⟩) (by assumption) ?_
            rotate_left
            · (intro w hSw; (try dsimp only at hSw); go_simp; (try with_reducible rfl))
            simp only [Act.put, List.getElem_toArray, List.getElem_cons_zero, List.getElem_cons_succ, List.setIfInBounds_toArray, List.set_cons_zero, List.set_cons_succ]
            refine wpAnyH_take (i := 10) (v := ?_) rfl (by kernel_rfl) (by kernel_rfl) (by kernel_rfl) (fun _ _ _ h => h) (Or.inl ⟨by rfl, ?_⟩) (by assumption) ?_
            rotate_left
            · (intro w hSw; (try dsimp only at hSw); have xp := hSw.2.1.text hj6 HJ4.out; go_simp; (try with_reducible rfl))
            simp only [Act.put, List.getElem_toArray, List.getElem_cons_zero, List.getElem_cons_succ, List.setIfInBounds_toArray, List.set_cons_zero, List.set_cons_succ]
            refine wpAnyH_take (i := 11) (v := ?_) rfl (by kernel_rfl) (by kernel_rfl) (by kernel_rfl) (fun _ _ _ h => h) (Or.inl ⟨by rfl, ?_⟩) (by assumption) ?_
            rotate_left
            · (intro w hSw; (try dsimp only at hSw); go_simp; (try with_reducible rfl))
            simp only [Act.put, List.getElem_toArray, List.getElem_cons_zero, List.getElem_cons_succ, List.setIfInBounds_toArray, List.set_cons_zero, List.set_cons_succ]
            refine wpAnyH_take (i := 12) (v := ?_) rfl (by kernel_rfl) (by kernel_rfl) (by kernel_rfl) (fun _ _ _ h => h) (Or.inl ⟨by rfl, ?_⟩) (by assumption) ?_
            rotate_left
            · (intro w hSw; (try dsimp only at hSw); obtain ⟨x0, x1⟩ := hSw.1.cells; go_simp; (try with_reducible rfl))
            simp only [Act.put, List.getElem_toArray, List.getElem_cons_zero, List.getElem_cons_succ, List.setIfInBounds_toArray, List.set_cons_zero, List.set_cons_succ]
            refine wpAnyH_ready (rs := [13]) (by kernel_rfl) (by simp) ?_
            refine AllReadyH.cons rfl (fun K hK => ?_) AllReadyH.nil
            rw [if_pos (by rfl)]
            go_simp
            ((with_reducible refine (qT _ ⟨_, HM2.out.text HJ4.out⟩ (HM2.out.frozen j)).mono ?_); rintro e w' ⟨rfl, hw⟩)
            have hm3 : MgBlk w' g (setM M t d) := by rw [← hw]; exact HM2.out.setText HJ4.out HT.out
            have hz3 : MgBlk w' w.heap.size zeroM := by rw [← hw]; exact HZ2.out.far hgw j _
            have hs3 : FlBlk w' x t d ∧ PlBlk w' z g ∧ Below w.heap.size w w' := by rw [← hw]; exact ⟨hHeld.1.far hxg j _, hHeld.2.1.far hzg j _, hHeld.2.2.setCell (p := ⟨g, j, none⟩) hwg _⟩
            have HM3 := Lib.hid hm3; clear hm3
            have HZ3 := Lib.hid hz3; clear hz3
            clear hw
            refine hK.out _ _ (hs3) (fun hHeld2 => ?_)
            clear hK K hHeld
            have hHeld := hHeld2; clear hHeld2
            refine wpAnyH_take (i := 14) (v := ?_) rfl (by kernel_rfl) (by kernel_rfl) (by kernel_rfl) (fun _ _ _ h => h) (Or.inl ⟨by rfl, ?_⟩) (by assumption) ?_
            rotate_left
            · (intro w hSw; (try dsimp only at hSw); go_simp; (try with_reducible rfl))
            simp only [Act.put, List.getElem_toArray, List.getElem_cons_zero, List.getElem_cons_succ, List.setIfInBounds_toArray, List.set_cons_zero, List.set_cons_succ]
            refine wpAnyH_take (i := 15) (v := ?_) rfl (by kernel_rfl) (by kernel_rfl) (by kernel_rfl) (fun _ _ _ h => h) (Or.inl ⟨by rfl, ?_⟩) (by assumption) ?_
            rotate_left
            · (intro w hSw; (try dsimp only at hSw); go_simp; (try with_reducible rfl))
            simp only [Act.put, List.getElem_toArray, List.getElem_cons_zero, List.getElem_cons_succ, List.setIfInBounds_toArray, List.set_cons_zero, List.set_cons_succ]
            refine wpAnyH_done (by kernel_rfl) ?_ _
            refine NoPanic.normal ?_
            have HMX := Lib.hid (HM3.out)
            have hpx := hHeld.2.1
            have hbx := hHeld.2.2
            have HPX := Lib.hid hpx
            have HBX := Lib.hid hbx
            clear hHeld hpx hbx
            go_wp2_with fail
            go_roundw
            case rel => exact ⟨k + 1, by omega, by go_num, by rw [HST.out]; exact HMX.out, HZ3.out, HPX.out, HOKS.out rfl, HBX.out⟩
            case measure => simp [intOf]; omega
        · have hj4 : j ≠ 4 := by omega
          have H5 := Lib.hid h5
          clear h5 ht
          have qT := fun W => numTake_any g j d W (by unfold maxLen; omega)
          cases e9 : numOk d with
          | false =>
            rw [e9] at qT
            have hok : okP v t d = false := by unfold okP; rw [HLV.out, decide_eq_true HLE.out]; rw [if_neg H5.out]; exact e9
            have HR := Lib.hid (HOKF.out hok)
            clear hok HOKF HOKS
            refine wp_region_noPanic ?_
            refine wp_region_held_drew (S := (fun W => FlBlk W x t d ∧ PlBlk W z g ∧ Below w.heap.size w W)) (by kernel_rfl) (hs0.out) (fun hHeld => ?_)
            obtain ⟨V2, hV2⟩ : ∃ W, V.drew = W := ⟨_, rfl⟩
            have hm2 : MgBlk V2 g M := by rw [← hV2]; exact HMV.out.drew
            have hz2 : MgBlk V2 w.heap.size zeroM := by rw [← hV2]; exact HZV.out.drew
            rw [hV2] at hHeld ⊢
            clear hV2
            have HM2 := Lib.hid hm2; clear hm2
            have HZ2 := Lib.hid hz2; clear hz2
            refine wpAnyH_take (i := 0) (v := ?_) rfl (by kernel_rfl) (by kernel_rfl) (by kernel_rfl) (fun _ _ _ h => h) (Or.inl ⟨by rfl, ?_⟩) (by assumption) ?_
            rotate_left
            · (intro w hSw; (try dsimp only at hSw); go_simp; (try with_reducible rfl))
            simp only [Act.put, List.getElem_toArray, List.getElem_cons_zero, List.setIfInBounds_toArray, List.set_cons_zero, List.set_cons_succ]
            refine wpAnyH_take (i := 1) (v := ?_) rfl (by kernel_rfl) (by kernel_rfl) (by kernel_rfl) (fun _ _ _ h => h) (Or.inl ⟨by rfl, ?_⟩) (by assumption) ?_
            rotate_left
            · (intro w hSw; (try dsimp only at hSw); obtain ⟨x0, x1⟩ := hSw.1.cells; go_simp; (try with_reducible rfl))
            simp only [Act.put, List.getElem_toArray, List.getElem_cons_zero, List.getElem_cons_succ, List.setIfInBounds_toArray, List.set_cons_zero, List.set_cons_succ]
            refine wpAnyH_take (i := 2) (v := ?_) rfl (by kernel_rfl) (by kernel_rfl) (by kernel_rfl) (fun _ _ _ h => h) (Or.inl ⟨by rfl, ?_⟩) (by assumption) ?_
            rotate_left
            · (intro w hSw; (try dsimp only at hSw); go_simp; (try with_reducible rfl))
            simp only [Act.put, List.getElem_toArray, List.getElem_cons_zero, List.getElem_cons_succ, List.setIfInBounds_toArray, List.set_cons_zero, List.set_cons_succ]
            refine wpAnyH_ready (rs := [3]) (by kernel_rfl) (by simp) ?_
            refine AllReadyH.cons rfl (fun K hK => ?_) AllReadyH.nil
            rw [if_pos (by rfl)]
            go_simp
            ((with_reducible refine (qL _).mono ?_); rintro e w' ⟨rfl, rfl⟩)
            refine hK.out _ _ (hHeld) (fun hHeld2 => ?_)
            clear hK K hHeld
            have hHeld := hHeld2; clear hHeld2
            refine wpAnyH_take (i := 4) (v := ?_) rfl (by kernel_rfl) (by kernel_rfl) (by kernel_rfl) (fun _ _ _ h => h) (Or.inl ⟨by rfl, ?_⟩) (by assumption) ?_
            rotate_left
            · (intro w hSw; (try dsimp only at hSw); go_simp; (try with_reducible rfl))
            simp only [Act.put, List.getElem_toArray, List.getElem_cons_zero, List.getElem_cons_succ, List.setIfInBounds_toArray, List.set_cons_zero, List.set_cons_succ]
            refine wpAnyH_take (i := 5) (v := ?_) rfl (by kernel_rfl) (by kernel_rfl) (by kernel_rfl) (fun _ _ _ h => h) (Or.inl ⟨by rfl, ?_⟩) (by assumption) ?_
            rotate_left
            · (intro w hSw; (try dsimp only at hSw); go_simp; (try with_reducible rfl))
            simp only [Act.put, List.getElem_toArray, List.getElem_cons_zero, List.getElem_cons_succ, List.setIfInBounds_toArray, List.set_cons_zero, List.set_cons_succ]
            refine wpAnyH_take (i := 6) (v := ?_) rfl (by kernel_rfl) (by kernel_rfl) (by kernel_rfl) (fun _ _ _ h => h) (Or.inl ⟨by rfl, ?_⟩) (by assumption) ?_
            rotate_left
            · (intro w hSw; (try dsimp only at hSw); go_simp; (try with_reducible rfl))
            simp only [Act.put, List.getElem_toArray, List.getElem_cons_zero, List.getElem_cons_succ, List.setIfInBounds_toArray, List.set_cons_zero, List.set_cons_succ]
            refine wpAnyH_take (i := 7) (v := ?_) rfl (by kernel_rfl) (by kernel_rfl) (by kernel_rfl) (fun _ _ _ h => h) (Or.inl ⟨by rfl, ?_⟩) (by assumption) ?_
            rotate_left
            · (intro w hSw; (try dsimp only at hSw); obtain ⟨x0, x1⟩ := hSw.1.cells; go_simp; (try with_reducible rfl))
            simp only [Act.put, List.getElem_toArray, List.getElem_cons_zero, List.getElem_cons_succ, List.setIfInBounds_toArray, List.set_cons_zero, List.set_cons_succ]
            refine wpAnyH_take (i := 8) (v := ?_) rfl (by kernel_rfl) (by kernel_rfl) (by kernel_rfl) (fun _ _ _ h => h) (Or.inl ⟨by rfl, ?_⟩) (by assumption) ?_
            rotate_left
            · (intro w hSw; (try dsimp only at hSw); go_simp; (try with_reducible rfl))
            simp only [Act.put, List.getElem_toArray, List.getElem_cons_zero, List.getElem_cons_succ, List.setIfInBounds_toArray, List.set_cons_zero, List.set_cons_succ]
            refine wpAnyH_take (i := 9) (v := ?_) rfl (by kernel_rfl) (by kernel_rfl) (by kernel_rfl) (fun _ _ _ h => h) (Or.inl ⟨by rfl, ?_⟩) (by assumption) ?_
            rotate_left
            · (intro w hSw; (try dsimp only at hSw); go_simp; (try with_reducible rfl))
            simp only [Act.put, List.getElem_toArray, List.getElem_cons_zero, List.getElem_cons_succ, List.setIfInBounds_toArray, List.set_cons_zero, List.set_cons_succ]
            refine wpAnyH_take (i := 10) (v := ?_) rfl (by kernel_rfl) (by kernel_rfl) (by kernel_rfl) (fun _ _ _ h => h) (Or.inl ⟨by rfl, ?_⟩) (by assumption) ?_
            rotate_left
            · (intro w hSw; (try dsimp only at hSw); have xp := hSw.2.1.num hj6 hj4; go_simp; (try with_reducible rfl))
            simp only [Act.put, List.getElem_toArray, List.getElem_cons_zero, List.getElem_cons_succ, List.setIfInBounds_toArray, List.set_cons_zero, List.set_cons_succ]
            refine wpAnyH_take (i := 11) (v := ?_) rfl (by kernel_rfl) (by kernel_rfl) (by kernel_rfl) (fun _ _ _ h => h) (Or.inl ⟨by rfl, ?_⟩) (by assumption) ?_
            rotate_left
            · (intro w hSw; (try dsimp only at hSw); go_simp; (try with_reducible rfl))
            simp only [Act.put, List.getElem_toArray, List.getElem_cons_zero, List.getElem_cons_succ, List.setIfInBounds_toArray, List.set_cons_zero, List.set_cons_succ]
            refine wpAnyH_take (i := 12) (v := ?_) rfl (by kernel_rfl) (by kernel_rfl) (by kernel_rfl) (fun _ _ _ h => h) (Or.inl ⟨by rfl, ?_⟩) (by assumption) ?_
            rotate_left
            · (intro w hSw; (try dsimp only at hSw); obtain ⟨x0, x1⟩ := hSw.1.cells; go_simp; (try with_reducible rfl))
            simp only [Act.put, List.getElem_toArray, List.getElem_cons_zero, List.getElem_cons_succ, List.setIfInBounds_toArray, List.set_cons_zero, List.set_cons_succ]
            refine wpAnyH_ready (rs := [13]) (by kernel_rfl) (by simp) ?_
            refine AllReadyH.cons rfl (fun K hK => ?_) AllReadyH.nil
            rw [if_pos (by rfl)]
            go_simp
            ((with_reducible refine (qT _ ⟨_, HM2.out.num hj6 hj4⟩ (HM2.out.frozen j)).mono ?_); rintro e w' ⟨rfl, nn, w1, hnn, bq, hw⟩)
            have hm3 : numOk d = true → MgBlk w' g (setM M t d) := fun h => by rw [← hw, hnn (e9.symm.trans h)]; exact (HM2.out.below bq).setNum hj6 hj4 HT.out
            have hz3 : MgBlk w' w.heap.size zeroM := by rw [← hw]; exact (HZ2.out.below bq).far hgw j _
            have hs3 : FlBlk w' x t d ∧ PlBlk w' z g ∧ Below w.heap.size w w' := by rw [← hw]; exact ⟨(hHeld.1.below bq).far hxg j _, (hHeld.2.1.below bq).far hzg j _, (bch hHeld.2.2 bq).setCell (p := ⟨g, j, none⟩) hwg _⟩
            have HM3 := Lib.hid hm3; clear hm3
            have HZ3 := Lib.hid hz3; clear hz3
            clear hw hnn bq
            refine hK.out _ _ (hs3) (fun hHeld2 => ?_)
            clear hK K hHeld
            have hHeld := hHeld2; clear hHeld2
            refine wpAnyH_take (i := 14) (v := ?_) rfl (by kernel_rfl) (by kernel_rfl) (by kernel_rfl) (fun _ _ _ h => h) (Or.inl ⟨by rfl, ?_⟩) (by assumption) ?_
            rotate_left
            · (intro w hSw; (try dsimp only at hSw); go_simp; (try with_reducible rfl))
            simp only [Act.put, List.getElem_toArray, List.getElem_cons_zero, List.getElem_cons_succ, List.setIfInBounds_toArray, List.set_cons_zero, List.set_cons_succ]
            refine wpAnyH_take (i := 15) (v := ?_) rfl (by kernel_rfl) (by kernel_rfl) (by kernel_rfl) (fun _ _ _ h => h) (Or.inl ⟨by rfl, ?_⟩) (by assumption) ?_
            rotate_left
            · (intro w hSw; (try dsimp only at hSw); go_simp; (try with_reducible rfl))
            simp only [Act.put, List.getElem_toArray, List.getElem_cons_zero, List.getElem_cons_succ, List.setIfInBounds_toArray, List.set_cons_zero, List.set_cons_succ]
            refine wpAnyH_done (by kernel_rfl) ?_ _
            refine NoPanic.normal ?_
            have hz := HZ3.out
            have hb := hHeld.2.2
            clear hHeld
            obtain ⟨d0, d1, d2, d3, d4, d5⟩ := hz.cells
            simp only [zeroM, bemp] at d0 d1 d2 d3 d4 d5
            have f0 := hz.frozen 0
            have f1 := hz.frozen 1
            have f2 := hz.frozen 2
            have f3 := hz.frozen 3
            have f4 := hz.frozen 4
            have f5 := hz.frozen 5
            have HXE := Lib.hid hz; clear hz
            have HBE := Lib.hid hb; clear hb
            go_wp2_with fail
            have hfin := HXE.out.put zeroM
            obtain ⟨e0, e1, e2, e3, e4, e5⟩ := hfin.cells
            try simp only [zeroM, bemp] at e0 e1 e2 e3 e4 e5
            have hbf := below_msg6 HBE.out (Nat.le_refl _) zeroM
            try simp only [zeroM, bemp] at hbf
            refine bodyPost_ret (v := .tuple #[.agg #[.int .i64 0, .int .i64 0, .int .i64 0, .int .i64 0, .string ⟨#[]⟩, .int .i64 0], .bool false]) (by simp [results, Try.results26, go_sem, e0, e1, e2, e3, e4, e5]) rfl ⟨by rw [HR.out]; rfl, hbf⟩
          | true =>
            rw [e9] at qT
            have hok : okP v t d = true := by unfold okP; rw [HLV.out, decide_eq_true HLE.out]; rw [if_neg H5.out]; exact e9
            rw [hok] at HOKS
            clear hok HOKF
            refine wp_region_noPanic ?_
            refine wp_region_held_drew (S := (fun W => FlBlk W x t d ∧ PlBlk W z g ∧ Below w.heap.size w W)) (by kernel_rfl) (hs0.out) (fun hHeld => ?_)
            obtain ⟨V2, hV2⟩ : ∃ W, V.drew = W := ⟨_, rfl⟩
            have hm2 : MgBlk V2 g M := by rw [← hV2]; exact HMV.out.drew
            have hz2 : MgBlk V2 w.heap.size zeroM := by rw [← hV2]; exact HZV.out.drew
            rw [hV2] at hHeld ⊢
            clear hV2
            have HM2 := Lib.hid hm2; clear hm2
            have HZ2 := Lib.hid hz2; clear hz2
            refine wpAnyH_take (i := 0) (v := ?_) rfl (by kernel_rfl) (by kernel_rfl) (by kernel_rfl) (fun _ _ _ h => h) (Or.inl ⟨by rfl, ?_⟩) (by assumption) ?_
            rotate_left
            · (intro w hSw; (try dsimp only at hSw); go_simp; (try with_reducible rfl))
            simp only [Act.put, List.getElem_toArray, List.getElem_cons_zero, List.setIfInBounds_toArray, List.set_cons_zero, List.set_cons_succ]
            refine wpAnyH_take (i := 1) (v := ?_) rfl (by kernel_rfl) (by kernel_rfl) (by kernel_rfl) (fun _ _ _ h => h) (Or.inl ⟨by rfl, ?_⟩) (by assumption) ?_
            rotate_left
            · (intro w hSw; (try dsimp only at hSw); obtain ⟨x0, x1⟩ := hSw.1.cells; go_simp; (try with_reducible rfl))
            simp only [Act.put, List.getElem_toArray, List.getElem_cons_zero, List.getElem_cons_succ, List.setIfInBounds_toArray, List.set_cons_zero, List.set_cons_succ]
            refine wpAnyH_take (i := 2) (v := ?_) rfl (by kernel_rfl) (by kernel_rfl) (by kernel_rfl) (fun _ _ _ h => h) (Or.inl ⟨by rfl, ?_⟩) (by assumption) ?_
            rotate_left
            · (intro w hSw; (try dsimp only at hSw); go_simp; (try with_reducible rfl))
            simp only [Act.put, List.getElem_toArray, List.getElem_cons_zero, List.getElem_cons_succ, List.setIfInBounds_toArray, List.set_cons_zero, List.set_cons_succ]
            refine wpAnyH_ready (rs := [3]) (by kernel_rfl) (by simp) ?_
            refine AllReadyH.cons rfl (fun K hK => ?_) AllReadyH.nil
            rw [if_pos (by rfl)]
            go_simp
            ((with_reducible refine (qL _).mono ?_); rintro e w' ⟨rfl, rfl⟩)
            refine hK.out _ _ (hHeld) (fun hHeld2 => ?_)
            clear hK K hHeld
            have hHeld := hHeld2; clear hHeld2
            refine wpAnyH_take (i := 4) (v := ?_) rfl (by kernel_rfl) (by kernel_rfl) (by kernel_rfl) (fun _ _ _ h => h) (Or.inl ⟨by rfl, ?_⟩) (by assumption) ?_
            rotate_left
            · (intro w hSw; (try dsimp only at hSw); go_simp; (try with_reducible rfl))
            simp only [Act.put, List.getElem_toArray, List.getElem_cons_zero, List.getElem_cons_succ, List.setIfInBounds_toArray, List.set_cons_zero, List.set_cons_succ]
            refine wpAnyH_take (i := 5) (v := ?_) rfl (by kernel_rfl) (by kernel_rfl) (by kernel_rfl) (fun _ _ _ h => h) (Or.inl ⟨by rfl, ?_⟩) (by assumption) ?_
            rotate_left
            · (intro w hSw; (try dsimp only at hSw); go_simp; (try with_reducible rfl))
            simp only [Act.put, List.getElem_toArray, List.getElem_cons_zero, List.getElem_cons_succ, List.setIfInBounds_toArray, List.set_cons_zero, List.set_cons_succ]
            refine wpAnyH_take (i := 6) (v := ?_) rfl (by kernel_rfl) (by kernel_rfl) (by kernel_rfl) (fun _ _ _ h => h) (Or.inl ⟨by rfl, ?_⟩) (by assumption) ?_
            rotate_left
            · (intro w hSw; (try dsimp only at hSw); go_simp; (try with_reducible rfl))
            simp only [Act.put, List.getElem_toArray, List.getElem_cons_zero, List.getElem_cons_succ, List.setIfInBounds_toArray, List.set_cons_zero, List.set_cons_succ]
            refine wpAnyH_take (i := 7) (v := ?_) rfl (by kernel_rfl) (by kernel_rfl) (by kernel_rfl) (fun _ _ _ h => h) (Or.inl ⟨by rfl, ?_⟩) (by assumption) ?_
            rotate_left
            · (intro w hSw; (try dsimp only at hSw); obtain ⟨x0, x1⟩ := hSw.1.cells; go_simp; (try with_reducible rfl))
            simp only [Act.put, List.getElem_toArray, List.getElem_cons_zero, List.getElem_cons_succ, List.setIfInBounds_toArray, List.set_cons_zero, List.set_cons_succ]
            refine wpAnyH_take (i := 8) (v := ?_) rfl (by kernel_rfl) (by kernel_rfl) (by kernel_rfl) (fun _ _ _ h => h) (Or.inl ⟨by rfl, ?_⟩) (by assumption) ?_
            rotate_left
            · (intro w hSw; (try dsimp only at hSw); go_simp; (try with_reducible rfl))
            simp only [Act.put, List.getElem_toArray, List.getElem_cons_zero, List.getElem_cons_succ, List.setIfInBounds_toArray, List.set_cons_zero, List.set_cons_succ]
            refine wpAnyH_take (i := 9) (v := ?_) rfl (by kernel_rfl) (by kernel_rfl) (by kernel_rfl) (fun _ _ _ h => h) (Or.inl ⟨by rfl, ?_⟩) (by assumption) ?_
            rotate_left
            · (intro w hSw; (try dsimp only at hSw); go_simp; (try with_reducible rfl))
            simp only [Act.put, List.getElem_toArray, List.getElem_cons_zero, List.getElem_cons_succ, List.setIfInBounds_toArray, List.set_cons_zero, List.set_cons_succ]
            refine wpAnyH_take (i := 10) (v := ?_) rfl (by kernel_rfl) (by kernel_rfl) (by kernel_rfl) (fun _ _ _ h => h) (Or.inl ⟨by rfl, ?_⟩) (by assumption) ?_
            rotate_left
            · (intro w hSw; (try dsimp only at hSw); have xp := hSw.2.1.num hj6 hj4; go_simp; (try with_reducible rfl))
            simp only [Act.put, List.getElem_toArray, List.getElem_cons_zero, List.getElem_cons_succ, List.setIfInBounds_toArray, List.set_cons_zero, List.set_cons_succ]
            refine wpAnyH_take (i := 11) (v := ?_) rfl (by kernel_rfl) (by kernel_rfl) (by kernel_rfl) (fun _ _ _ h => h) (Or.inl ⟨by rfl, ?_⟩) (by assumption) ?_
            rotate_left
            · (intro w hSw; (try dsimp only at hSw); go_simp; (try with_reducible rfl))
            simp only [Act.put, List.getElem_toArray, List.getElem_cons_zero, List.getElem_cons_succ, List.setIfInBounds_toArray, List.set_cons_zero, List.set_cons_succ]
            refine wpAnyH_take (i := 12) (v := ?_) rfl (by kernel_rfl) (by kernel_rfl) (by kernel_rfl) (fun _ _ _ h => h) (Or.inl ⟨by rfl, ?_⟩) (by assumption) ?_
            rotate_left
            · (intro w hSw; (try dsimp only at hSw); obtain ⟨x0, x1⟩ := hSw.1.cells; go_simp; (try with_reducible rfl))
            simp only [Act.put, List.getElem_toArray, List.getElem_cons_zero, List.getElem_cons_succ, List.setIfInBounds_toArray, List.set_cons_zero, List.set_cons_succ]
            refine wpAnyH_ready (rs := [13]) (by kernel_rfl) (by simp) ?_
            refine AllReadyH.cons rfl (fun K hK => ?_) AllReadyH.nil
            rw [if_pos (by rfl)]
            go_simp
            ((with_reducible refine (qT _ ⟨_, HM2.out.num hj6 hj4⟩ (HM2.out.frozen j)).mono ?_); rintro e w' ⟨rfl, nn, w1, hnn, bq, hw⟩)
            have hm3 : numOk d = true → MgBlk w' g (setM M t d) := fun h => by rw [← hw, hnn (e9.symm.trans h)]; exact (HM2.out.below bq).setNum hj6 hj4 HT.out
            have hz3 : MgBlk w' w.heap.size zeroM := by rw [← hw]; exact (HZ2.out.below bq).far hgw j _
            have hs3 : FlBlk w' x t d ∧ PlBlk w' z g ∧ Below w.heap.size w w' := by rw [← hw]; exact ⟨(hHeld.1.below bq).far hxg j _, (hHeld.2.1.below bq).far hzg j _, (bch hHeld.2.2 bq).setCell (p := ⟨g, j, none⟩) hwg _⟩
            have HM3 := Lib.hid hm3; clear hm3
            have HZ3 := Lib.hid hz3; clear hz3
            clear hw hnn bq
            refine hK.out _ _ (hs3) (fun hHeld2 => ?_)
            clear hK K hHeld
            have hHeld := hHeld2; clear hHeld2
            refine wpAnyH_take (i := 14) (v := ?_) rfl (by kernel_rfl) (by kernel_rfl) (by kernel_rfl) (fun _ _ _ h => h) (Or.inl ⟨by rfl, ?_⟩) (by assumption) ?_
            rotate_left
            · (intro w hSw; (try dsimp only at hSw); go_simp; (try with_reducible rfl))
            simp only [Act.put, List.getElem_toArray, List.getElem_cons_zero, List.getElem_cons_succ, List.setIfInBounds_toArray, List.set_cons_zero, List.set_cons_succ]
            refine wpAnyH_take (i := 15) (v := ?_) rfl (by kernel_rfl) (by kernel_rfl) (by kernel_rfl) (fun _ _ _ h => h) (Or.inl ⟨by rfl, ?_⟩) (by assumption) ?_
            rotate_left
            · (intro w hSw; (try dsimp only at hSw); go_simp; (try with_reducible rfl))
            simp only [Act.put, List.getElem_toArray, List.getElem_cons_zero, List.getElem_cons_succ, List.setIfInBounds_toArray, List.set_cons_zero, List.set_cons_succ]
            refine wpAnyH_done (by kernel_rfl) ?_ _
            refine NoPanic.normal ?_
            have HMX := Lib.hid (HM3.out e9)
            have hpx := hHeld.2.1
            have hbx := hHeld.2.2
            have HPX := Lib.hid hpx
            have HBX := Lib.hid hbx
            clear hHeld hpx hbx
            go_wp2_with fail
            go_roundw
            case rel => exact ⟨k + 1, by omega, by go_num, by rw [HST.out]; exact HMX.out, HZ3.out, HPX.out, HOKS.out rfl, HBX.out⟩
            case measure => simp [intOf]; omega
      · have hL1 : decide (L < t) = true := decide_eq_true (by omega)
        have hok : okP v t d = false := by unfold okP; rw [HLV.out, decide_eq_false hle]; rfl
        have HR := Lib.hid (HOKF.out hok)
        clear hok HOKF HOKS hle
        refine wp_region_noPanic ?_
        refine wp_region_held_drew (S := (fun W => FlBlk W x t d ∧ PlBlk W z g ∧ Below w.heap.size w W)) (by kernel_rfl) (hs0.out) (fun hHeld => ?_)
        obtain ⟨V2, hV2⟩ : ∃ W, V.drew = W := ⟨_, rfl⟩
        have hm2 : MgBlk V2 g M := by rw [← hV2]; exact HMV.out.drew
        have hz2 : MgBlk V2 w.heap.size zeroM := by rw [← hV2]; exact HZV.out.drew
        rw [hV2] at hHeld ⊢
        clear hV2
        have HM2 := Lib.hid hm2; clear hm2
        have HZ2 := Lib.hid hz2; clear hz2
        refine wpAnyH_take (i := 0) (v := ?_) rfl (by kernel_rfl) (by kernel_rfl) (by kernel_rfl) (fun _ _ _ h => h) (Or.inl ⟨by rfl, ?_⟩) (by assumption) ?_
        rotate_left
        · (intro w hSw; (try dsimp only at hSw); go_simp; (try with_reducible rfl))
        simp only [Act.put, List.getElem_toArray, List.getElem_cons_zero, List.setIfInBounds_toArray, List.set_cons_zero, List.set_cons_succ]
        refine wpAnyH_take (i := 1) (v := ?_) rfl (by kernel_rfl) (by kernel_rfl) (by kernel_rfl) (fun _ _ _ h => h) (Or.inl ⟨by rfl, ?_⟩) (by assumption) ?_
        rotate_left
        · (intro w hSw; (try dsimp only at hSw); obtain ⟨x0, x1⟩ := hSw.1.cells; go_simp; (try with_reducible rfl))
        simp only [Act.put, List.getElem_toArray, List.getElem_cons_zero, List.getElem_cons_succ, List.setIfInBounds_toArray, List.set_cons_zero, List.set_cons_succ]
        refine wpAnyH_take (i := 2) (v := ?_) rfl (by kernel_rfl) (by kernel_rfl) (by kernel_rfl) (fun _ _ _ h => h) (Or.inl ⟨by rfl, ?_⟩) (by assumption) ?_
        rotate_left
        · (intro w hSw; (try dsimp only at hSw); go_simp; (try with_reducible rfl))
        simp only [Act.put, List.getElem_toArray, List.getElem_cons_zero, List.getElem_cons_succ, List.setIfInBounds_toArray, List.set_cons_zero, List.set_cons_succ]
        refine wpAnyH_ready (rs := [3]) (by kernel_rfl) (by simp) ?_
        refine AllReadyH.cons rfl (fun K hK => ?_) AllReadyH.nil
        rw [if_pos (by rfl)]
        go_simp
        ((with_reducible refine (qL _).mono ?_); rintro e w' ⟨rfl, rfl⟩)
        refine hK.out _ _ (hHeld) (fun hHeld2 => ?_)
        clear hK K hHeld
        have hHeld := hHeld2; clear hHeld2
        refine wpAnyH_take (i := 4) (v := ?_) rfl (by kernel_rfl) (by kernel_rfl) (by kernel_rfl) (fun _ _ _ h => h) (Or.inl ⟨by rfl, ?_⟩) (by assumption) ?_
        rotate_left
        · (intro w hSw; (try dsimp only at hSw); go_simp; (try with_reducible rfl))
        simp only [Act.put, List.getElem_toArray, List.getElem_cons_zero, List.getElem_cons_succ, List.setIfInBounds_toArray, List.set_cons_zero, List.set_cons_succ]
        refine wpAnyH_take (i := 5) (v := ?_) rfl (by kernel_rfl) (by kernel_rfl) (by kernel_rfl) (fun _ _ _ h => h) (Or.inl ⟨by rfl, ?_⟩) (by assumption) ?_
        rotate_left
        · (intro w hSw; (try dsimp only at hSw); go_simp; (try with_reducible rfl))
        simp only [Act.put, List.getElem_toArray, List.getElem_cons_zero, List.getElem_cons_succ, List.setIfInBounds_toArray, List.set_cons_zero, List.set_cons_succ]
        refine wpAnyH_take (i := 6) (v := undef) rfl (by kernel_rfl) (by kernel_rfl) (by kernel_rfl) (fun _ _ _ h => h) (Or.inr ⟨by rfl, rfl⟩) (by assumption) ?_
        simp only [Act.put, List.getElem_toArray, List.getElem_cons_zero, List.getElem_cons_succ, List.setIfInBounds_toArray, List.set_cons_zero, List.set_cons_succ]
        refine wpAnyH_take (i := 7) (v := undef) rfl (by kernel_rfl) (by kernel_rfl) (by kernel_rfl) (fun _ _ _ h => h) (Or.inr ⟨by rfl, rfl⟩) (by assumption) ?_
        simp only [Act.put, List.getElem_toArray, List.getElem_cons_zero, List.getElem_cons_succ, List.setIfInBounds_toArray, List.set_cons_zero, List.set_cons_succ]
        refine wpAnyH_take (i := 8) (v := undef) rfl (by kernel_rfl) (by kernel_rfl) (by kernel_rfl) (fun _ _ _ h => h) (Or.inr ⟨by rfl, rfl⟩) (by assumption) ?_
        simp only [Act.put, List.getElem_toArray, List.getElem_cons_zero, List.getElem_cons_succ, List.setIfInBounds_toArray, List.set_cons_zero, List.set_cons_succ]
        refine wpAnyH_take (i := 9) (v := undef) rfl (by kernel_rfl) (by kernel_rfl) (by kernel_rfl) (fun _ _ _ h => h) (Or.inr ⟨by rfl, rfl⟩) (by assumption) ?_
        simp only [Act.put, List.getElem_toArray, List.getElem_cons_zero, List.getElem_cons_succ, List.setIfInBounds_toArray, List.set_cons_zero, List.set_cons_succ]
        refine wpAnyH_take (i := 10) (v := undef) rfl (by kernel_rfl) (by kernel_rfl) (by kernel_rfl) (fun _ _ _ h => h) (Or.inr ⟨by rfl, rfl⟩) (by assumption) ?_
        simp only [Act.put, List.getElem_toArray, List.getElem_cons_zero, List.getElem_cons_succ, List.setIfInBounds_toArray, List.set_cons_zero, List.set_cons_succ]
        refine wpAnyH_take (i := 11) (v := undef) rfl (by kernel_rfl) (by kernel_rfl) (by kernel_rfl) (fun _ _ _ h => h) (Or.inr ⟨by rfl, rfl⟩) (by assumption) ?_
        simp only [Act.put, List.getElem_toArray, List.getElem_cons_zero, List.getElem_cons_succ, List.setIfInBounds_toArray, List.set_cons_zero, List.set_cons_succ]
        refine wpAnyH_take (i := 12) (v := undef) rfl (by kernel_rfl) (by kernel_rfl) (by kernel_rfl) (fun _ _ _ h => h) (Or.inr ⟨by rfl, rfl⟩) (by assumption) ?_
        simp only [Act.put, List.getElem_toArray, List.getElem_cons_zero, List.getElem_cons_succ, List.setIfInBounds_toArray, List.set_cons_zero, List.set_cons_succ]
        refine wpAnyH_take (i := 13) (v := undef) rfl (by kernel_rfl) (by kernel_rfl) (by kernel_rfl) (fun _ _ _ h => h) (Or.inr ⟨by rfl, rfl⟩) (by assumption) ?_
        simp only [Act.put, List.getElem_toArray, List.getElem_cons_zero, List.getElem_cons_succ, List.setIfInBounds_toArray, List.set_cons_zero, List.set_cons_succ]
        refine wpAnyH_take (i := 14) (v := undef) rfl (by kernel_rfl) (by kernel_rfl) (by kernel_rfl) (fun _ _ _ h => h) (Or.inr ⟨by rfl, rfl⟩) (by assumption) ?_
        simp only [Act.put, List.getElem_toArray, List.getElem_cons_zero, List.getElem_cons_succ, List.setIfInBounds_toArray, List.set_cons_zero, List.set_cons_succ]
        refine wpAnyH_take (i := 15) (v := ?_) rfl (by kernel_rfl) (by kernel_rfl) (by kernel_rfl) (fun _ _ _ h => h) (Or.inl ⟨by rfl, ?_⟩) (by assumption) ?_
        rotate_left
        · (intro w hSw; (try dsimp only at hSw); go_simp; (try with_reducible rfl))
        simp only [Act.put, List.getElem_toArray, List.getElem_cons_zero, List.getElem_cons_succ, List.setIfInBounds_toArray, List.set_cons_zero, List.set_cons_succ]
        refine wpAnyH_done (by kernel_rfl) ?_ _
        refine NoPanic.normal ?_
        have hz := HZ2.out
        have hb := hHeld.2.2
        clear hHeld
        obtain ⟨d0, d1, d2, d3, d4, d5⟩ := hz.cells
        simp only [zeroM, bemp] at d0 d1 d2 d3 d4 d5
        have f0 := hz.frozen 0
        have f1 := hz.frozen 1
        have f2 := hz.frozen 2
        have f3 := hz.frozen 3
        have f4 := hz.frozen 4
        have f5 := hz.frozen 5
        have HXE := Lib.hid hz; clear hz
        have HBE := Lib.hid hb; clear hb
        go_wp2_with fail
        have hfin := HXE.out.put zeroM
        obtain ⟨e0, e1, e2, e3, e4, e5⟩ := hfin.cells
        try simp only [zeroM, bemp] at e0 e1 e2 e3 e4 e5
        have hbf := below_msg6 HBE.out (Nat.le_refl _) zeroM
        try simp only [zeroM, bemp] at hbf
        refine bodyPost_ret (v := .tuple #[.agg #[.int .i64 0, .int .i64 0, .int .i64 0, .int .i64 0, .string ⟨#[]⟩, .int .i64 0], .bool false]) (by simp [results, Try.results26, go_sem, e0, e1, e2, e3, e4, e5]) rfl ⟨by rw [HR.out]; rfl, hbf⟩
    · have hke : n = k := by omega
      subst hke
      have htk : fs.take n = fs := List.take_of_length_le (by have := HNL.out; omega)
      have HR : Hid (R = true) := by show R = true; rw [← HRR.out, ← htk]; exact hal.out
      rw [htk] at hm
      generalize accM fs = M at *
      obtain ⟨x0, x1, x2, x3, x4, x5⟩ := hm.cells
      clear htk hm hal hp
      obtain ⟨d0, d1, d2, d3, d4, d5⟩ := hz.cells
      simp only [zeroM, bemp] at d0 d1 d2 d3 d4 d5
      have f0 := hz.frozen 0
      have f1 := hz.frozen 1
      have f2 := hz.frozen 2
      have f3 := hz.frozen 3
      have f4 := hz.frozen 4
      have f5 := hz.frozen 5
      have HXE := Lib.hid hz; clear hz
      have HBE := Lib.hid hb; clear hb
      go_wp2_with fail
      have hfin := HXE.out.put M
      obtain ⟨e0, e1, e2, e3, e4, e5⟩ := hfin.cells
      try simp only [zeroM, bemp] at e0 e1 e2 e3 e4 e5
      have hbf := below_msg6 HBE.out (Nat.le_refl _) M
      try simp only [zeroM, bemp] at hbf
      refine bodyPost_ret (v := .tuple #[.agg #[.int .i64 M.kind, .int .i64 M.frm, .int .i64 M.to, .int .i64 M.seq, .string M.body, .int .i64 M.trace], .bool true]) (by simp [results, Try.results26, go_sem, e0, e1, e2, e3, e4, e5]) rfl ⟨by rw [HR.out]; rfl, hbf⟩
end Go.Proofs.Ytjdpihppniibjaa
