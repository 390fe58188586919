import Derived.Test.YtfnkgldfgciplaaDoorNegoSix
import Derived.Test.YtfnkgldfgciplaaDoorGMath
/-
  What is asked of the program's hellos is so (stage 9): Right, Of (over the table of what binaries know), featBy, Agree.
-/
namespace Go.Proofs.YtfnkgldfgciplaaDoor
open Go.RowKit
set_option linter.unusedVariables false
set_option linter.unusedSimpArgs false

set_option maxRecDepth 100000 in
set_option maxHeartbeats 2000000 in
theorem right9_any (m : Hl) (w : World) : Calls Tryd.prog 12 #[.agg #[.int .i64 m.low, .int .i64 m.high, .int .i64 m.feat]] w fun e w' => e = .returned (.bool (rightH m)) ∧ Below w.heap.size w w' := by
  obtain ⟨l, u, f⟩ := m
  simp only
  have hc := (HlBlk.new w ⟨l, u, f⟩).cells
  simp only at hc
  obtain ⟨c0, c1, c2⟩ := hc
  by_cases h0 : 1 ≤ l
  rotate_left
  · have E : Hid (rightH ⟨l, u, f⟩ = false) := rightH_no (fun h => by have := (rH _ _ _).1 h; omega)
    go_enter Tryd.func12, Tryd.ntmps12
    go_wp2_with fail
    go_ret
    exact ⟨ret_bool E.out.symm, (Below.refl _ _).alloc (Nat.le_refl _) _⟩
  by_cases h1 : l ≤ u
  rotate_left
  · have E : Hid (rightH ⟨l, u, f⟩ = false) := rightH_no (fun h => by have := (rH _ _ _).1 h; omega)
    go_enter Tryd.func12, Tryd.ntmps12
    go_wp2_with fail
    go_ret
    exact ⟨ret_bool E.out.symm, (Below.refl _ _).alloc (Nat.le_refl _) _⟩
  by_cases h2 : u ≤ 2
  rotate_left
  · have E : Hid (rightH ⟨l, u, f⟩ = false) := rightH_no (fun h => by have := (rH _ _ _).1 h; omega)
    go_enter Tryd.func12, Tryd.ntmps12
    go_wp2_with fail
    go_ret
    exact ⟨ret_bool E.out.symm, (Below.refl _ _).alloc (Nat.le_refl _) _⟩
  by_cases h3 : 0 ≤ f
  rotate_left
  · have E : Hid (rightH ⟨l, u, f⟩ = false) := rightH_no (fun h => by have := (rH _ _ _).1 h; omega)
    go_enter Tryd.func12, Tryd.ntmps12
    go_wp2_with fail
    go_ret
    exact ⟨ret_bool E.out.symm, (Below.refl _ _).alloc (Nat.le_refl _) _⟩
  by_cases h4 : f ≤ 1048575
  rotate_left
  · have E : Hid (rightH ⟨l, u, f⟩ = false) := rightH_no (fun h => by have := (rH _ _ _).1 h; omega)
    go_enter Tryd.func12, Tryd.ntmps12
    go_wp2_with fail
    go_ret
    exact ⟨ret_bool E.out.symm, (Below.refl _ _).alloc (Nat.le_refl _) _⟩
  have E : Hid (rightH ⟨l, u, f⟩ = true) := rightH_iff.2 ((rH _ _ _).2 (by omega))
  go_enter Tryd.func12, Tryd.ntmps12
  go_wp2_with fail
  go_ret
  exact ⟨ret_bool E.out.symm, (Below.refl _ _).alloc (Nat.le_refl _) _⟩
theorem rightN : RightN := fun h _ w => right9_any h w

/-- Features by version. -/
theorem i64_andNot (F : Nat) (hF : F < 1048576) : bits .andNot .i64 (F : Int) (1048568 : Int) = ((F % 8 : Nat) : Int) := by
  show IntKind.i64.wrap ((BitVec.ofInt 64 (F : Int) &&& ~~~ BitVec.ofInt 64 (1048568 : Int)).toNat : Int) = _
  have h : (BitVec.ofInt 64 (F : Int) &&& ~~~ BitVec.ofInt 64 (1048568 : Int)).toNat = F % 8 := by
    rw [BitVec.ofInt_natCast, show BitVec.ofInt 64 (1048568 : Int) = BitVec.ofNat 64 1048568 from rfl]
    have e : BitVec.ofNat 64 F &&& ~~~ BitVec.ofNat 64 1048568 = BitVec.ofNat 64 F &&& BitVec.ofNat 64 7 := by
      refine BitVec.eq_of_getLsbD_eq fun i hi => ?_
      simp only [BitVec.getLsbD_and, BitVec.getLsbD_not, BitVec.getLsbD_ofNat, hi, decide_true, Bool.true_and]
      by_cases h20 : i < 20
      · have : ∀ j : Fin 20, ((!Nat.testBit 1048568 j.val) = Nat.testBit 7 j.val) := by decide
        rw [this ⟨i, h20⟩]
      · rw [Nat.testBit_lt_two_pow (Nat.lt_of_lt_of_le hF (Nat.pow_le_pow_right (n := 2) (by omega) (by omega : 20 ≤ i)))]
        simp
    rw [e, BitVec.toNat_and, BitVec.toNat_ofNat, BitVec.toNat_ofNat, Nat.mod_eq_of_lt (by omega : F < 2 ^ 64), mod8]
  rw [h, IntKind.wrap_i64]
  omega
set_option maxRecDepth 100000 in
set_option maxHeartbeats 2000000 in
theorem featby_one (F : Nat) (hF : F < 1048576) (w : World) : Calls Tryd.prog 17 #[.int .i64 1, .int .i64 (F : Int)] w fun e w' => e = .returned (.int .i64 ((F % 8 : Nat) : Int)) ∧ w' = w := by
  have h := i64_andNot F hF
  generalize ((F % 8 : Nat) : Int) = G at h ⊢
  clear hF
  go_enter Tryd.func17, Tryd.ntmps17
  go_wp2_with fail
  go_ret
  exact ⟨rfl, rfl⟩
set_option maxRecDepth 100000 in
set_option maxHeartbeats 2000000 in
theorem featby_two (F : Nat) (w : World) : Calls Tryd.prog 17 #[.int .i64 2, .int .i64 (F : Int)] w fun e w' => e = .returned (.int .i64 (F : Int)) ∧ w' = w := by
  go_enter Tryd.func17, Tryd.ntmps17
  go_wp2_with fail
  go_ret
  exact ⟨rfl, rfl⟩

theorem Knw.has {w : World} (hk : Knw w) {b : Nat} {l u f : Int} (h : (b = 0 ∧ l = 0 ∧ u = 0 ∧ f = 0) ∨ (b = 1 ∧ l = 1 ∧ u = 1 ∧ f = 7) ∨ (b = 2 ∧ l = 1 ∧ u = 2 ∧ f = 1048575)) :
    w.cell? ⟨0, b * 3, none⟩ = some (.int .i64 l) ∧ w.cell? ⟨0, b * 3 + 1, none⟩ = some (.int .i64 u) ∧ w.cell? ⟨0, b * 3 + 2, none⟩ = some (.int .i64 f) := by
  rcases h with ⟨rfl, rfl, rfl, rfl⟩ | ⟨rfl, rfl, rfl, rfl⟩ | ⟨rfl, rfl, rfl, rfl⟩ <;> exact ⟨hk.cell _, hk.cell _, hk.cell _⟩
set_option maxRecDepth 100000 in
set_option maxHeartbeats 2000000 in
theorem of9_none (b l : Int) (hb : b < 0 ∨ 3 ≤ b) (w : World) : Calls Tryd.prog 14 #[.int .i64 b, .int .i64 l] w fun e w' => e = .returned (hlV (ofH b l)) ∧ Below w.heap.size w w' := by
  have E : Hid (⟨0, 0, 0⟩ = ofH b l) := by show _ = _; unfold ofH; rw [if_neg (by omega), if_neg (by omega)]
  have hb0 : Below w.heap.size w (w.alloc (.cells #[.int .i64 0, .int .i64 0, .int .i64 0] 23)) := (Below.refl _ _).alloc (Nat.le_refl _) _
  have hx0 := HlBlk.new w ⟨0, 0, 0⟩
  simp only at hx0
  obtain ⟨W0, hW0⟩ : ∃ W, w.alloc (.cells #[.int .i64 0, .int .i64 0, .int .i64 0] 23) = W := ⟨_, rfl⟩
  rw [hW0] at hb0 hx0
  obtain ⟨x0, x1, x2⟩ := hx0.cells
  simp only at x0 x1 x2
  have f0 := hx0.frozen 0
  have f1 := hx0.frozen 1
  have f2 := hx0.frozen 2
  have HX := Lib.hid hx0; clear hx0
  have HB := Lib.hid hb0; clear hb0
  by_cases h1 : b < 0
  · clear hb
    go_enter Tryd.func14, Tryd.ntmps14
    go_wp2_with fail
    have hfin := HX.out.put ⟨0, 0, 0⟩
    have hbf := ((HB.out.setCell (p := ⟨w.heap.size, 0, none⟩) (Nat.le_refl _) (.int .i64 0)).setCell (p := ⟨w.heap.size, 1, none⟩) (Nat.le_refl _) (.int .i64 0)).setCell (p := ⟨w.heap.size, 2, none⟩) (Nat.le_refl _) (.int .i64 0)
    obtain ⟨e0, e1, e2⟩ := hfin.cells
    simp only at e0 e1 e2
    refine bodyPost_ret (v := hlV (ofH b l)) (by rw [← E.out]; simp [hlV, results, Tryd.results14, go_sem, e0, e1, e2]) rfl ⟨rfl, hbf⟩
  · have h3 : 3 ≤ b := by omega
    clear hb
    go_enter Tryd.func14, Tryd.ntmps14
    go_wp2_with fail
    have hfin := HX.out.put ⟨0, 0, 0⟩
    have hbf := ((HB.out.setCell (p := ⟨w.heap.size, 0, none⟩) (Nat.le_refl _) (.int .i64 0)).setCell (p := ⟨w.heap.size, 1, none⟩) (Nat.le_refl _) (.int .i64 0)).setCell (p := ⟨w.heap.size, 2, none⟩) (Nat.le_refl _) (.int .i64 0)
    obtain ⟨e0, e1, e2⟩ := hfin.cells
    simp only at e0 e1 e2
    refine bodyPost_ret (v := hlV (ofH b l)) (by rw [← E.out]; simp [hlV, results, Tryd.results14, go_sem, e0, e1, e2]) rfl ⟨rfl, hbf⟩

set_option maxRecDepth 100000 in
set_option maxHeartbeats 2000000 in
theorem of9_some (b : Nat) (l p q r : Int) (hb : b < 3) (w : World) (hk : Knw w) (h : (b = 0 ∧ p = 0 ∧ q = 0 ∧ r = 0) ∨ (b = 1 ∧ p = 1 ∧ q = 1 ∧ r = 7) ∨ (b = 2 ∧ p = 1 ∧ q = 2 ∧ r = 1048575)) :
    Calls Tryd.prog 14 #[.int .i64 (b : Int), .int .i64 l] w fun e w' => e = .returned (hlV (if l = 2 then ⟨q, q, r⟩ else ⟨p, q, r⟩)) ∧ Below w.heap.size w w' := by
  have hb0 : Below w.heap.size w (w.alloc (.cells #[.int .i64 0, .int .i64 0, .int .i64 0] 23)) := (Below.refl _ _).alloc (Nat.le_refl _) _
  have hx0 := HlBlk.new w ⟨0, 0, 0⟩
  have hk0 := hk.below hb0
  simp only at hx0
  obtain ⟨W0, hW0⟩ : ∃ W, w.alloc (.cells #[.int .i64 0, .int .i64 0, .int .i64 0] 23) = W := ⟨_, rfl⟩
  have hs : W0.heap.size = w.heap.size + 1 := by rw [← hW0, World.size_alloc]
  rw [hW0] at hb0 hx0 hk0
  obtain ⟨k0, k1, k2⟩ := hk0.has h
  have HH := Lib.hid h; clear h
  have HX := Lib.hid hx0; clear hx0
  have HB := Lib.hid hb0; clear hb0
  have HS := Lib.hid hs; clear hs
  have j0 : (0 : Int) ≤ (b : Int) := by omega
  have j1 : (b : Int) < (3 : Int) := by omega
  obtain ⟨R, hR⟩ : ∃ R : Hl, (if l = 2 then ⟨q, q, r⟩ else ⟨p, q, r⟩) = R := ⟨_, rfl⟩
  rw [hR]
  have HR := Lib.hid hR; clear hR
  clear hk hk0
  go_enter Tryd.func14, Tryd.ntmps14
  go_upto_region 4 with fail
  clear k0 k1 k2
  have hb := HB.out.alloc (by have := HS.out; omega) (.cells #[.int .i64 p, .int .i64 q, .int .i64 r] 23)
  have hx := HX.out.below ((Below.refl _ _).alloc (Nat.le_refl _) (.cells #[.int .i64 p, .int .i64 q, .int .i64 r] 23))
  have hg := HlBlk.new W0 ⟨p, q, r⟩
  simp only at hg
  obtain ⟨V, hV⟩ : ∃ W, W0.alloc (.cells #[.int .i64 p, .int .i64 q, .int .i64 r] 23) = W := ⟨_, rfl⟩
  rw [hV] at hb hx hg ⊢
  clear hV
  have hne : W0.heap.size ≠ w.heap.size := by have := HS.out; omega
  have hle : w.heap.size ≤ W0.heap.size := by have := HS.out; omega
  clear hW0
  clear HS HX HB
  generalize W0.heap.size = g at *
  have HN := Lib.hid hne; clear hne
  have HL := Lib.hid hle; clear hle
  have HXa := Lib.hid hx; clear hx
  have HBa := Lib.hid hb; clear hb
  have HGa := Lib.hid hg; clear hg
  by_cases hl : l = 2
  · have m1 : (l == 2) = true := by simpa using hl
    obtain rfl : R = ⟨q, q, r⟩ := by have := HR.out; rw [if_pos hl] at this; exact this.symm
    clear hl
    obtain ⟨c0, c1, c2⟩ := HGa.out.cells
    simp only at c0 c1 c2
    have f0 := HGa.out.frozen 0
    go_upto_region 6 with fail
    have hb := HBa.out.setCell (p := ⟨g, 0, none⟩) HL.out (.int .i64 q)
    have hx := HXa.out.far (Ne.symm HN.out) 0 (.int .i64 q)
    have hg : HlBlk (V.setCell ⟨g, 0, none⟩ (.int .i64 q)) g ⟨q, q, r⟩ := heap_setCell_same _ g 0 _ _ _ HGa.out
    obtain ⟨V2, hV2⟩ : ∃ W, V.setCell ⟨g, 0, none⟩ (.int .i64 q) = W := ⟨_, rfl⟩
    rw [hV2] at hb hx hg ⊢
    clear hV2 c0 c1 c2 f0 HXa HBa HGa
    have HXb := Lib.hid hx; clear hx
    have HBb := Lib.hid hb; clear hb
    have HGb := Lib.hid hg; clear hg
    obtain ⟨c0, c1, c2⟩ := HGb.out.cells
    simp only at c0 c1 c2
    obtain ⟨x0, x1, x2⟩ := HXb.out.cells
    simp only at x0 x1 x2
    have f0 := HXb.out.frozen 0
    have f1 := HXb.out.frozen 1
    have f2 := HXb.out.frozen 2
    go_wp2_with fail
    have hfin := HXb.out.put ⟨q, q, r⟩
    have hbf := ((HBb.out.setCell (p := ⟨w.heap.size, 0, none⟩) (Nat.le_refl _) (.int .i64 q)).setCell (p := ⟨w.heap.size, 1, none⟩) (Nat.le_refl _) (.int .i64 q)).setCell (p := ⟨w.heap.size, 2, none⟩) (Nat.le_refl _) (.int .i64 r)
    obtain ⟨e0, e1, e2⟩ := hfin.cells
    simp only at e0 e1 e2
    refine bodyPost_ret (v := hlV ⟨q, q, r⟩) (by simp [hlV, results, Tryd.results14, go_sem, e0, e1, e2]) rfl ⟨rfl, hbf⟩
  · have m1 : (l == 2) = false := by simpa using hl
    obtain rfl : R = ⟨p, q, r⟩ := by have := HR.out; rw [if_neg hl] at this; exact this.symm
    clear hl
    obtain ⟨c0, c1, c2⟩ := HGa.out.cells
    simp only at c0 c1 c2
    obtain ⟨x0, x1, x2⟩ := HXa.out.cells
    simp only at x0 x1 x2
    have f0 := HXa.out.frozen 0
    have f1 := HXa.out.frozen 1
    have f2 := HXa.out.frozen 2
    go_wp2_with fail
    have hfin := HXa.out.put ⟨p, q, r⟩
    have hbf := ((HBa.out.setCell (p := ⟨w.heap.size, 0, none⟩) (Nat.le_refl _) (.int .i64 p)).setCell (p := ⟨w.heap.size, 1, none⟩) (Nat.le_refl _) (.int .i64 q)).setCell (p := ⟨w.heap.size, 2, none⟩) (Nat.le_refl _) (.int .i64 r)
    obtain ⟨e0, e1, e2⟩ := hfin.cells
    simp only at e0 e1 e2
    refine bodyPost_ret (v := hlV ⟨p, q, r⟩) (by simp [hlV, results, Tryd.results14, go_sem, e0, e1, e2]) rfl ⟨rfl, hbf⟩
theorem ofN : OfN := by
  intro b l hb hl w hk
  by_cases h : b < 0 ∨ 3 ≤ b
  · exact of9_none b l h w
  · obtain ⟨n, rfl⟩ : ∃ n : Nat, b = n := ⟨b.toNat, by omega⟩
    have hn : n < 3 := by omega
    rcases (by omega : n = 0 ∨ n = 1 ∨ n = 2) with rfl | rfl | rfl
    · have k := of9_some 0 l 0 0 0 (by omega) w hk (.inl ⟨rfl, rfl, rfl, rfl⟩)
      have e : (if l = 2 then (⟨0, 0, 0⟩ : Hl) else ⟨0, 0, 0⟩) = ofH ((0 : Nat) : Int) l := by unfold ofH; by_cases hl : l = 2 <;> simp [hl]
      rw [e] at k; exact k
    · have k := of9_some 1 l 1 1 7 (by omega) w hk (.inr (.inl ⟨rfl, rfl, rfl, rfl⟩))
      have e : (if l = 2 then (⟨1, 1, 7⟩ : Hl) else ⟨1, 1, 7⟩) = ofH ((1 : Nat) : Int) l := by unfold ofH; by_cases hl : l = 2 <;> simp [hl]
      rw [e] at k; exact k
    · have k := of9_some 2 l 1 2 1048575 (by omega) w hk (.inr (.inr ⟨rfl, rfl, rfl, rfl⟩))
      have e : (if l = 2 then (⟨2, 2, 1048575⟩ : Hl) else ⟨1, 2, 1048575⟩) = ofH ((2 : Nat) : Int) l := by unfold ofH; by_cases hl : l = 2 <;> simp [hl]
      rw [e] at k; exact k

set_option maxRecDepth 100000 in
set_option maxHeartbeats 4000000 in
theorem agree9_any (a b : Hl) (w : World) : Calls Tryd.prog 10 #[.agg #[.int .i64 a.low, .int .i64 a.high, .int .i64 a.feat], .agg #[.int .i64 b.low, .int .i64 b.high, .int .i64 b.feat]] w fun e w' => e = .returned (.tuple #[.agg #[.int .i64 (agH a b).1, .int .i64 (agH a b).2.1], .int .i64 (agH a b).2.2]) ∧ Below w.heap.size w w' := by
  have qa := fun W => right9_any a W
  have qb := fun W => right9_any b W
  have hb0 : Below w.heap.size w (((w.alloc (.cells #[.int .i64 a.low, .int .i64 a.high, .int .i64 a.feat] 23)).alloc (.cells #[.int .i64 b.low, .int .i64 b.high, .int .i64 b.feat] 23)).alloc (.cells #[.int .i64 0, .int .i64 0] 30)) := (((Below.refl _ _).alloc (Nat.le_refl _) _).alloc (by simp) _).alloc (by simp; omega) _
  have hp0 : HlBlk (((w.alloc (.cells #[.int .i64 a.low, .int .i64 a.high, .int .i64 a.feat] 23)).alloc (.cells #[.int .i64 b.low, .int .i64 b.high, .int .i64 b.feat] 23)).alloc (.cells #[.int .i64 0, .int .i64 0] 30)) w.heap.size a := ((HlBlk.new w a).below ((Below.refl _ _).alloc (Nat.le_refl _) _)).below ((Below.refl _ _).alloc (Nat.le_refl _) _)
  have hq0 : HlBlk (((w.alloc (.cells #[.int .i64 a.low, .int .i64 a.high, .int .i64 a.feat] 23)).alloc (.cells #[.int .i64 b.low, .int .i64 b.high, .int .i64 b.feat] 23)).alloc (.cells #[.int .i64 0, .int .i64 0] 30)) (w.heap.size + 1) b := by
    have h := HlBlk.new (w.alloc (.cells #[.int .i64 a.low, .int .i64 a.high, .int .i64 a.feat] 23)) b
    rw [World.size_alloc] at h
    exact h.below ((Below.refl _ _).alloc (Nat.le_refl _) _)
  have hd0 : DlBlk (((w.alloc (.cells #[.int .i64 a.low, .int .i64 a.high, .int .i64 a.feat] 23)).alloc (.cells #[.int .i64 b.low, .int .i64 b.high, .int .i64 b.feat] 23)).alloc (.cells #[.int .i64 0, .int .i64 0] 30)) (w.heap.size + 2) 0 0 := by
    have h := DlBlk.new ((w.alloc (.cells #[.int .i64 a.low, .int .i64 a.high, .int .i64 a.feat] 23)).alloc (.cells #[.int .i64 b.low, .int .i64 b.high, .int .i64 b.feat] 23)) 0 0
    rw [World.size_alloc, World.size_alloc] at h
    exact h
  obtain ⟨W0, hW0⟩ : ∃ W, ((w.alloc (.cells #[.int .i64 a.low, .int .i64 a.high, .int .i64 a.feat] 23)).alloc (.cells #[.int .i64 b.low, .int .i64 b.high, .int .i64 b.feat] 23)).alloc (.cells #[.int .i64 0, .int .i64 0] 30) = W := ⟨_, rfl⟩
  rw [hW0] at hb0 hp0 hq0 hd0
  have HB0 := Lib.hid hb0; clear hb0
  have HP0 := Lib.hid hp0; clear hp0
  have HQ0 := Lib.hid hq0; clear hq0
  have HD0 := Lib.hid hd0; clear hd0
  obtain ⟨p0, p1, p2⟩ := HP0.out.cells
  cases hra : rightH a with
  | false =>
    rw [hra] at qa
    have hno : agH a b = (0, 0, 1) := ag_no (fun h => by rw [rightH_iff.2 h.1] at hra; cases hra)
    rw [hno]
    clear hra hno qb
    go_enter Tryd.func10, Tryd.ntmps10
    go_wp2_with fail
    ((with_reducible refine (qa _).mono ?_); rintro e W1 ⟨rfl, b1⟩)
    clear p0 p1 p2 hW0
    have HD1 := Lib.hid (HD0.out.below b1)
    have HB1 := Lib.hid (bch HB0.out b1)
    clear b1
    obtain ⟨d0, d1⟩ := HD1.out.cells
    have f0 := HD1.out.frozen 0
    have f1 := HD1.out.frozen 1
    go_wp2_with fail
    have hfin := HD1.out.put 0 0
    have hbf := (HB1.out.setCell (p := ⟨w.heap.size + 2, 0, none⟩) (by show w.heap.size ≤ w.heap.size + 2; omega) (.int .i64 (0 : Int))).setCell (p := ⟨w.heap.size + 2, 1, none⟩) (by show w.heap.size ≤ w.heap.size + 2; omega) (.int .i64 (0 : Int))
    obtain ⟨e0, e1⟩ := hfin.cells
    refine bodyPost_ret (v := .tuple #[.agg #[.int .i64 (0 : Nat), .int .i64 (0 : Nat)], .int .i64 (1 : Nat)]) (by simp [results, Tryd.results10, go_sem, e0, e1]) rfl ⟨rfl, hbf⟩
  | true =>
    rw [hra] at qa
    cases hrb : rightH b with
    | false =>
      rw [hrb] at qb
      have hno : agH a b = (0, 0, 1) := ag_no (fun h => by rw [rightH_iff.2 h.2] at hrb; cases hrb)
      rw [hno]
      clear hra hrb hno
      go_enter Tryd.func10, Tryd.ntmps10
      go_wp2_with fail
      ((with_reducible refine (qa _).mono ?_); rintro e W1 ⟨rfl, b1⟩)
      clear p0 p1 p2 hW0
      obtain ⟨q0, q1, q2⟩ := (HQ0.out.below b1).cells
      have H_b1 := Lib.hid b1; clear b1
      go_wp2_with fail
      ((with_reducible refine (qb _).mono ?_); rintro e W2 ⟨rfl, b2⟩)
      clear q0 q1 q2
      have HD1 := Lib.hid ((HD0.out.below H_b1.out).below b2)
      have HB1 := Lib.hid (bch (bch HB0.out H_b1.out) b2)
      clear b2
      obtain ⟨d0, d1⟩ := HD1.out.cells
      have f0 := HD1.out.frozen 0
      have f1 := HD1.out.frozen 1
      go_wp2_with fail
      have hfin := HD1.out.put 0 0
      have hbf := (HB1.out.setCell (p := ⟨w.heap.size + 2, 0, none⟩) (by show w.heap.size ≤ w.heap.size + 2; omega) (.int .i64 (0 : Int))).setCell (p := ⟨w.heap.size + 2, 1, none⟩) (by show w.heap.size ≤ w.heap.size + 2; omega) (.int .i64 (0 : Int))
      obtain ⟨e0, e1⟩ := hfin.cells
      refine bodyPost_ret (v := .tuple #[.agg #[.int .i64 (0 : Nat), .int .i64 (0 : Nat)], .int .i64 (1 : Nat)]) (by simp [results, Tryd.results10, go_sem, e0, e1]) rfl ⟨rfl, hbf⟩
    | true =>
      rw [hrb] at qb
      have ra := rightH_iff.1 hra
      have rb := rightH_iff.1 hrb
      have hc := ag_cases ra rb
      clear hra hrb
      have hand : bits .and .i64 a.feat b.feat = (featB a b : Int) := by
        have h := i64_bandN a.feat.toNat b.feat.toNat (feat_lt ra) (feat_lt rb)
        rw [show ((a.feat.toNat : Nat) : Int) = a.feat from by have := ra.2.2.2.1; omega, show ((b.feat.toNat : Nat) : Int) = b.feat from by have := rb.2.2.2.1; omega] at h
        exact h
      have hlt := featB_lt (b := b) ra
      obtain ⟨R, hR⟩ : ∃ R, agH a b = R := ⟨_, rfl⟩
      rw [hR] at hc ⊢
      clear hR
      have k1 := fun W => featby_one (featB a b) hlt W
      have k2 := fun W => featby_two (featB a b) W
      generalize featB a b % 8 = G at *
      generalize featB a b = F at *
      clear hlt
      have HC := Lib.hid hc; clear hc
      obtain ⟨l1, u1, x1⟩ := a
      obtain ⟨l2, u2, x2⟩ := b
      rw [rH] at ra rb
      simp only at *
      have hcase : ((l1 = 1 ∧ u1 = 1) ∨ (l1 = 1 ∧ u1 = 2) ∨ (l1 = 2 ∧ u1 = 2)) ∧ ((l2 = 1 ∧ u2 = 1) ∨ (l2 = 1 ∧ u2 = 2) ∨ (l2 = 2 ∧ u2 = 2)) := by omega
      clear ra rb
      obtain ⟨ca, cb⟩ := hcase
      rcases ca with ⟨rfl, rfl⟩ | ⟨rfl, rfl⟩ | ⟨rfl, rfl⟩ <;> rcases cb with ⟨rfl, rfl⟩ | ⟨rfl, rfl⟩ | ⟨rfl, rfl⟩
      · obtain rfl : R = (1, G, 0) := by simpa using HC.out
        go_enter Tryd.func10, Tryd.ntmps10
        go_wp2_with fail
        ((with_reducible refine (qa _).mono ?_); rintro e W1 ⟨rfl, b1⟩)
        clear p0 p1 p2 hW0
        obtain ⟨q0, q1, q2⟩ := (HQ0.out.below b1).cells
        have H_b1 := Lib.hid b1; clear b1
        go_wp2_with fail
        ((with_reducible refine (qb _).mono ?_); rintro e W2 ⟨rfl, b2⟩)
        clear q0 q1 q2
        obtain ⟨p0, p1, p2⟩ := ((HP0.out.below H_b1.out).below b2).cells
        obtain ⟨q0, q1, q2⟩ := ((HQ0.out.below H_b1.out).below b2).cells
        simp only at p0 p1 p2 q0 q1 q2
        have HD1 := Lib.hid ((HD0.out.below H_b1.out).below b2)
        have HB1 := Lib.hid (bch (bch HB0.out H_b1.out) b2)
        clear b2
        obtain ⟨d0, d1⟩ := HD1.out.cells
        have f0 := HD1.out.frozen 0
        have f1 := HD1.out.frozen 1
        go_wp2_with fail
        ((with_reducible refine (k1 _).mono ?_); rintro e X ⟨rfl, rfl⟩)
        go_wp2_with fail
        have hfin := HD1.out.put 1 G
        have hbf := (HB1.out.setCell (p := ⟨w.heap.size + 2, 0, none⟩) (by show w.heap.size ≤ w.heap.size + 2; omega) (.int .i64 (1 : Int))).setCell (p := ⟨w.heap.size + 2, 1, none⟩) (by show w.heap.size ≤ w.heap.size + 2; omega) (.int .i64 (G : Int))
        obtain ⟨e0, e1⟩ := hfin.cells
        refine bodyPost_ret (v := .tuple #[.agg #[.int .i64 (1 : Nat), .int .i64 (G : Nat)], .int .i64 (0 : Nat)]) (by simp [results, Tryd.results10, go_sem, e0, e1]) rfl ⟨rfl, hbf⟩
      · obtain rfl : R = (1, G, 0) := by simpa using HC.out
        go_enter Tryd.func10, Tryd.ntmps10
        go_wp2_with fail
        ((with_reducible refine (qa _).mono ?_); rintro e W1 ⟨rfl, b1⟩)
        clear p0 p1 p2 hW0
        obtain ⟨q0, q1, q2⟩ := (HQ0.out.below b1).cells
        have H_b1 := Lib.hid b1; clear b1
        go_wp2_with fail
        ((with_reducible refine (qb _).mono ?_); rintro e W2 ⟨rfl, b2⟩)
        clear q0 q1 q2
        obtain ⟨p0, p1, p2⟩ := ((HP0.out.below H_b1.out).below b2).cells
        obtain ⟨q0, q1, q2⟩ := ((HQ0.out.below H_b1.out).below b2).cells
        simp only at p0 p1 p2 q0 q1 q2
        have HD1 := Lib.hid ((HD0.out.below H_b1.out).below b2)
        have HB1 := Lib.hid (bch (bch HB0.out H_b1.out) b2)
        clear b2
        obtain ⟨d0, d1⟩ := HD1.out.cells
        have f0 := HD1.out.frozen 0
        have f1 := HD1.out.frozen 1
        go_wp2_with fail
        ((with_reducible refine (k1 _).mono ?_); rintro e X ⟨rfl, rfl⟩)
        go_wp2_with fail
        have hfin := HD1.out.put 1 G
        have hbf := (HB1.out.setCell (p := ⟨w.heap.size + 2, 0, none⟩) (by show w.heap.size ≤ w.heap.size + 2; omega) (.int .i64 (1 : Int))).setCell (p := ⟨w.heap.size + 2, 1, none⟩) (by show w.heap.size ≤ w.heap.size + 2; omega) (.int .i64 (G : Int))
        obtain ⟨e0, e1⟩ := hfin.cells
        refine bodyPost_ret (v := .tuple #[.agg #[.int .i64 (1 : Nat), .int .i64 (G : Nat)], .int .i64 (0 : Nat)]) (by simp [results, Tryd.results10, go_sem, e0, e1]) rfl ⟨rfl, hbf⟩
      · obtain rfl : R = (0, 0, 22) := by simpa using HC.out
        go_enter Tryd.func10, Tryd.ntmps10
        go_wp2_with fail
        ((with_reducible refine (qa _).mono ?_); rintro e W1 ⟨rfl, b1⟩)
        clear p0 p1 p2 hW0
        obtain ⟨q0, q1, q2⟩ := (HQ0.out.below b1).cells
        have H_b1 := Lib.hid b1; clear b1
        go_wp2_with fail
        ((with_reducible refine (qb _).mono ?_); rintro e W2 ⟨rfl, b2⟩)
        clear q0 q1 q2
        obtain ⟨p0, p1, p2⟩ := ((HP0.out.below H_b1.out).below b2).cells
        obtain ⟨q0, q1, q2⟩ := ((HQ0.out.below H_b1.out).below b2).cells
        simp only at p0 p1 p2 q0 q1 q2
        have HD1 := Lib.hid ((HD0.out.below H_b1.out).below b2)
        have HB1 := Lib.hid (bch (bch HB0.out H_b1.out) b2)
        clear b2
        obtain ⟨d0, d1⟩ := HD1.out.cells
        have f0 := HD1.out.frozen 0
        have f1 := HD1.out.frozen 1
        go_wp2_with fail
        have hfin := HD1.out.put 0 0
        have hbf := (HB1.out.setCell (p := ⟨w.heap.size + 2, 0, none⟩) (by show w.heap.size ≤ w.heap.size + 2; omega) (.int .i64 (0 : Int))).setCell (p := ⟨w.heap.size + 2, 1, none⟩) (by show w.heap.size ≤ w.heap.size + 2; omega) (.int .i64 (0 : Int))
        obtain ⟨e0, e1⟩ := hfin.cells
        refine bodyPost_ret (v := .tuple #[.agg #[.int .i64 (0 : Nat), .int .i64 (0 : Nat)], .int .i64 (22 : Nat)]) (by simp [results, Tryd.results10, go_sem, e0, e1]) rfl ⟨rfl, hbf⟩
      · obtain rfl : R = (1, G, 0) := by simpa using HC.out
        go_enter Tryd.func10, Tryd.ntmps10
        go_wp2_with fail
        ((with_reducible refine (qa _).mono ?_); rintro e W1 ⟨rfl, b1⟩)
        clear p0 p1 p2 hW0
        obtain ⟨q0, q1, q2⟩ := (HQ0.out.below b1).cells
        have H_b1 := Lib.hid b1; clear b1
        go_wp2_with fail
        ((with_reducible refine (qb _).mono ?_); rintro e W2 ⟨rfl, b2⟩)
        clear q0 q1 q2
        obtain ⟨p0, p1, p2⟩ := ((HP0.out.below H_b1.out).below b2).cells
        obtain ⟨q0, q1, q2⟩ := ((HQ0.out.below H_b1.out).below b2).cells
        simp only at p0 p1 p2 q0 q1 q2
        have HD1 := Lib.hid ((HD0.out.below H_b1.out).below b2)
        have HB1 := Lib.hid (bch (bch HB0.out H_b1.out) b2)
        clear b2
        obtain ⟨d0, d1⟩ := HD1.out.cells
        have f0 := HD1.out.frozen 0
        have f1 := HD1.out.frozen 1
        go_wp2_with fail
        ((with_reducible refine (k1 _).mono ?_); rintro e X ⟨rfl, rfl⟩)
        go_wp2_with fail
        have hfin := HD1.out.put 1 G
        have hbf := (HB1.out.setCell (p := ⟨w.heap.size + 2, 0, none⟩) (by show w.heap.size ≤ w.heap.size + 2; omega) (.int .i64 (1 : Int))).setCell (p := ⟨w.heap.size + 2, 1, none⟩) (by show w.heap.size ≤ w.heap.size + 2; omega) (.int .i64 (G : Int))
        obtain ⟨e0, e1⟩ := hfin.cells
        refine bodyPost_ret (v := .tuple #[.agg #[.int .i64 (1 : Nat), .int .i64 (G : Nat)], .int .i64 (0 : Nat)]) (by simp [results, Tryd.results10, go_sem, e0, e1]) rfl ⟨rfl, hbf⟩
      · obtain rfl : R = (2, F, 0) := by simpa using HC.out
        go_enter Tryd.func10, Tryd.ntmps10
        go_wp2_with fail
        ((with_reducible refine (qa _).mono ?_); rintro e W1 ⟨rfl, b1⟩)
        clear p0 p1 p2 hW0
        obtain ⟨q0, q1, q2⟩ := (HQ0.out.below b1).cells
        have H_b1 := Lib.hid b1; clear b1
        go_wp2_with fail
        ((with_reducible refine (qb _).mono ?_); rintro e W2 ⟨rfl, b2⟩)
        clear q0 q1 q2
        obtain ⟨p0, p1, p2⟩ := ((HP0.out.below H_b1.out).below b2).cells
        obtain ⟨q0, q1, q2⟩ := ((HQ0.out.below H_b1.out).below b2).cells
        simp only at p0 p1 p2 q0 q1 q2
        have HD1 := Lib.hid ((HD0.out.below H_b1.out).below b2)
        have HB1 := Lib.hid (bch (bch HB0.out H_b1.out) b2)
        clear b2
        obtain ⟨d0, d1⟩ := HD1.out.cells
        have f0 := HD1.out.frozen 0
        have f1 := HD1.out.frozen 1
        go_wp2_with fail
        ((with_reducible refine (k2 _).mono ?_); rintro e X ⟨rfl, rfl⟩)
        go_wp2_with fail
        have hfin := HD1.out.put 2 F
        have hbf := (HB1.out.setCell (p := ⟨w.heap.size + 2, 0, none⟩) (by show w.heap.size ≤ w.heap.size + 2; omega) (.int .i64 (2 : Int))).setCell (p := ⟨w.heap.size + 2, 1, none⟩) (by show w.heap.size ≤ w.heap.size + 2; omega) (.int .i64 (F : Int))
        obtain ⟨e0, e1⟩ := hfin.cells
        refine bodyPost_ret (v := .tuple #[.agg #[.int .i64 (2 : Nat), .int .i64 (F : Nat)], .int .i64 (0 : Nat)]) (by simp [results, Tryd.results10, go_sem, e0, e1]) rfl ⟨rfl, hbf⟩
      · obtain rfl : R = (2, F, 0) := by simpa using HC.out
        go_enter Tryd.func10, Tryd.ntmps10
        go_wp2_with fail
        ((with_reducible refine (qa _).mono ?_); rintro e W1 ⟨rfl, b1⟩)
        clear p0 p1 p2 hW0
        obtain ⟨q0, q1, q2⟩ := (HQ0.out.below b1).cells
        have H_b1 := Lib.hid b1; clear b1
        go_wp2_with fail
        ((with_reducible refine (qb _).mono ?_); rintro e W2 ⟨rfl, b2⟩)
        clear q0 q1 q2
        obtain ⟨p0, p1, p2⟩ := ((HP0.out.below H_b1.out).below b2).cells
        obtain ⟨q0, q1, q2⟩ := ((HQ0.out.below H_b1.out).below b2).cells
        simp only at p0 p1 p2 q0 q1 q2
        have HD1 := Lib.hid ((HD0.out.below H_b1.out).below b2)
        have HB1 := Lib.hid (bch (bch HB0.out H_b1.out) b2)
        clear b2
        obtain ⟨d0, d1⟩ := HD1.out.cells
        have f0 := HD1.out.frozen 0
        have f1 := HD1.out.frozen 1
        go_wp2_with fail
        ((with_reducible refine (k2 _).mono ?_); rintro e X ⟨rfl, rfl⟩)
        go_wp2_with fail
        have hfin := HD1.out.put 2 F
        have hbf := (HB1.out.setCell (p := ⟨w.heap.size + 2, 0, none⟩) (by show w.heap.size ≤ w.heap.size + 2; omega) (.int .i64 (2 : Int))).setCell (p := ⟨w.heap.size + 2, 1, none⟩) (by show w.heap.size ≤ w.heap.size + 2; omega) (.int .i64 (F : Int))
        obtain ⟨e0, e1⟩ := hfin.cells
        refine bodyPost_ret (v := .tuple #[.agg #[.int .i64 (2 : Nat), .int .i64 (F : Nat)], .int .i64 (0 : Nat)]) (by simp [results, Tryd.results10, go_sem, e0, e1]) rfl ⟨rfl, hbf⟩
      · obtain rfl : R = (0, 0, 22) := by simpa using HC.out
        go_enter Tryd.func10, Tryd.ntmps10
        go_wp2_with fail
        ((with_reducible refine (qa _).mono ?_); rintro e W1 ⟨rfl, b1⟩)
        clear p0 p1 p2 hW0
        obtain ⟨q0, q1, q2⟩ := (HQ0.out.below b1).cells
        have H_b1 := Lib.hid b1; clear b1
        go_wp2_with fail
        ((with_reducible refine (qb _).mono ?_); rintro e W2 ⟨rfl, b2⟩)
        clear q0 q1 q2
        obtain ⟨p0, p1, p2⟩ := ((HP0.out.below H_b1.out).below b2).cells
        obtain ⟨q0, q1, q2⟩ := ((HQ0.out.below H_b1.out).below b2).cells
        simp only at p0 p1 p2 q0 q1 q2
        have HD1 := Lib.hid ((HD0.out.below H_b1.out).below b2)
        have HB1 := Lib.hid (bch (bch HB0.out H_b1.out) b2)
        clear b2
        obtain ⟨d0, d1⟩ := HD1.out.cells
        have f0 := HD1.out.frozen 0
        have f1 := HD1.out.frozen 1
        go_wp2_with fail
        have hfin := HD1.out.put 0 0
        have hbf := (HB1.out.setCell (p := ⟨w.heap.size + 2, 0, none⟩) (by show w.heap.size ≤ w.heap.size + 2; omega) (.int .i64 (0 : Int))).setCell (p := ⟨w.heap.size + 2, 1, none⟩) (by show w.heap.size ≤ w.heap.size + 2; omega) (.int .i64 (0 : Int))
        obtain ⟨e0, e1⟩ := hfin.cells
        refine bodyPost_ret (v := .tuple #[.agg #[.int .i64 (0 : Nat), .int .i64 (0 : Nat)], .int .i64 (22 : Nat)]) (by simp [results, Tryd.results10, go_sem, e0, e1]) rfl ⟨rfl, hbf⟩
      · obtain rfl : R = (2, F, 0) := by simpa using HC.out
        go_enter Tryd.func10, Tryd.ntmps10
        go_wp2_with fail
        ((with_reducible refine (qa _).mono ?_); rintro e W1 ⟨rfl, b1⟩)
        clear p0 p1 p2 hW0
        obtain ⟨q0, q1, q2⟩ := (HQ0.out.below b1).cells
        have H_b1 := Lib.hid b1; clear b1
        go_wp2_with fail
        ((with_reducible refine (qb _).mono ?_); rintro e W2 ⟨rfl, b2⟩)
        clear q0 q1 q2
        obtain ⟨p0, p1, p2⟩ := ((HP0.out.below H_b1.out).below b2).cells
        obtain ⟨q0, q1, q2⟩ := ((HQ0.out.below H_b1.out).below b2).cells
        simp only at p0 p1 p2 q0 q1 q2
        have HD1 := Lib.hid ((HD0.out.below H_b1.out).below b2)
        have HB1 := Lib.hid (bch (bch HB0.out H_b1.out) b2)
        clear b2
        obtain ⟨d0, d1⟩ := HD1.out.cells
        have f0 := HD1.out.frozen 0
        have f1 := HD1.out.frozen 1
        go_wp2_with fail
        ((with_reducible refine (k2 _).mono ?_); rintro e X ⟨rfl, rfl⟩)
        go_wp2_with fail
        have hfin := HD1.out.put 2 F
        have hbf := (HB1.out.setCell (p := ⟨w.heap.size + 2, 0, none⟩) (by show w.heap.size ≤ w.heap.size + 2; omega) (.int .i64 (2 : Int))).setCell (p := ⟨w.heap.size + 2, 1, none⟩) (by show w.heap.size ≤ w.heap.size + 2; omega) (.int .i64 (F : Int))
        obtain ⟨e0, e1⟩ := hfin.cells
        refine bodyPost_ret (v := .tuple #[.agg #[.int .i64 (2 : Nat), .int .i64 (F : Nat)], .int .i64 (0 : Nat)]) (by simp [results, Tryd.results10, go_sem, e0, e1]) rfl ⟨rfl, hbf⟩
      · obtain rfl : R = (2, F, 0) := by simpa using HC.out
        go_enter Tryd.func10, Tryd.ntmps10
        go_wp2_with fail
        ((with_reducible refine (qa _).mono ?_); rintro e W1 ⟨rfl, b1⟩)
        clear p0 p1 p2 hW0
        obtain ⟨q0, q1, q2⟩ := (HQ0.out.below b1).cells
        have H_b1 := Lib.hid b1; clear b1
        go_wp2_with fail
        ((with_reducible refine (qb _).mono ?_); rintro e W2 ⟨rfl, b2⟩)
        clear q0 q1 q2
        obtain ⟨p0, p1, p2⟩ := ((HP0.out.below H_b1.out).below b2).cells
        obtain ⟨q0, q1, q2⟩ := ((HQ0.out.below H_b1.out).below b2).cells
        simp only at p0 p1 p2 q0 q1 q2
        have HD1 := Lib.hid ((HD0.out.below H_b1.out).below b2)
        have HB1 := Lib.hid (bch (bch HB0.out H_b1.out) b2)
        clear b2
        obtain ⟨d0, d1⟩ := HD1.out.cells
        have f0 := HD1.out.frozen 0
        have f1 := HD1.out.frozen 1
        go_wp2_with fail
        ((with_reducible refine (k2 _).mono ?_); rintro e X ⟨rfl, rfl⟩)
        go_wp2_with fail
        have hfin := HD1.out.put 2 F
        have hbf := (HB1.out.setCell (p := ⟨w.heap.size + 2, 0, none⟩) (by show w.heap.size ≤ w.heap.size + 2; omega) (.int .i64 (2 : Int))).setCell (p := ⟨w.heap.size + 2, 1, none⟩) (by show w.heap.size ≤ w.heap.size + 2; omega) (.int .i64 (F : Int))
        obtain ⟨e0, e1⟩ := hfin.cells
        refine bodyPost_ret (v := .tuple #[.agg #[.int .i64 (2 : Nat), .int .i64 (F : Nat)], .int .i64 (0 : Nat)]) (by simp [results, Tryd.results10, go_sem, e0, e1]) rfl ⟨rfl, hbf⟩
theorem agreeN : AgreeN := fun a b _ _ w => agree9_any a b w
end Go.Proofs.YtfnkgldfgciplaaDoor
