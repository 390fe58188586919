import Derived.Test.YtpnkkiokkhmjpaaTabKey
/-
  The contract of the law package's own Op (stage 12): an op of raw numbers.
-/
namespace Go.Proofs.Ytpnkkiokkhmjpaa
open Go.RowKit
set_option linter.unusedVariables false
set_option linter.unusedSimpArgs false

/-- An op of raw numbers. -/
def valK : Nat → ByteArray
  | 0 => ⟨#[]⟩ | 1 => ⟨#[120]⟩ | 2 => ⟨#[121, 121]⟩ | _ => ⟨#[118, 97, 108, 117, 101]⟩
def notK : Nat → ByteArray
  | 0 => ⟨#[]⟩ | 1 => ⟨#[110]⟩ | _ => ⟨#[110, 111, 116, 101]⟩
def endK : Nat → ByteArray
  | 0 => ⟨#[]⟩ | 1 => ⟨#[98]⟩ | 2 => ⟨#[98, 111, 98]⟩ | _ => ⟨#[97, 98, 49]⟩
def opR (a : Nat → Int) : OpR :=
  let k := pickN (a 0) 6
  ⟨1 + (k : Int), if k = 5 ∧ pickN (a 4) 3 = 0 then ⟨#[]⟩ else keyR (a 1), if k = 1 ∨ k = 3 then valK (pickN (a 2) 4) else ⟨#[]⟩, (pickN (a 3) 4 : Nat), if k = 5 then endK (pickN (a 2) 4) else ⟨#[]⟩, if k = 4 then ((pickN (a 2) 50 : Nat) : Int) else 0, if k = 4 then notK (pickN (a 4) 3) else ⟨#[]⟩⟩
abbrev fiveV (a : Nat → Int) : Value := .agg #[.int .i64 (a 0), .int .i64 (a 1), .int .i64 (a 2), .int .i64 (a 3), .int .i64 (a 4)]
theorem val_get {j : Nat} (h : j < [Value.string ⟨#[]⟩, Value.string ⟨#[120]⟩, Value.string ⟨#[121, 121]⟩, Value.string ⟨#[118, 97, 108, 117, 101]⟩].length) : [Value.string ⟨#[]⟩, Value.string ⟨#[120]⟩, Value.string ⟨#[121, 121]⟩, Value.string ⟨#[118, 97, 108, 117, 101]⟩][j] = .string (valK j) := by
  have h4 : j < 4 := h
  rcases (by omega : j = 0 ∨ j = 1 ∨ j = 2 ∨ j = 3) with rfl | rfl | rfl | rfl <;> rfl
theorem val_at {j : Nat} (h : j < 4) : (#[Value.string ⟨#[]⟩, Value.string ⟨#[120]⟩, Value.string ⟨#[121, 121]⟩, Value.string ⟨#[118, 97, 108, 117, 101]⟩] : Array Value)[j]? = some (.string (valK j)) := by
  rcases (by omega : j = 0 ∨ j = 1 ∨ j = 2 ∨ j = 3) with rfl | rfl | rfl | rfl <;> rfl
theorem not_get {j : Nat} (h : j < [Value.string ⟨#[]⟩, Value.string ⟨#[110]⟩, Value.string ⟨#[110, 111, 116, 101]⟩].length) : [Value.string ⟨#[]⟩, Value.string ⟨#[110]⟩, Value.string ⟨#[110, 111, 116, 101]⟩][j] = .string (notK j) := by
  have h4 : j < 3 := h
  rcases (by omega : j = 0 ∨ j = 1 ∨ j = 2) with rfl | rfl | rfl <;> rfl
theorem not_at {j : Nat} (h : j < 3) : (#[Value.string ⟨#[]⟩, Value.string ⟨#[110]⟩, Value.string ⟨#[110, 111, 116, 101]⟩] : Array Value)[j]? = some (.string (notK j)) := by
  rcases (by omega : j = 0 ∨ j = 1 ∨ j = 2) with rfl | rfl | rfl <;> rfl
theorem end_get {j : Nat} (h : j < [Value.string ⟨#[]⟩, Value.string ⟨#[98]⟩, Value.string ⟨#[98, 111, 98]⟩, Value.string ⟨#[97, 98, 49]⟩].length) : [Value.string ⟨#[]⟩, Value.string ⟨#[98]⟩, Value.string ⟨#[98, 111, 98]⟩, Value.string ⟨#[97, 98, 49]⟩][j] = .string (endK j) := by
  have h4 : j < 4 := h
  rcases (by omega : j = 0 ∨ j = 1 ∨ j = 2 ∨ j = 3) with rfl | rfl | rfl | rfl <;> rfl
theorem end_at {j : Nat} (h : j < 4) : (#[Value.string ⟨#[]⟩, Value.string ⟨#[98]⟩, Value.string ⟨#[98, 111, 98]⟩, Value.string ⟨#[97, 98, 49]⟩] : Array Value)[j]? = some (.string (endK j)) := by
  rcases (by omega : j = 0 ∨ j = 1 ∨ j = 2 ∨ j = 3) with rfl | rfl | rfl | rfl <;> rfl
theorem op_put {W : World} {g : Nat} {b0 b1 b2 b3 b4 b5 b6 : Value} (h : Blk W g (.cells #[b0, b1, b2, b3, b4, b5, b6] 26 (0, 0))) (o : OpR) :
    OpBlk ((((((((W).setCell ⟨g, 0, none⟩ (.int .i64 o.kind)).setCell ⟨g, 1, none⟩ (.string o.key)).setCell ⟨g, 2, none⟩ (.string o.value)).setCell ⟨g, 3, none⟩ (.int .i64 o.rev)).setCell ⟨g, 4, none⟩ (.string o.upto)).setCell ⟨g, 5, none⟩ (.int .i64 o.life)).setCell ⟨g, 6, none⟩ (.string o.note)) g o := by
  have h0 := Blk.set h 0 (.int .i64 o.kind) #[.int .i64 o.kind, b1, b2, b3, b4, b5, b6] rfl
  have h1 := Blk.set h0 1 (.string o.key) #[.int .i64 o.kind, .string o.key, b2, b3, b4, b5, b6] rfl
  have h2 := Blk.set h1 2 (.string o.value) #[.int .i64 o.kind, .string o.key, .string o.value, b3, b4, b5, b6] rfl
  have h3 := Blk.set h2 3 (.int .i64 o.rev) #[.int .i64 o.kind, .string o.key, .string o.value, .int .i64 o.rev, b4, b5, b6] rfl
  have h4 := Blk.set h3 4 (.string o.upto) #[.int .i64 o.kind, .string o.key, .string o.value, .int .i64 o.rev, .string o.upto, b5, b6] rfl
  have h5 := Blk.set h4 5 (.int .i64 o.life) #[.int .i64 o.kind, .string o.key, .string o.value, .int .i64 o.rev, .string o.upto, .int .i64 o.life, b6] rfl
  exact Blk.set h5 6 (.string o.note) _ rfl
theorem Below.seven {w W : World} {B g : Nat} (h : Below B w W) (hg : B ≤ g) (x0 x1 x2 x3 x4 x5 x6 : Value) : Below B w ((((((((W).setCell ⟨g, 0, none⟩ x0).setCell ⟨g, 1, none⟩ x1).setCell ⟨g, 2, none⟩ x2).setCell ⟨g, 3, none⟩ x3).setCell ⟨g, 4, none⟩ x4).setCell ⟨g, 5, none⟩ x5).setCell ⟨g, 6, none⟩ x6) :=
  ((((((h.setCell (p := ⟨g, 0, none⟩) hg _).setCell (p := ⟨g, 1, none⟩) hg _).setCell (p := ⟨g, 2, none⟩) hg _).setCell (p := ⟨g, 3, none⟩) hg _).setCell (p := ⟨g, 4, none⟩) hg _).setCell (p := ⟨g, 5, none⟩) hg _).setCell (p := ⟨g, 6, none⟩) hg _
set_option maxRecDepth 100000 in
set_option maxHeartbeats 8000000 in
theorem op_any (a : Nat → Int) (ha : ∀ j, j < 5 → (Lit.int .i64 (a j)).wf = true) (w : World) :
    Calls Try.prog 12 #[fiveV a] w fun e w' => e = .returned (opV (opR a)) ∧ Below w.heap.size w w' := by
  have hbw : Below w.heap.size w ((w.alloc (.cells #[.int .i64 (a 0), .int .i64 (a 1), .int .i64 (a 2), .int .i64 (a 3), .int .i64 (a 4)] 24)).alloc (.cells #[.int .i64 0, .string ⟨#[]⟩, .string ⟨#[]⟩, .int .i64 0, .string ⟨#[]⟩, .int .i64 0, .string ⟨#[]⟩] 26)) := ((Below.refl _ _).alloc (Nat.le_refl _) _).alloc (by simp) _
  have hraw : Blk ((w.alloc (.cells #[.int .i64 (a 0), .int .i64 (a 1), .int .i64 (a 2), .int .i64 (a 3), .int .i64 (a 4)] 24)).alloc (.cells #[.int .i64 0, .string ⟨#[]⟩, .string ⟨#[]⟩, .int .i64 0, .string ⟨#[]⟩, .int .i64 0, .string ⟨#[]⟩] 26)) w.heap.size (.cells #[.int .i64 (a 0), .int .i64 (a 1), .int .i64 (a 2), .int .i64 (a 3), .int .i64 (a 4)] 24 (0, 0)) := Blk.below (Blk.new w (.cells #[.int .i64 (a 0), .int .i64 (a 1), .int .i64 (a 2), .int .i64 (a 3), .int .i64 (a 4)] 24)) ((Below.refl _ _).alloc (Nat.le_refl _) _)
  have hres : Blk ((w.alloc (.cells #[.int .i64 (a 0), .int .i64 (a 1), .int .i64 (a 2), .int .i64 (a 3), .int .i64 (a 4)] 24)).alloc (.cells #[.int .i64 0, .string ⟨#[]⟩, .string ⟨#[]⟩, .int .i64 0, .string ⟨#[]⟩, .int .i64 0, .string ⟨#[]⟩] 26)) (w.heap.size + 1) (.cells #[.int .i64 0, .string ⟨#[]⟩, .string ⟨#[]⟩, .int .i64 0, .string ⟨#[]⟩, .int .i64 0, .string ⟨#[]⟩] 26 (0, 0)) := by have h := Blk.new (w.alloc (.cells #[.int .i64 (a 0), .int .i64 (a 1), .int .i64 (a 2), .int .i64 (a 3), .int .i64 (a 4)] 24)) (.cells #[.int .i64 0, .string ⟨#[]⟩, .string ⟨#[]⟩, .int .i64 0, .string ⟨#[]⟩, .int .i64 0, .string ⟨#[]⟩] 26); rw [World.size_alloc] at h; exact h
  obtain ⟨W1, hW1⟩ : ∃ W, (w.alloc (.cells #[.int .i64 (a 0), .int .i64 (a 1), .int .i64 (a 2), .int .i64 (a 3), .int .i64 (a 4)] 24)).alloc (.cells #[.int .i64 0, .string ⟨#[]⟩, .string ⟨#[]⟩, .int .i64 0, .string ⟨#[]⟩, .int .i64 0, .string ⟨#[]⟩] 26) = W := ⟨_, rfl⟩
  rw [hW1] at hbw hraw hres
  have Z0 := Lib.hid (Blk.cell hraw 0)
  have Z1 := Lib.hid (Blk.cell hraw 1)
  have Z2 := Lib.hid (Blk.cell hraw 2)
  have Z3 := Lib.hid (Blk.cell hraw 3)
  have Z4 := Lib.hid (Blk.cell hraw 4)
  simp only [List.getElem?_toArray, List.getElem?_cons_zero, List.getElem?_cons_succ] at Z0 Z1 Z2 Z3 Z4
  have hltB := Blk.lt hraw
  have HRES := Lib.hid hres; clear hres
  have HRAW := Lib.hid hraw; clear hraw
  have HBW := Lib.hid hbw; clear hbw
  have HW1 := Lib.hid hW1
  clear hW1
  obtain ⟨R, hR⟩ : ∃ R, opR a = R := ⟨_, rfl⟩
  rw [hR]
  unfold opR at hR
  simp only at hR
  have q0 := fun W => pickN12_nat (a 0) 6 (by omega) (by omega) (ha 0 (by omega)) W
  have q3 := fun W => pickN12_nat (a 3) 4 (by omega) (by omega) (ha 3 (by omega)) W
  have qk := fun W => key_any (a 1) (ha 1 (by omega)) W
  have q2a := fun W => pickN12_nat (a 2) 4 (by omega) (by omega) (ha 2 (by omega)) W
  have q2b := fun W => pickN12_nat (a 2) 50 (by omega) (by omega) (ha 2 (by omega)) W
  have q4 := fun W => pickN12_nat (a 4) 3 (by omega) (by omega) (ha 4 (by omega)) W
  have hp : pickN (a 0) 6 < 6 := by have := pickN_lt (a 0) 6 (by omega); omega
  have h2 : pickN (a 2) 4 < 4 := by have := pickN_lt (a 2) 4 (by omega); omega
  have h4 : pickN (a 4) 3 < 3 := by have := pickN_lt (a 4) 3 (by omega); omega
  generalize pickN (a 0) 6 = p at *
  generalize pickN (a 3) 4 = r at *
  generalize keyR (a 1) = K1 at *
  generalize pickN (a 2) 4 = v at *
  generalize pickN (a 2) 50 = y at *
  generalize pickN (a 4) 3 = z at *
  have HR := Lib.hid hR; clear hR
  have hwp : IntKind.i64.wrap (1 + (p : Int)) = 1 + (p : Int) := IntWalk.i64_in _ (by omega)
  generalize hB : w.heap.size = B at *
  have HBE := Lib.hid hB; clear hB
  have hlt : B < W1.heap.size := hltB
  go_enter Try.func12, Try.ntmps12
  go_upto_region 1 with fail
  rw [HW1.out, HBE.out]
  clear HW1
  go_cut [3] (fun s wx => ∃ g : Nat, s = .pointer (some ⟨g, 0, none⟩) ∧ W1.heap.size ≤ g ∧ OpBlk wx g (⟨1 + (p : Int), K1, ⟨#[]⟩, (r : Int), ⟨#[]⟩, 0, ⟨#[]⟩⟩ : OpR) ∧ Below W1.heap.size W1 wx)
  case first =>
    refine wp_region_noPanic ?_
    refine wp_region_held_drew (S := (fun W => Below W1.heap.size W1 W)) (by kernel_rfl) ((Below.refl _ _).drew) (fun hHeld => ?_)
    refine wpAnyH_take (i := 0) (v := ?_) rfl (by kernel_rfl) (by kernel_rfl) (by kernel_rfl) (fun _ _ _ h => h) (Or.inl ⟨by rfl, ?_⟩) (by assumption) ?_
    rotate_left
    · (intro w hSw; (try dsimp only at hSw); go_simp; (try with_reducible rfl))
    simp only [Act.put, List.getElem_toArray, List.getElem_cons_zero, List.setIfInBounds_toArray, List.set_cons_zero, List.set_cons_succ]
    refine wpAnyH_take (i := 1) (v := ?_) rfl (by kernel_rfl) (by kernel_rfl) (by kernel_rfl) (fun _ _ _ h => h) (Or.inl ⟨by rfl, ?_⟩) (by assumption) ?_
    rotate_left
    · (intro w hSw; (try dsimp only at hSw); have xc := (hSw.cell (p := ⟨B, 0, none⟩) hlt).trans Z0.out; go_simp; (try with_reducible rfl))
    simp only [Act.put, List.getElem_toArray, List.getElem_cons_zero, List.getElem_cons_succ, List.setIfInBounds_toArray, List.set_cons_zero, List.set_cons_succ]
    refine wpAnyH_take (i := 4) (v := ?_) rfl (by kernel_rfl) (by kernel_rfl) (by kernel_rfl) (fun _ _ _ h => h) (Or.inl ⟨by rfl, ?_⟩) (by assumption) ?_
    rotate_left
    · (intro w hSw; (try dsimp only at hSw); go_simp; (try with_reducible rfl))
    simp only [Act.put, List.getElem_toArray, List.getElem_cons_zero, List.getElem_cons_succ, List.setIfInBounds_toArray, List.set_cons_zero, List.set_cons_succ]
    refine wpAnyH_take (i := 5) (v := ?_) rfl (by kernel_rfl) (by kernel_rfl) (by kernel_rfl) (fun _ _ _ h => h) (Or.inl ⟨by rfl, ?_⟩) (by assumption) ?_
    rotate_left
    · (intro w hSw; (try dsimp only at hSw); have xc := (hSw.cell (p := ⟨B, 1, none⟩) hlt).trans Z1.out; go_simp; (try with_reducible rfl))
    simp only [Act.put, List.getElem_toArray, List.getElem_cons_zero, List.getElem_cons_succ, List.setIfInBounds_toArray, List.set_cons_zero, List.set_cons_succ]
    refine wpAnyH_take (i := 7) (v := ?_) rfl (by kernel_rfl) (by kernel_rfl) (by kernel_rfl) (fun _ _ _ h => h) (Or.inl ⟨by rfl, ?_⟩) (by assumption) ?_
    rotate_left
    · (intro w hSw; (try dsimp only at hSw); go_simp; (try with_reducible rfl))
    simp only [Act.put, List.getElem_toArray, List.getElem_cons_zero, List.getElem_cons_succ, List.setIfInBounds_toArray, List.set_cons_zero, List.set_cons_succ]
    refine wpAnyH_take (i := 8) (v := ?_) rfl (by kernel_rfl) (by kernel_rfl) (by kernel_rfl) (fun _ _ _ h => h) (Or.inl ⟨by rfl, ?_⟩) (by assumption) ?_
    rotate_left
    · (intro w hSw; (try dsimp only at hSw); have xc := (hSw.cell (p := ⟨B, 3, none⟩) hlt).trans Z3.out; go_simp; (try with_reducible rfl))
    simp only [Act.put, List.getElem_toArray, List.getElem_cons_zero, List.getElem_cons_succ, List.setIfInBounds_toArray, List.set_cons_zero, List.set_cons_succ]
    refine wpAnyH_ready (rs := [2, 11]) (by kernel_rfl) (by simp) ?_
    refine AllReadyH.cons rfl (fun K hK => ?_) ?_
    · rw [if_pos (by rfl)]
      go_simp
      ((with_reducible refine (q0 _).mono ?_); rintro e w' ⟨rfl, rfl⟩)
      refine hK.out _ _ (hHeld) (fun hHeld2 => ?_)
      clear hK K hHeld
      have hHeld := hHeld2; clear hHeld2
      refine wpAnyH_take (i := 3) (v := ?_) rfl (by kernel_rfl) (by kernel_rfl) (by kernel_rfl) (fun _ _ _ h => h) (Or.inl ⟨by rfl, ?_⟩) (by assumption) ?_
      rotate_left
      · (intro w hSw; (try dsimp only at hSw); go_simp; (try with_reducible rfl))
      simp only [Act.put, List.getElem_toArray, List.getElem_cons_zero, List.getElem_cons_succ, List.setIfInBounds_toArray, List.set_cons_zero, List.set_cons_succ]
      refine wpAnyH_ready (rs := [6, 11]) (by kernel_rfl) (by simp) ?_
      refine AllReadyH.cons rfl (fun K hK => ?_) ?_
      · rw [if_pos (by rfl)]
        go_simp
        ((with_reducible refine (qk _).mono ?_); rintro e w' ⟨rfl, bq⟩)
        refine hK.out _ _ (bch hHeld bq) (fun hHeld2 => ?_)
        clear hK K hHeld
        have hHeld := hHeld2; clear hHeld2
        refine wpAnyH_ready (rs := [9, 11]) (by kernel_rfl) (by simp) ?_
        refine AllReadyH.cons rfl (fun K hK => ?_) ?_
        · rw [if_pos (by rfl)]
          go_simp
          ((with_reducible refine (q3 _).mono ?_); rintro e w' ⟨rfl, rfl⟩)
          refine hK.out _ _ (hHeld) (fun hHeld2 => ?_)
          clear hK K hHeld
          have hHeld := hHeld2; clear hHeld2
          refine wpAnyH_take (i := 10) (v := ?_) rfl (by kernel_rfl) (by kernel_rfl) (by kernel_rfl) (fun _ _ _ h => h) (Or.inl ⟨by rfl, ?_⟩) (by assumption) ?_
          rotate_left
          · (intro w hSw; (try dsimp only at hSw); go_simp; (try with_reducible rfl))
          simp only [Act.put, List.getElem_toArray, List.getElem_cons_zero, List.getElem_cons_succ, List.setIfInBounds_toArray, List.set_cons_zero, List.set_cons_succ]
          have hgL := Blk.new w' (.cells #[.int .i64 (⟨1 + (p : Int), K1, ⟨#[]⟩, (r : Int), ⟨#[]⟩, 0, ⟨#[]⟩⟩ : OpR).kind, .string (⟨1 + (p : Int), K1, ⟨#[]⟩, (r : Int), ⟨#[]⟩, 0, ⟨#[]⟩⟩ : OpR).key, .string (⟨1 + (p : Int), K1, ⟨#[]⟩, (r : Int), ⟨#[]⟩, 0, ⟨#[]⟩⟩ : OpR).value, .int .i64 (⟨1 + (p : Int), K1, ⟨#[]⟩, (r : Int), ⟨#[]⟩, 0, ⟨#[]⟩⟩ : OpR).rev, .string (⟨1 + (p : Int), K1, ⟨#[]⟩, (r : Int), ⟨#[]⟩, 0, ⟨#[]⟩⟩ : OpR).upto, .int .i64 (⟨1 + (p : Int), K1, ⟨#[]⟩, (r : Int), ⟨#[]⟩, 0, ⟨#[]⟩⟩ : OpR).life, .string (⟨1 + (p : Int), K1, ⟨#[]⟩, (r : Int), ⟨#[]⟩, 0, ⟨#[]⟩⟩ : OpR).note] 26)
          have hbL : Below W1.heap.size W1 (w'.alloc (.cells #[.int .i64 (⟨1 + (p : Int), K1, ⟨#[]⟩, (r : Int), ⟨#[]⟩, 0, ⟨#[]⟩⟩ : OpR).kind, .string (⟨1 + (p : Int), K1, ⟨#[]⟩, (r : Int), ⟨#[]⟩, 0, ⟨#[]⟩⟩ : OpR).key, .string (⟨1 + (p : Int), K1, ⟨#[]⟩, (r : Int), ⟨#[]⟩, 0, ⟨#[]⟩⟩ : OpR).value, .int .i64 (⟨1 + (p : Int), K1, ⟨#[]⟩, (r : Int), ⟨#[]⟩, 0, ⟨#[]⟩⟩ : OpR).rev, .string (⟨1 + (p : Int), K1, ⟨#[]⟩, (r : Int), ⟨#[]⟩, 0, ⟨#[]⟩⟩ : OpR).upto, .int .i64 (⟨1 + (p : Int), K1, ⟨#[]⟩, (r : Int), ⟨#[]⟩, 0, ⟨#[]⟩⟩ : OpR).life, .string (⟨1 + (p : Int), K1, ⟨#[]⟩, (r : Int), ⟨#[]⟩, 0, ⟨#[]⟩⟩ : OpR).note] 26)) := hHeld.alloc hHeld.size _
          have hsL := hHeld.size
          refine wpAnyH_ready (rs := [11]) (by kernel_rfl) (by simp) ?_
          refine AllReadyH.cons rfl (fun K hK => ?_) AllReadyH.nil
          rw [if_pos (by rfl)]
          go_simp
          refine hK.out _ _ (hHeld.alloc hHeld.size _) (fun hHeld2 => ?_)
          clear hK K hHeld
          have hHeld := hHeld2; clear hHeld2
          refine wpAnyH_ready (rs := [12]) (by kernel_rfl) (by simp) ?_
          refine AllReadyH.cons rfl (fun K hK => ?_) AllReadyH.nil
          rw [if_pos (by rfl)]
          go_simp
          refine hK.out _ _ (hbL) (fun hHeld2 => ?_)
          clear hK K hHeld
          have hHeld := hHeld2; clear hHeld2
          refine wpAnyH_done (by kernel_rfl) ?_ _
          refine NoPanic.normal ?_
          go_wp2_with fail
          go_meet
          exact ⟨_, rfl, hsL, hgL, hHeld⟩
        refine AllReadyH.cons rfl (fun K hK => ?_) ?_
        · rw [if_pos (by rfl)]
          go_simp
          have hgL := Blk.new w' (.cells #[.int .i64 (⟨1 + (p : Int), K1, ⟨#[]⟩, (r : Int), ⟨#[]⟩, 0, ⟨#[]⟩⟩ : OpR).kind, .string (⟨1 + (p : Int), K1, ⟨#[]⟩, (r : Int), ⟨#[]⟩, 0, ⟨#[]⟩⟩ : OpR).key, .string (⟨1 + (p : Int), K1, ⟨#[]⟩, (r : Int), ⟨#[]⟩, 0, ⟨#[]⟩⟩ : OpR).value, .int .i64 (⟨1 + (p : Int), K1, ⟨#[]⟩, (r : Int), ⟨#[]⟩, 0, ⟨#[]⟩⟩ : OpR).rev, .string (⟨1 + (p : Int), K1, ⟨#[]⟩, (r : Int), ⟨#[]⟩, 0, ⟨#[]⟩⟩ : OpR).upto, .int .i64 (⟨1 + (p : Int), K1, ⟨#[]⟩, (r : Int), ⟨#[]⟩, 0, ⟨#[]⟩⟩ : OpR).life, .string (⟨1 + (p : Int), K1, ⟨#[]⟩, (r : Int), ⟨#[]⟩, 0, ⟨#[]⟩⟩ : OpR).note] 26)
          have hbL : Below W1.heap.size W1 (w'.alloc (.cells #[.int .i64 (⟨1 + (p : Int), K1, ⟨#[]⟩, (r : Int), ⟨#[]⟩, 0, ⟨#[]⟩⟩ : OpR).kind, .string (⟨1 + (p : Int), K1, ⟨#[]⟩, (r : Int), ⟨#[]⟩, 0, ⟨#[]⟩⟩ : OpR).key, .string (⟨1 + (p : Int), K1, ⟨#[]⟩, (r : Int), ⟨#[]⟩, 0, ⟨#[]⟩⟩ : OpR).value, .int .i64 (⟨1 + (p : Int), K1, ⟨#[]⟩, (r : Int), ⟨#[]⟩, 0, ⟨#[]⟩⟩ : OpR).rev, .string (⟨1 + (p : Int), K1, ⟨#[]⟩, (r : Int), ⟨#[]⟩, 0, ⟨#[]⟩⟩ : OpR).upto, .int .i64 (⟨1 + (p : Int), K1, ⟨#[]⟩, (r : Int), ⟨#[]⟩, 0, ⟨#[]⟩⟩ : OpR).life, .string (⟨1 + (p : Int), K1, ⟨#[]⟩, (r : Int), ⟨#[]⟩, 0, ⟨#[]⟩⟩ : OpR).note] 26)) := hHeld.alloc hHeld.size _
          have hsL := hHeld.size
          refine hK.out _ _ (hHeld.alloc hHeld.size _) (fun hHeld2 => ?_)
          clear hK K hHeld
          have hHeld := hHeld2; clear hHeld2
          refine wpAnyH_ready (rs := [9]) (by kernel_rfl) (by simp) ?_
          refine AllReadyH.cons rfl (fun K hK => ?_) AllReadyH.nil
          rw [if_pos (by rfl)]
          go_simp
          ((with_reducible refine (q3 _).mono ?_); rintro e w' ⟨rfl, rfl⟩)
          refine hK.out _ _ (hHeld) (fun hHeld2 => ?_)
          clear hK K hHeld
          have hHeld := hHeld2; clear hHeld2
          refine wpAnyH_take (i := 10) (v := ?_) rfl (by kernel_rfl) (by kernel_rfl) (by kernel_rfl) (fun _ _ _ h => h) (Or.inl ⟨by rfl, ?_⟩) (by assumption) ?_
          rotate_left
          · (intro w hSw; (try dsimp only at hSw); go_simp; (try with_reducible rfl))
          simp only [Act.put, List.getElem_toArray, List.getElem_cons_zero, List.getElem_cons_succ, List.setIfInBounds_toArray, List.set_cons_zero, List.set_cons_succ]
          refine wpAnyH_ready (rs := [12]) (by kernel_rfl) (by simp) ?_
          refine AllReadyH.cons rfl (fun K hK => ?_) AllReadyH.nil
          rw [if_pos (by rfl)]
          go_simp
          refine hK.out _ _ (hbL) (fun hHeld2 => ?_)
          clear hK K hHeld
          have hHeld := hHeld2; clear hHeld2
          refine wpAnyH_done (by kernel_rfl) ?_ _
          refine NoPanic.normal ?_
          go_wp2_with fail
          go_meet
          exact ⟨_, rfl, hsL, hgL, hHeld⟩
        exact AllReadyH.nil
      refine AllReadyH.cons rfl (fun K hK => ?_) ?_
      · rw [if_pos (by rfl)]
        go_simp
        refine hK.out _ _ (hHeld.alloc hHeld.size _) (fun hHeld2 => ?_)
        clear hK K hHeld
        have hHeld := hHeld2; clear hHeld2
        have hgA : Blk ((W1.alloc (.cells #[.int .i64 0, .string ⟨#[]⟩, .string ⟨#[]⟩, .int .i64 0, .string ⟨#[]⟩, .int .i64 0, .string ⟨#[]⟩] 26)).drew) W1.heap.size (.cells #[.int .i64 0, .string ⟨#[]⟩, .string ⟨#[]⟩, .int .i64 0, .string ⟨#[]⟩, .int .i64 0, .string ⟨#[]⟩] 26 (0, 0)) := Blk.drew (Blk.new W1 (.cells #[.int .i64 0, .string ⟨#[]⟩, .string ⟨#[]⟩, .int .i64 0, .string ⟨#[]⟩, .int .i64 0, .string ⟨#[]⟩] 26))
        have HGA := Lib.hid hgA; clear hgA
        refine wpAnyH_ready (rs := [6]) (by kernel_rfl) (by simp) ?_
        refine AllReadyH.cons rfl (fun K hK => ?_) AllReadyH.nil
        rw [if_pos (by rfl)]
        go_simp
        ((with_reducible refine (qk _).mono ?_); rintro e w' ⟨rfl, bq⟩)
        have HG := Lib.hid (Blk.below HGA.out bq)
        refine hK.out _ _ (bch hHeld bq) (fun hHeld2 => ?_)
        clear hK K hHeld
        have hHeld := hHeld2; clear hHeld2
        refine wpAnyH_ready (rs := [9]) (by kernel_rfl) (by simp) ?_
        refine AllReadyH.cons rfl (fun K hK => ?_) AllReadyH.nil
        rw [if_pos (by rfl)]
        go_simp
        ((with_reducible refine (q3 _).mono ?_); rintro e w' ⟨rfl, rfl⟩)
        refine hK.out _ _ (hHeld) (fun hHeld2 => ?_)
        clear hK K hHeld
        have hHeld := hHeld2; clear hHeld2
        refine wpAnyH_take (i := 10) (v := ?_) rfl (by kernel_rfl) (by kernel_rfl) (by kernel_rfl) (fun _ _ _ h => h) (Or.inl ⟨by rfl, ?_⟩) (by assumption) ?_
        rotate_left
        · (intro w hSw; (try dsimp only at hSw); go_simp; (try with_reducible rfl))
        simp only [Act.put, List.getElem_toArray, List.getElem_cons_zero, List.getElem_cons_succ, List.setIfInBounds_toArray, List.set_cons_zero, List.set_cons_succ]
        have hz := HG.out
        have z0 := Blk.cell hz 0
        have z1 := Blk.cell hz 1
        have z2 := Blk.cell hz 2
        have z3 := Blk.cell hz 3
        have z4 := Blk.cell hz 4
        have z5 := Blk.cell hz 5
        have z6 := Blk.cell hz 6
        simp only [List.getElem?_toArray, List.getElem?_cons_zero, List.getElem?_cons_succ] at z0 z1 z2 z3 z4 z5 z6
        have f0 := Blk.frozen hz 0
        have f1 := Blk.frozen hz 1
        have f2 := Blk.frozen hz 2
        have f3 := Blk.frozen hz 3
        have f4 := Blk.frozen hz 4
        have f5 := Blk.frozen hz 5
        have f6 := Blk.frozen hz 6
        refine wpAnyH_ready (rs := [12]) (by kernel_rfl) (by simp) ?_
        refine AllReadyH.cons rfl (fun K hK => ?_) AllReadyH.nil
        rw [if_pos (by rfl)]
        go_simp
        refine hK.out _ _ (Below.seven hHeld (Nat.le_refl _) _ _ _ _ _ _ _) (fun hHeld2 => ?_)
        clear hK K hHeld
        have hHeld := hHeld2; clear hHeld2
        refine wpAnyH_done (by kernel_rfl) ?_ _
        refine NoPanic.normal ?_
        go_wp2_with fail
        go_meet
        exact ⟨W1.heap.size, rfl, Nat.le_refl _, op_put hz (⟨1 + (p : Int), K1, ⟨#[]⟩, (r : Int), ⟨#[]⟩, 0, ⟨#[]⟩⟩ : OpR), hHeld⟩
      exact AllReadyH.nil
    refine AllReadyH.cons rfl (fun K hK => ?_) ?_
    · rw [if_pos (by rfl)]
      go_simp
      refine hK.out _ _ (hHeld.alloc hHeld.size _) (fun hHeld2 => ?_)
      clear hK K hHeld
      have hHeld := hHeld2; clear hHeld2
      have hgA : Blk ((W1.alloc (.cells #[.int .i64 0, .string ⟨#[]⟩, .string ⟨#[]⟩, .int .i64 0, .string ⟨#[]⟩, .int .i64 0, .string ⟨#[]⟩] 26)).drew) W1.heap.size (.cells #[.int .i64 0, .string ⟨#[]⟩, .string ⟨#[]⟩, .int .i64 0, .string ⟨#[]⟩, .int .i64 0, .string ⟨#[]⟩] 26 (0, 0)) := Blk.drew (Blk.new W1 (.cells #[.int .i64 0, .string ⟨#[]⟩, .string ⟨#[]⟩, .int .i64 0, .string ⟨#[]⟩, .int .i64 0, .string ⟨#[]⟩] 26))
      have HGA := Lib.hid hgA; clear hgA
      refine wpAnyH_ready (rs := [2]) (by kernel_rfl) (by simp) ?_
      refine AllReadyH.cons rfl (fun K hK => ?_) AllReadyH.nil
      rw [if_pos (by rfl)]
      go_simp
      ((with_reducible refine (q0 _).mono ?_); rintro e w' ⟨rfl, rfl⟩)
      refine hK.out _ _ (hHeld) (fun hHeld2 => ?_)
      clear hK K hHeld
      have hHeld := hHeld2; clear hHeld2
      refine wpAnyH_take (i := 3) (v := ?_) rfl (by kernel_rfl) (by kernel_rfl) (by kernel_rfl) (fun _ _ _ h => h) (Or.inl ⟨by rfl, ?_⟩) (by assumption) ?_
      rotate_left
      · (intro w hSw; (try dsimp only at hSw); go_simp; (try with_reducible rfl))
      simp only [Act.put, List.getElem_toArray, List.getElem_cons_zero, List.getElem_cons_succ, List.setIfInBounds_toArray, List.set_cons_zero, List.set_cons_succ]
      refine wpAnyH_ready (rs := [6]) (by kernel_rfl) (by simp) ?_
      refine AllReadyH.cons rfl (fun K hK => ?_) AllReadyH.nil
      rw [if_pos (by rfl)]
      go_simp
      ((with_reducible refine (qk _).mono ?_); rintro e w' ⟨rfl, bq⟩)
      have HG := Lib.hid (Blk.below HGA.out bq)
      refine hK.out _ _ (bch hHeld bq) (fun hHeld2 => ?_)
      clear hK K hHeld
      have hHeld := hHeld2; clear hHeld2
      refine wpAnyH_ready (rs := [9]) (by kernel_rfl) (by simp) ?_
      refine AllReadyH.cons rfl (fun K hK => ?_) AllReadyH.nil
      rw [if_pos (by rfl)]
      go_simp
      ((with_reducible refine (q3 _).mono ?_); rintro e w' ⟨rfl, rfl⟩)
      refine hK.out _ _ (hHeld) (fun hHeld2 => ?_)
      clear hK K hHeld
      have hHeld := hHeld2; clear hHeld2
      refine wpAnyH_take (i := 10) (v := ?_) rfl (by kernel_rfl) (by kernel_rfl) (by kernel_rfl) (fun _ _ _ h => h) (Or.inl ⟨by rfl, ?_⟩) (by assumption) ?_
      rotate_left
      · (intro w hSw; (try dsimp only at hSw); go_simp; (try with_reducible rfl))
      simp only [Act.put, List.getElem_toArray, List.getElem_cons_zero, List.getElem_cons_succ, List.setIfInBounds_toArray, List.set_cons_zero, List.set_cons_succ]
      have hz := HG.out
      have z0 := Blk.cell hz 0
      have z1 := Blk.cell hz 1
      have z2 := Blk.cell hz 2
      have z3 := Blk.cell hz 3
      have z4 := Blk.cell hz 4
      have z5 := Blk.cell hz 5
      have z6 := Blk.cell hz 6
      simp only [List.getElem?_toArray, List.getElem?_cons_zero, List.getElem?_cons_succ] at z0 z1 z2 z3 z4 z5 z6
      have f0 := Blk.frozen hz 0
      have f1 := Blk.frozen hz 1
      have f2 := Blk.frozen hz 2
      have f3 := Blk.frozen hz 3
      have f4 := Blk.frozen hz 4
      have f5 := Blk.frozen hz 5
      have f6 := Blk.frozen hz 6
      refine wpAnyH_ready (rs := [12]) (by kernel_rfl) (by simp) ?_
      refine AllReadyH.cons rfl (fun K hK => ?_) AllReadyH.nil
      rw [if_pos (by rfl)]
      go_simp
      refine hK.out _ _ (Below.seven hHeld (Nat.le_refl _) _ _ _ _ _ _ _) (fun hHeld2 => ?_)
      clear hK K hHeld
      have hHeld := hHeld2; clear hHeld2
      refine wpAnyH_done (by kernel_rfl) ?_ _
      refine NoPanic.normal ?_
      go_wp2_with fail
      go_meet
      exact ⟨W1.heap.size, rfl, Nat.le_refl _, op_put hz (⟨1 + (p : Int), K1, ⟨#[]⟩, (r : Int), ⟨#[]⟩, 0, ⟨#[]⟩⟩ : OpR), hHeld⟩
    exact AllReadyH.nil
  case rest =>
    obtain ⟨g, rfl, hge, hgo, hbx⟩ := hcut
    obtain ⟨kz, hkz⟩ : ∃ kz, 1 + (p : Int) = kz := ⟨_, rfl⟩
    rw [hkz] at hgo HR
    have HKZ := Lib.hid hkz; clear hkz hwp
    have HRS := Lib.hid (Blk.below HRES.out hbx)
    have HRW := Lib.hid (Blk.below HRAW.out hbx)
    have hbw2 : Below w.heap.size w wc := by have h := HBW.out; rw [← HBE.out] at h; exact bch h hbx
    have HB2 := Lib.hid hbw2; clear hbw2
    have HGO := Lib.hid hgo; clear hgo
    have hlr : B + 1 < W1.heap.size := Blk.lt HRES.out
    have hgB : B + 1 < g := by omega
    clear Z0 Z1 Z2 Z3 Z4 HRES HRAW HBW hltB hbx hge hlt
    obtain ⟨c0, c1, c2, c3, c4, c5, c6⟩ := HGO.out.cells
    simp only at c0 c1 c2 c3 c4 c5 c6
    by_cases k13 : p = 1 ∨ p = 3
    · have HE : Hid (R = ⟨kz, K1, valK v, r, ⟨#[]⟩, 0, ⟨#[]⟩⟩) := by
        show R = _
        rw [← HR.out, if_neg (by omega), if_pos k13, if_neg (by omega), if_neg (by omega), if_neg (by omega)]
      have e24 : (kz == 2) = true ∨ (kz == 2) = false ∧ (kz == 4) = true := by
        have := HKZ.out
        rcases k13 with rfl | rfl
        · left; simp; omega
        · right; constructor <;> simp <;> omega
      have E24 := Lib.hid e24; clear e24 k13
      rcases E24.out with e2 | ⟨e2, e4⟩
      all_goals
        go_upto_region 5 with fail
        have f3 := @val_get v
        have hbX : Below wc.heap.size wc (wc.alloc (.cells #[.string ⟨#[]⟩, .string ⟨#[120]⟩, .string ⟨#[121, 121]⟩, .string ⟨#[118, 97, 108, 117, 101]⟩] 9)) := (Below.refl _ _).alloc (Nat.le_refl _) _
        have hnX := Blk.new wc (.cells #[.string ⟨#[]⟩, .string ⟨#[120]⟩, .string ⟨#[121, 121]⟩, .string ⟨#[118, 97, 108, 117, 101]⟩] 9)
        obtain ⟨X, hX⟩ : ∃ X, (wc.alloc (.cells #[.string ⟨#[]⟩, .string ⟨#[120]⟩, .string ⟨#[121, 121]⟩, .string ⟨#[118, 97, 108, 117, 101]⟩] 9)) = X := ⟨_, rfl⟩
        rw [hX] at hbX hnX
        have HG3 := Lib.hid (OpBlk.below HGO.out hbX)
        have HRW3 := Lib.hid (Blk.below HRW.out hbX)
        have HRS3 := Lib.hid (Blk.below HRS.out hbX)
        have HB3 := Lib.hid (bch HB2.out hbX)
        have r2 := Blk.cell HRW3.out 2
        have x0 := Blk.cell hnX v
        simp only [List.getElem?_toArray, List.getElem?_cons_zero, List.getElem?_cons_succ] at r2
        rw [show (#[Value.string ⟨#[]⟩, .string ⟨#[120]⟩, .string ⟨#[121, 121]⟩, .string ⟨#[118, 97, 108, 117, 101]⟩] : Array Value)[v]? = some (.string (valK v)) from val_at h2] at x0
        have hv0 : (0 : Int) ≤ (v : Int) := by omega
        have hv4 : (v : Int) < 4 := by omega
        obtain ⟨d0, d1, d2, d3, d4, d5, d6⟩ := HG3.out.cells
        have fz := OpBlk.frozen HG3.out 2
        clear c0 c1 c2 c3 c4 c5 c6
        go_wp2_with fail
        ((with_reducible refine (q2a _).mono ?_); rintro e W_ ⟨rfl, rfl⟩)
        go_upto_region 13 with fail
        have hs5 : OpBlk (X.setCell ⟨g, 2, none⟩ (.string (valK v))) g ⟨kz, K1, valK v, r, ⟨#[]⟩, 0, ⟨#[]⟩⟩ := Blk.set HG3.out 2 (.string (valK v)) _ rfl
        have hr5 := Blk.far HRS3.out (show B + 1 ≠ g by omega) 2 (.string (valK v))
        have hb5 := HB3.out.setCell (p := ⟨g, 2, none⟩) (show w.heap.size ≤ g by have := HBE.out; omega) (.string (valK v))
        obtain ⟨V, hV⟩ : ∃ V, X.setCell ⟨g, 2, none⟩ (.string (valK v)) = V := ⟨_, rfl⟩
        rw [hV] at hs5 hr5 hb5 ⊢
        clear hV hX d0 d1 d2 d3 d4 d5 d6 fz
        obtain ⟨c0, c1, c2, c3, c4, c5, c6⟩ := hs5.cells
        simp only at c0 c1 c2 c3 c4 c5 c6
        have z0 := Blk.cell hr5 0
        have z1 := Blk.cell hr5 1
        have z2 := Blk.cell hr5 2
        have z3 := Blk.cell hr5 3
        have z4 := Blk.cell hr5 4
        have z5 := Blk.cell hr5 5
        have z6 := Blk.cell hr5 6
        simp only [List.getElem?_toArray, List.getElem?_cons_zero, List.getElem?_cons_succ] at z0 z1 z2 z3 z4 z5 z6
        have f0 := Blk.frozen hr5 0
        have f1 := Blk.frozen hr5 1
        have f2 := Blk.frozen hr5 2
        have f3 := Blk.frozen hr5 3
        have f4 := Blk.frozen hr5 4
        have f5 := Blk.frozen hr5 5
        have f6 := Blk.frozen hr5 6
        have hfin := op_put hr5 ((⟨kz, K1, valK v, r, ⟨#[]⟩, 0, ⟨#[]⟩⟩ : OpR))
        obtain ⟨e0, e1, e2, e3, e4, e5, e6⟩ := hfin.cells
        simp only at e0 e1 e2 e3 e4 e5 e6
        have HBF := Lib.hid (Below.seven (g := B + 1) hb5 (by have := HBE.out; omega) (.int .i64 ((⟨kz, K1, valK v, r, ⟨#[]⟩, 0, ⟨#[]⟩⟩ : OpR)).kind) (.string ((⟨kz, K1, valK v, r, ⟨#[]⟩, 0, ⟨#[]⟩⟩ : OpR)).key) (.string ((⟨kz, K1, valK v, r, ⟨#[]⟩, 0, ⟨#[]⟩⟩ : OpR)).value) (.int .i64 ((⟨kz, K1, valK v, r, ⟨#[]⟩, 0, ⟨#[]⟩⟩ : OpR)).rev) (.string ((⟨kz, K1, valK v, r, ⟨#[]⟩, 0, ⟨#[]⟩⟩ : OpR)).upto) (.int .i64 ((⟨kz, K1, valK v, r, ⟨#[]⟩, 0, ⟨#[]⟩⟩ : OpR)).life) (.string ((⟨kz, K1, valK v, r, ⟨#[]⟩, 0, ⟨#[]⟩⟩ : OpR)).note))
        clear hfin
        go_wp2_with fail
        refine bodyPost_ret (v := opV ((⟨kz, K1, valK v, r, ⟨#[]⟩, 0, ⟨#[]⟩⟩ : OpR))) (by simp [opV, results, Try.results12, go_sem, e0, e1, e2, e3, e4, e5, e6]) rfl ⟨by rw [HE.out], by have h := HBF.out; rw [HBE.out] at h; exact h⟩
    · by_cases k4 : p = 4
      · have HE : Hid (R = ⟨kz, K1, ⟨#[]⟩, r, ⟨#[]⟩, (y : Int), notK z⟩) := by
          show R = _
          rw [← HR.out, if_neg (by omega), if_neg k13, if_neg (by omega), if_pos k4, if_pos k4]
        have e2 : (kz == 2) = false := by have := HKZ.out; simp; omega
        have e4 : (kz == 4) = false := by have := HKZ.out; simp; omega
        have e5 : (kz == 5) = true := by have := HKZ.out; simp; omega
        clear k13 k4
        go_upto_region 7 with fail
        have r2 := Blk.cell HRW.out 2
        simp only [List.getElem?_toArray, List.getElem?_cons_zero, List.getElem?_cons_succ] at r2
        have fz := OpBlk.frozen HGO.out 5
        go_wp2_with fail
        ((with_reducible refine (q2b _).mono ?_); rintro e W_ ⟨rfl, rfl⟩)
        go_upto_region 8 with fail
        have hsg : OpBlk (wc.setCell ⟨g, 5, none⟩ (.int .i64 (y : Int))) g ⟨kz, K1, ⟨#[]⟩, r, ⟨#[]⟩, (y : Int), ⟨#[]⟩⟩ := Blk.set HGO.out 5 (.int .i64 (y : Int)) _ rfl
        have hsr := Blk.far HRS.out (show B + 1 ≠ g by omega) 5 (.int .i64 (y : Int))
        have hsw := Blk.far HRW.out (show B ≠ g by omega) 5 (.int .i64 (y : Int))
        have hsb := HB2.out.setCell (p := ⟨g, 5, none⟩) (show w.heap.size ≤ g by have := HBE.out; omega) (.int .i64 (y : Int))
        obtain ⟨V3, hV3⟩ : ∃ V, wc.setCell ⟨g, 5, none⟩ (.int .i64 (y : Int)) = V := ⟨_, rfl⟩
        rw [hV3] at hsg hsr hsw hsb ⊢
        have HG3 := Lib.hid hsg; clear hsg
        have HRS3 := Lib.hid hsr; clear hsr
        have HRW3 := Lib.hid hsw; clear hsw
        have HB3 := Lib.hid hsb; clear hsb
        clear hV3
        clear r2 fz c0 c1 c2 c3 c4 c5 c6
        have f3 := @not_get z
        have hbX : Below V3.heap.size V3 (V3.alloc (.cells #[.string ⟨#[]⟩, .string ⟨#[110]⟩, .string ⟨#[110, 111, 116, 101]⟩] 9)) := (Below.refl _ _).alloc (Nat.le_refl _) _
        have hnX := Blk.new V3 (.cells #[.string ⟨#[]⟩, .string ⟨#[110]⟩, .string ⟨#[110, 111, 116, 101]⟩] 9)
        obtain ⟨X, hX⟩ : ∃ X, (V3.alloc (.cells #[.string ⟨#[]⟩, .string ⟨#[110]⟩, .string ⟨#[110, 111, 116, 101]⟩] 9)) = X := ⟨_, rfl⟩
        rw [hX] at hbX hnX
        have HG4 := Lib.hid (OpBlk.below HG3.out hbX)
        have HRW4 := Lib.hid (Blk.below HRW3.out hbX)
        have HRS4 := Lib.hid (Blk.below HRS3.out hbX)
        have HB4 := Lib.hid (bch HB3.out hbX)
        have r4 := Blk.cell HRW4.out 4
        have x0 := Blk.cell hnX z
        simp only [List.getElem?_toArray, List.getElem?_cons_zero, List.getElem?_cons_succ] at r4
        rw [show (#[Value.string ⟨#[]⟩, .string ⟨#[110]⟩, .string ⟨#[110, 111, 116, 101]⟩] : Array Value)[z]? = some (.string (notK z)) from not_at h4] at x0
        have hv0 : (0 : Int) ≤ (z : Int) := by omega
        have hv4 : (z : Int) < 3 := by omega
        obtain ⟨d0, d1, d2, d3, d4, d5, d6⟩ := HG4.out.cells
        simp only at d0 d1 d2 d3 d4 d5 d6
        have fz := OpBlk.frozen HG4.out 6
        go_wp2_with fail
        ((with_reducible refine (q4 _).mono ?_); rintro e W_ ⟨rfl, rfl⟩)
        go_upto_region 13 with fail
        clear r4 fz d0 d1 d2 d3 d4 d5 d6 hX
        have hsg : OpBlk (X.setCell ⟨g, 6, none⟩ (.string (notK z))) g ⟨kz, K1, ⟨#[]⟩, r, ⟨#[]⟩, (y : Int), notK z⟩ := Blk.set HG4.out 6 (.string (notK z)) _ rfl
        have hsr := Blk.far HRS4.out (show B + 1 ≠ g by omega) 6 (.string (notK z))
        have hsw := Blk.far HRW4.out (show B ≠ g by omega) 6 (.string (notK z))
        have hsb := HB4.out.setCell (p := ⟨g, 6, none⟩) (show w.heap.size ≤ g by have := HBE.out; omega) (.string (notK z))
        obtain ⟨V5, hV5⟩ : ∃ V, X.setCell ⟨g, 6, none⟩ (.string (notK z)) = V := ⟨_, rfl⟩
        rw [hV5] at hsg hsr hsw hsb ⊢
        have HG5 := Lib.hid hsg; clear hsg
        have HRS5 := Lib.hid hsr; clear hsr
        have HRW5 := Lib.hid hsw; clear hsw
        have HB5 := Lib.hid hsb; clear hsb
        clear hV5
        obtain ⟨c0, c1, c2, c3, c4, c5, c6⟩ := HG5.out.cells
        simp only at c0 c1 c2 c3 c4 c5 c6
        have z0 := Blk.cell HRS5.out 0
        have z1 := Blk.cell HRS5.out 1
        have z2 := Blk.cell HRS5.out 2
        have z3 := Blk.cell HRS5.out 3
        have z4 := Blk.cell HRS5.out 4
        have z5 := Blk.cell HRS5.out 5
        have z6 := Blk.cell HRS5.out 6
        simp only [List.getElem?_toArray, List.getElem?_cons_zero, List.getElem?_cons_succ] at z0 z1 z2 z3 z4 z5 z6
        have f0 := Blk.frozen HRS5.out 0
        have f1 := Blk.frozen HRS5.out 1
        have f2 := Blk.frozen HRS5.out 2
        have f3 := Blk.frozen HRS5.out 3
        have f4 := Blk.frozen HRS5.out 4
        have f5 := Blk.frozen HRS5.out 5
        have f6 := Blk.frozen HRS5.out 6
        have hfin := op_put HRS5.out ((⟨kz, K1, ⟨#[]⟩, r, ⟨#[]⟩, (y : Int), notK z⟩ : OpR))
        obtain ⟨e0, e1, e2, e3, e4, e5, e6⟩ := hfin.cells
        simp only at e0 e1 e2 e3 e4 e5 e6
        have HBF := Lib.hid (Below.seven (g := B + 1) HB5.out (by have := HBE.out; omega) (.int .i64 ((⟨kz, K1, ⟨#[]⟩, r, ⟨#[]⟩, (y : Int), notK z⟩ : OpR)).kind) (.string ((⟨kz, K1, ⟨#[]⟩, r, ⟨#[]⟩, (y : Int), notK z⟩ : OpR)).key) (.string ((⟨kz, K1, ⟨#[]⟩, r, ⟨#[]⟩, (y : Int), notK z⟩ : OpR)).value) (.int .i64 ((⟨kz, K1, ⟨#[]⟩, r, ⟨#[]⟩, (y : Int), notK z⟩ : OpR)).rev) (.string ((⟨kz, K1, ⟨#[]⟩, r, ⟨#[]⟩, (y : Int), notK z⟩ : OpR)).upto) (.int .i64 ((⟨kz, K1, ⟨#[]⟩, r, ⟨#[]⟩, (y : Int), notK z⟩ : OpR)).life) (.string ((⟨kz, K1, ⟨#[]⟩, r, ⟨#[]⟩, (y : Int), notK z⟩ : OpR)).note))
        clear hfin
        go_wp2_with fail
        refine bodyPost_ret (v := opV ((⟨kz, K1, ⟨#[]⟩, r, ⟨#[]⟩, (y : Int), notK z⟩ : OpR))) (by simp [opV, results, Try.results12, go_sem, e0, e1, e2, e3, e4, e5, e6]) rfl ⟨by rw [HE.out], by have h := HBF.out; rw [HBE.out] at h; exact h⟩
      · by_cases k5 : p = 5
        · have e2 : (kz == 2) = false := by have := HKZ.out; simp; omega
          have e4 : (kz == 4) = false := by have := HKZ.out; simp; omega
          have e5 : (kz == 5) = false := by have := HKZ.out; simp; omega
          have e6 : (kz == 6) = true := by have := HKZ.out; simp; omega
          by_cases hz : z = 0
          · have HE : Hid (R = ⟨kz, ⟨#[]⟩, ⟨#[]⟩, r, endK v, 0, ⟨#[]⟩⟩) := by
              show R = _
              rw [← HR.out, if_pos ⟨k5, hz⟩, if_neg k13, if_pos k5, if_neg k4, if_neg k4]
            have ez : ((z : Int) == 0) = true := by simp; omega
            clear k13 k4 k5 hz
            go_upto_region 10 with fail
            have f3 := @end_get v
            have hbX : Below wc.heap.size wc (wc.alloc (.cells #[.string ⟨#[]⟩, .string ⟨#[98]⟩, .string ⟨#[98, 111, 98]⟩, .string ⟨#[97, 98, 49]⟩] 9)) := (Below.refl _ _).alloc (Nat.le_refl _) _
            have hnX := Blk.new wc (.cells #[.string ⟨#[]⟩, .string ⟨#[98]⟩, .string ⟨#[98, 111, 98]⟩, .string ⟨#[97, 98, 49]⟩] 9)
            obtain ⟨X, hX⟩ : ∃ X, (wc.alloc (.cells #[.string ⟨#[]⟩, .string ⟨#[98]⟩, .string ⟨#[98, 111, 98]⟩, .string ⟨#[97, 98, 49]⟩] 9)) = X := ⟨_, rfl⟩
            rw [hX] at hbX hnX
            have HG3 := Lib.hid (OpBlk.below HGO.out hbX)
            have HRW3 := Lib.hid (Blk.below HRW.out hbX)
            have HRS3 := Lib.hid (Blk.below HRS.out hbX)
            have HB3 := Lib.hid (bch HB2.out hbX)
            have r2 := Blk.cell HRW3.out 2
            have x0 := Blk.cell hnX v
            simp only [List.getElem?_toArray, List.getElem?_cons_zero, List.getElem?_cons_succ] at r2
            rw [show (#[Value.string ⟨#[]⟩, .string ⟨#[98]⟩, .string ⟨#[98, 111, 98]⟩, .string ⟨#[97, 98, 49]⟩] : Array Value)[v]? = some (.string (endK v)) from end_at h2] at x0
            have hv0 : (0 : Int) ≤ (v : Int) := by omega
            have hv4 : (v : Int) < 4 := by omega
            clear c0 c1 c2 c3 c4 c5 c6
            obtain ⟨d0, d1, d2, d3, d4, d5, d6⟩ := HG3.out.cells
            simp only at d0 d1 d2 d3 d4 d5 d6
            have fz := OpBlk.frozen HG3.out 4
            go_wp2_with fail
            ((with_reducible refine (q2a _).mono ?_); rintro e W_ ⟨rfl, rfl⟩)
            go_upto_region 11 with fail
            clear r2 fz d0 d1 d2 d3 d4 d5 d6 hX
            have hsg : OpBlk (X.setCell ⟨g, 4, none⟩ (.string (endK v))) g ⟨kz, K1, ⟨#[]⟩, r, endK v, 0, ⟨#[]⟩⟩ := Blk.set HG3.out 4 (.string (endK v)) _ rfl
            have hsr := Blk.far HRS3.out (show B + 1 ≠ g by omega) 4 (.string (endK v))
            have hsw := Blk.far HRW3.out (show B ≠ g by omega) 4 (.string (endK v))
            have hsb := HB3.out.setCell (p := ⟨g, 4, none⟩) (show w.heap.size ≤ g by have := HBE.out; omega) (.string (endK v))
            obtain ⟨V4, hV4⟩ : ∃ V, X.setCell ⟨g, 4, none⟩ (.string (endK v)) = V := ⟨_, rfl⟩
            rw [hV4] at hsg hsr hsw hsb ⊢
            have HG4 := Lib.hid hsg; clear hsg
            have HRS4 := Lib.hid hsr; clear hsr
            have HRW4 := Lib.hid hsw; clear hsw
            have HB4 := Lib.hid hsb; clear hsb
            clear hV4
            have r4 := Blk.cell HRW4.out 4
            simp only [List.getElem?_toArray, List.getElem?_cons_zero, List.getElem?_cons_succ] at r4
            obtain ⟨d0, d1, d2, d3, d4, d5, d6⟩ := HG4.out.cells
            simp only at d0 d1 d2 d3 d4 d5 d6
            have fz := OpBlk.frozen HG4.out 1
            go_wp2_with fail
            ((with_reducible refine (q4 _).mono ?_); rintro e W_ ⟨rfl, rfl⟩)
            go_upto_region 13 with fail
            clear r4 fz d0 d1 d2 d3 d4 d5 d6
            have hsg : OpBlk (V4.setCell ⟨g, 1, none⟩ (.string ⟨#[]⟩)) g ⟨kz, ⟨#[]⟩, ⟨#[]⟩, r, endK v, 0, ⟨#[]⟩⟩ := Blk.set HG4.out 1 (.string ⟨#[]⟩) _ rfl
            have hsr := Blk.far HRS4.out (show B + 1 ≠ g by omega) 1 (.string ⟨#[]⟩)
            have hsw := Blk.far HRW4.out (show B ≠ g by omega) 1 (.string ⟨#[]⟩)
            have hsb := HB4.out.setCell (p := ⟨g, 1, none⟩) (show w.heap.size ≤ g by have := HBE.out; omega) (.string ⟨#[]⟩)
            obtain ⟨V5, hV5⟩ : ∃ V, V4.setCell ⟨g, 1, none⟩ (.string ⟨#[]⟩) = V := ⟨_, rfl⟩
            rw [hV5] at hsg hsr hsw hsb ⊢
            have HG5 := Lib.hid hsg; clear hsg
            have HRS5 := Lib.hid hsr; clear hsr
            have HRW5 := Lib.hid hsw; clear hsw
            have HB5 := Lib.hid hsb; clear hsb
            clear hV5
            obtain ⟨c0, c1, c2, c3, c4, c5, c6⟩ := HG5.out.cells
            simp only at c0 c1 c2 c3 c4 c5 c6
            have z0 := Blk.cell HRS5.out 0
            have z1 := Blk.cell HRS5.out 1
            have z2 := Blk.cell HRS5.out 2
            have z3 := Blk.cell HRS5.out 3
            have z4 := Blk.cell HRS5.out 4
            have z5 := Blk.cell HRS5.out 5
            have z6 := Blk.cell HRS5.out 6
            simp only [List.getElem?_toArray, List.getElem?_cons_zero, List.getElem?_cons_succ] at z0 z1 z2 z3 z4 z5 z6
            have f0 := Blk.frozen HRS5.out 0
            have f1 := Blk.frozen HRS5.out 1
            have f2 := Blk.frozen HRS5.out 2
            have f3 := Blk.frozen HRS5.out 3
            have f4 := Blk.frozen HRS5.out 4
            have f5 := Blk.frozen HRS5.out 5
            have f6 := Blk.frozen HRS5.out 6
            have hfin := op_put HRS5.out ((⟨kz, ⟨#[]⟩, ⟨#[]⟩, r, endK v, 0, ⟨#[]⟩⟩ : OpR))
            obtain ⟨e0, e1, e2, e3, e4, e5, e6⟩ := hfin.cells
            simp only at e0 e1 e2 e3 e4 e5 e6
            have HBF := Lib.hid (Below.seven (g := B + 1) HB5.out (by have := HBE.out; omega) (.int .i64 ((⟨kz, ⟨#[]⟩, ⟨#[]⟩, r, endK v, 0, ⟨#[]⟩⟩ : OpR)).kind) (.string ((⟨kz, ⟨#[]⟩, ⟨#[]⟩, r, endK v, 0, ⟨#[]⟩⟩ : OpR)).key) (.string ((⟨kz, ⟨#[]⟩, ⟨#[]⟩, r, endK v, 0, ⟨#[]⟩⟩ : OpR)).value) (.int .i64 ((⟨kz, ⟨#[]⟩, ⟨#[]⟩, r, endK v, 0, ⟨#[]⟩⟩ : OpR)).rev) (.string ((⟨kz, ⟨#[]⟩, ⟨#[]⟩, r, endK v, 0, ⟨#[]⟩⟩ : OpR)).upto) (.int .i64 ((⟨kz, ⟨#[]⟩, ⟨#[]⟩, r, endK v, 0, ⟨#[]⟩⟩ : OpR)).life) (.string ((⟨kz, ⟨#[]⟩, ⟨#[]⟩, r, endK v, 0, ⟨#[]⟩⟩ : OpR)).note))
            clear hfin
            go_wp2_with fail
            refine bodyPost_ret (v := opV ((⟨kz, ⟨#[]⟩, ⟨#[]⟩, r, endK v, 0, ⟨#[]⟩⟩ : OpR))) (by simp [opV, results, Try.results12, go_sem, e0, e1, e2, e3, e4, e5, e6]) rfl ⟨by rw [HE.out], by have h := HBF.out; rw [HBE.out] at h; exact h⟩
          · have HE : Hid (R = ⟨kz, K1, ⟨#[]⟩, r, endK v, 0, ⟨#[]⟩⟩) := by
              show R = _
              rw [← HR.out, if_neg (fun h => hz h.2), if_neg k13, if_pos k5, if_neg k4, if_neg k4]
            have ez : ((z : Int) == 0) = false := by simp; omega
            clear k13 k4 k5 hz
            go_upto_region 10 with fail
            have f3 := @end_get v
            have hbX : Below wc.heap.size wc (wc.alloc (.cells #[.string ⟨#[]⟩, .string ⟨#[98]⟩, .string ⟨#[98, 111, 98]⟩, .string ⟨#[97, 98, 49]⟩] 9)) := (Below.refl _ _).alloc (Nat.le_refl _) _
            have hnX := Blk.new wc (.cells #[.string ⟨#[]⟩, .string ⟨#[98]⟩, .string ⟨#[98, 111, 98]⟩, .string ⟨#[97, 98, 49]⟩] 9)
            obtain ⟨X, hX⟩ : ∃ X, (wc.alloc (.cells #[.string ⟨#[]⟩, .string ⟨#[98]⟩, .string ⟨#[98, 111, 98]⟩, .string ⟨#[97, 98, 49]⟩] 9)) = X := ⟨_, rfl⟩
            rw [hX] at hbX hnX
            have HG3 := Lib.hid (OpBlk.below HGO.out hbX)
            have HRW3 := Lib.hid (Blk.below HRW.out hbX)
            have HRS3 := Lib.hid (Blk.below HRS.out hbX)
            have HB3 := Lib.hid (bch HB2.out hbX)
            have r2 := Blk.cell HRW3.out 2
            have x0 := Blk.cell hnX v
            simp only [List.getElem?_toArray, List.getElem?_cons_zero, List.getElem?_cons_succ] at r2
            rw [show (#[Value.string ⟨#[]⟩, .string ⟨#[98]⟩, .string ⟨#[98, 111, 98]⟩, .string ⟨#[97, 98, 49]⟩] : Array Value)[v]? = some (.string (endK v)) from end_at h2] at x0
            have hv0 : (0 : Int) ≤ (v : Int) := by omega
            have hv4 : (v : Int) < 4 := by omega
            clear c0 c1 c2 c3 c4 c5 c6
            obtain ⟨d0, d1, d2, d3, d4, d5, d6⟩ := HG3.out.cells
            simp only at d0 d1 d2 d3 d4 d5 d6
            have fz := OpBlk.frozen HG3.out 4
            go_wp2_with fail
            ((with_reducible refine (q2a _).mono ?_); rintro e W_ ⟨rfl, rfl⟩)
            go_upto_region 11 with fail
            clear r2 fz d0 d1 d2 d3 d4 d5 d6 hX
            have hsg : OpBlk (X.setCell ⟨g, 4, none⟩ (.string (endK v))) g ⟨kz, K1, ⟨#[]⟩, r, endK v, 0, ⟨#[]⟩⟩ := Blk.set HG3.out 4 (.string (endK v)) _ rfl
            have hsr := Blk.far HRS3.out (show B + 1 ≠ g by omega) 4 (.string (endK v))
            have hsw := Blk.far HRW3.out (show B ≠ g by omega) 4 (.string (endK v))
            have hsb := HB3.out.setCell (p := ⟨g, 4, none⟩) (show w.heap.size ≤ g by have := HBE.out; omega) (.string (endK v))
            obtain ⟨V4, hV4⟩ : ∃ V, X.setCell ⟨g, 4, none⟩ (.string (endK v)) = V := ⟨_, rfl⟩
            rw [hV4] at hsg hsr hsw hsb ⊢
            have HG4 := Lib.hid hsg; clear hsg
            have HRS4 := Lib.hid hsr; clear hsr
            have HRW4 := Lib.hid hsw; clear hsw
            have HB4 := Lib.hid hsb; clear hsb
            clear hV4
            have r4 := Blk.cell HRW4.out 4
            simp only [List.getElem?_toArray, List.getElem?_cons_zero, List.getElem?_cons_succ] at r4
            obtain ⟨d0, d1, d2, d3, d4, d5, d6⟩ := HG4.out.cells
            simp only at d0 d1 d2 d3 d4 d5 d6
            have fz := OpBlk.frozen HG4.out 1
            go_wp2_with fail
            ((with_reducible refine (q4 _).mono ?_); rintro e W_ ⟨rfl, rfl⟩)
            go_upto_region 13 with fail
            clear r4 fz d0 d1 d2 d3 d4 d5 d6
            obtain ⟨c0, c1, c2, c3, c4, c5, c6⟩ := HG4.out.cells
            simp only at c0 c1 c2 c3 c4 c5 c6
            have z0 := Blk.cell HRS4.out 0
            have z1 := Blk.cell HRS4.out 1
            have z2 := Blk.cell HRS4.out 2
            have z3 := Blk.cell HRS4.out 3
            have z4 := Blk.cell HRS4.out 4
            have z5 := Blk.cell HRS4.out 5
            have z6 := Blk.cell HRS4.out 6
            simp only [List.getElem?_toArray, List.getElem?_cons_zero, List.getElem?_cons_succ] at z0 z1 z2 z3 z4 z5 z6
            have f0 := Blk.frozen HRS4.out 0
            have f1 := Blk.frozen HRS4.out 1
            have f2 := Blk.frozen HRS4.out 2
            have f3 := Blk.frozen HRS4.out 3
            have f4 := Blk.frozen HRS4.out 4
            have f5 := Blk.frozen HRS4.out 5
            have f6 := Blk.frozen HRS4.out 6
            have hfin := op_put HRS4.out ((⟨kz, K1, ⟨#[]⟩, r, endK v, 0, ⟨#[]⟩⟩ : OpR))
            obtain ⟨e0, e1, e2, e3, e4, e5, e6⟩ := hfin.cells
            simp only at e0 e1 e2 e3 e4 e5 e6
            have HBF := Lib.hid (Below.seven (g := B + 1) HB4.out (by have := HBE.out; omega) (.int .i64 ((⟨kz, K1, ⟨#[]⟩, r, endK v, 0, ⟨#[]⟩⟩ : OpR)).kind) (.string ((⟨kz, K1, ⟨#[]⟩, r, endK v, 0, ⟨#[]⟩⟩ : OpR)).key) (.string ((⟨kz, K1, ⟨#[]⟩, r, endK v, 0, ⟨#[]⟩⟩ : OpR)).value) (.int .i64 ((⟨kz, K1, ⟨#[]⟩, r, endK v, 0, ⟨#[]⟩⟩ : OpR)).rev) (.string ((⟨kz, K1, ⟨#[]⟩, r, endK v, 0, ⟨#[]⟩⟩ : OpR)).upto) (.int .i64 ((⟨kz, K1, ⟨#[]⟩, r, endK v, 0, ⟨#[]⟩⟩ : OpR)).life) (.string ((⟨kz, K1, ⟨#[]⟩, r, endK v, 0, ⟨#[]⟩⟩ : OpR)).note))
            clear hfin
            go_wp2_with fail
            refine bodyPost_ret (v := opV ((⟨kz, K1, ⟨#[]⟩, r, endK v, 0, ⟨#[]⟩⟩ : OpR))) (by simp [opV, results, Try.results12, go_sem, e0, e1, e2, e3, e4, e5, e6]) rfl ⟨by rw [HE.out], by have h := HBF.out; rw [HBE.out] at h; exact h⟩
        · have HE : Hid (R = ⟨kz, K1, ⟨#[]⟩, r, ⟨#[]⟩, 0, ⟨#[]⟩⟩) := by
            show R = _
            rw [← HR.out, if_neg (fun h => k5 h.1), if_neg k13, if_neg k5, if_neg k4, if_neg k4]
          have e2 : (kz == 2) = false := by have := HKZ.out; simp; omega
          have e4 : (kz == 4) = false := by have := HKZ.out; simp; omega
          have e5 : (kz == 5) = false := by have := HKZ.out; simp; omega
          have e6 : (kz == 6) = false := by have := HKZ.out; simp; omega
          clear k13 k4 k5 c0 c1 c2 c3 c4 c5 c6
          have hg0 := HGO.out
          obtain ⟨c0, c1, c2, c3, c4, c5, c6⟩ := hg0.cells
          go_upto_region 13 with fail
          clear c0 c1 c2 c3 c4 c5 c6
          obtain ⟨c0, c1, c2, c3, c4, c5, c6⟩ := HGO.out.cells
          simp only at c0 c1 c2 c3 c4 c5 c6
          have z0 := Blk.cell HRS.out 0
          have z1 := Blk.cell HRS.out 1
          have z2 := Blk.cell HRS.out 2
          have z3 := Blk.cell HRS.out 3
          have z4 := Blk.cell HRS.out 4
          have z5 := Blk.cell HRS.out 5
          have z6 := Blk.cell HRS.out 6
          simp only [List.getElem?_toArray, List.getElem?_cons_zero, List.getElem?_cons_succ] at z0 z1 z2 z3 z4 z5 z6
          have f0 := Blk.frozen HRS.out 0
          have f1 := Blk.frozen HRS.out 1
          have f2 := Blk.frozen HRS.out 2
          have f3 := Blk.frozen HRS.out 3
          have f4 := Blk.frozen HRS.out 4
          have f5 := Blk.frozen HRS.out 5
          have f6 := Blk.frozen HRS.out 6
          have hfin := op_put HRS.out ((⟨kz, K1, ⟨#[]⟩, r, ⟨#[]⟩, 0, ⟨#[]⟩⟩ : OpR))
          obtain ⟨e0, e1, e2, e3, e4, e5, e6⟩ := hfin.cells
          simp only at e0 e1 e2 e3 e4 e5 e6
          have HBF := Lib.hid (Below.seven (g := B + 1) HB2.out (by have := HBE.out; omega) (.int .i64 ((⟨kz, K1, ⟨#[]⟩, r, ⟨#[]⟩, 0, ⟨#[]⟩⟩ : OpR)).kind) (.string ((⟨kz, K1, ⟨#[]⟩, r, ⟨#[]⟩, 0, ⟨#[]⟩⟩ : OpR)).key) (.string ((⟨kz, K1, ⟨#[]⟩, r, ⟨#[]⟩, 0, ⟨#[]⟩⟩ : OpR)).value) (.int .i64 ((⟨kz, K1, ⟨#[]⟩, r, ⟨#[]⟩, 0, ⟨#[]⟩⟩ : OpR)).rev) (.string ((⟨kz, K1, ⟨#[]⟩, r, ⟨#[]⟩, 0, ⟨#[]⟩⟩ : OpR)).upto) (.int .i64 ((⟨kz, K1, ⟨#[]⟩, r, ⟨#[]⟩, 0, ⟨#[]⟩⟩ : OpR)).life) (.string ((⟨kz, K1, ⟨#[]⟩, r, ⟨#[]⟩, 0, ⟨#[]⟩⟩ : OpR)).note))
          clear hfin
          go_wp2_with fail
          refine bodyPost_ret (v := opV ((⟨kz, K1, ⟨#[]⟩, r, ⟨#[]⟩, 0, ⟨#[]⟩⟩ : OpR))) (by simp [opV, results, Try.results12, go_sem, e0, e1, e2, e3, e4, e5, e6]) rfl ⟨by rw [HE.out], by have h := HBF.out; rw [HBE.out] at h; exact h⟩
end Go.Proofs.Ytpnkkiokkhmjpaa
