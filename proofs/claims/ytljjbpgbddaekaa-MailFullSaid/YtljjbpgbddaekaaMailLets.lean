import Derived.Test.YtljjbpgbddaekaaMail
import Derived.Test.YtljjbpgbddaekaaOpen
import Derived.Test.YtljjbpgbddaekaaGPick
/-
  The contract of the law package's own Letters (stage 11): letters of raw numbers.
-/
namespace Go.Proofs.Ytljjbpgbddaekaa
open Go.RowKit
set_option linter.unusedVariables false

def bytes4 (k : Nat) : ByteArray := if k = 0 then ⟨#[]⟩ else if k = 1 then ⟨#[97]⟩ else if k = 2 then ⟨#[98, 99]⟩ else ⟨#[1]⟩
theorem bytes4_size (k : Nat) : (bytes4 k).size ≤ 2 := by
  unfold bytes4
  split
  · decide
  · split
    · decide
    · split <;> decide
/-- The letter of a row of raw numbers; the first k letters. -/
def lettR (f : Nat → Nat → Int) (i : Nat) : Lt := ⟨pickN (f i 0) 3, pickN (f i 1) 3, bytes4 (pickN (f i 2) 4)⟩
def lettersR (f : Nat → Nat → Int) (k : Nat) : List Lt := (List.range k).map (lettR f)
theorem letters_succ (f : Nat → Nat → Int) (k : Nat) : lettersR f (k + 1) = lettersR f k ++ [lettR f k] := by
  unfold lettersR; rw [List.range_succ, List.map_append]; rfl
theorem letters_len (f : Nat → Nat → Int) (k : Nat) : (lettersR f k).length = k := by unfold lettersR; simp
theorem lettR_wf (f : Nat → Nat → Int) (i : Nat) : LtWf (lettR f i) := by
  have h1 := pickN_lt (f i 0) 3 (by omega)
  have h2 := pickN_lt (f i 1) 3 (by omega)
  have h3 := bytes4_size (pickN (f i 2) 4)
  exact ⟨wf_within (by show (-9223372036854775808 : Int) ≤ (pickN (f i 0) 3 : Int); omega) (by show (pickN (f i 0) 3 : Int) ≤ _; omega), wf_within (by show (-9223372036854775808 : Int) ≤ (pickN (f i 1) 3 : Int); omega) (by show (pickN (f i 1) 3 : Int) ≤ _; omega), by show (bytes4 (pickN (f i 2) 4)).size ≤ _; omega⟩
theorem letters_wf (f : Nat → Nat → Int) (k : Nat) : LtsWf (lettersR f k) := fun m hm => by
  unfold lettersR at hm
  obtain ⟨i, _, rfl⟩ := List.mem_map.1 hm
  exact lettR_wf f i
theorem own_formL {w : World} {base n : Nat} {v : Value} {xs : List Value} {e : TypeId} {sz : Nat} (h : w.ownsRow base e sz v n xs) : ∃ A cap, v = .slice A n cap := by
  rcases h.2 with ⟨hn, hv⟩ | ⟨g, cap, cur, hv, _⟩
  · exact ⟨none, 0, by simp_all⟩
  · exact ⟨_, cap, hv⟩
theorem step_append_lt {w : World} {ops : Array Oper} {o : Oper} {a : Act} {K : Act → World → Prop} {Q : Exit → Act → World → Prop} {E : Prop} (hgd : o.guard = none) (s x : Operand)
    (ho : o.op = .call { callee := .builtin .append, args := #[s, x], argTypes := #[23, 23] })
    (base : Nat) (v : Value) (l : List Lt) (hs : a.eval s = v) (hown : RowL w base v l)
    (b c : Nat) (m : Lt) (hx : a.eval x = .slice (some ⟨b, 0, none⟩) 1 c) (hf : IsLs w (some ⟨b, 0, none⟩) 1 [m])
    (h63 : l.length + 1 ≤ 1000) (hbase : base ≤ w.heap.size)
    (h : ∀ A2 cap2 w', RowL w' base (.slice A2 (l.length + 1) cap2) (l ++ [m]) → w.grownBy w' v.ownBlock → K (a.put o.dst (.slice A2 (l.length + 1) cap2)) w') :
    if Region.wanted o (yielded ops a.tmps) = true then Oper.wp Try.prog o a w K Q else E := by
  obtain ⟨i0, hi, hz0, hz1, hz2⟩ := info_parts infoL
  have hw : Region.wanted o (yielded ops a.tmps) = true := by simp [Region.wanted, hgd]
  rw [if_pos hw]
  obtain ⟨_, _, _, hat⟩ := hf
  obtain ⟨b', off, hA, hb, hat⟩ := hat (by omega)
  simp only [Option.some.injEq, Addr.mk.injEq, and_true] at hA
  obtain ⟨rfl, rfl⟩ := hA
  obtain ⟨v', w', hr, h2, h3, h4, h5⟩ := run_append_own_at (P := Try.prog) w base 23 o.type 25 i0 (.agg #[.int .i64 0, .int .i64 0, .string ⟨#[]⟩]) 3 32 Try.underlying23 hi hz0 hz1 hz2 rfl (by decide) v l.length _ hown ⟨b, 0, none⟩ 1 c (cellsL [m]) (by rw [cellsL_len]; rfl) (lets_cells hat) (cellsL_one [m]) (by unfold maxLen; omega) (by omega) hbase
  obtain ⟨A2, cap2, rfl⟩ := own_formL h2
  unfold Oper.wp execOp
  simp only [ho, resolve, invoke, builtin, Sem.run_bind, Sem.run_pure, Result.andThen_ok, List.map_toArray, List.map_cons, List.map_nil, hs, hx, hr]
  refine h _ _ w' ?_ h3
  unfold RowL
  rw [cellsL_append, List.length_append]; exact h2

set_option maxRecDepth 100000 in
set_option maxHeartbeats 8000000 in
theorem letters_any (A : Option Addr) (n cap : Nat) (f : Nat → Nat → Int) (w : World) (h : IsRaw w A n 3 f) :
    Calls Try.prog 10 #[.slice A n cap] w (LsPost w (lettersR f (min n 30)) id) := by
  have hnm := h.1
  have HC := Lib.hid h; clear h
  obtain ⟨R, hR⟩ : ∃ R, lettersR f (min n 30) = R := ⟨_, rfl⟩
  rw [hR]
  have HR := Lib.hid hR; clear hR
  go_enter Try.func10, Try.ntmps10
  go_wp2_with fail
  go_loopw [3, 4] (fun v i wy => ∃ (k : Nat) (wr : World), wr = wy ∧ k ≤ n ∧ k ≤ 30 ∧ i = .int .i64 k ∧ RowL wr w.heap.size v (lettersR f k) ∧ Below w.heap.size w wr) (fun _ i _ => 40 - (intOf i).toNat)
  case atStart => exact ⟨0, _, rfl, by omega, by omega, rfl, rowL_nil _ _, Below.refl _ _⟩
  case round =>
    obtain ⟨k, wr, rfl, hk, hk30, rfl, hrow, hb⟩ := hrel
    obtain ⟨Av, cv, hv, hcv, hlv⟩ := hrow.isLs (letters_wf f k)
    rw [letters_len] at hv hcv hlv
    subst hv
    have HB := Lib.hid hb; clear hb
    have hsz : w.heap.size ≤ wr.heap.size := HB.out.size
    by_cases hcnd : k < n ∧ k < 30
    · obtain ⟨hlt, h30⟩ := hcnd
      obtain ⟨b, off, hA, hbb, hc⟩ := HC.out.2 (by omega)
      subst hA
      have z0 := hc k 0 hlt (by omega)
      have z1 := hc k 1 hlt (by omega)
      have z2 := hc k 2 hlt (by omega)
      have Z0 : Hid (w.cell? ⟨b, off + k * 3, none⟩ = some (.int .i64 (f k 0))) := by show _ = _; simpa using z0.1
      have Z1 := Lib.hid z1.1
      have Z2 := Lib.hid z2.1
      have x0 : wr.cell? ⟨b, off + k * 3, none⟩ = some (.int .i64 (f k 0)) := (HB.out.cell (p := ⟨b, off + k * 3, none⟩) hbb).trans (by simpa using z0.1)
      have x1 := (HB.out.cell (p := ⟨b, off + k * 3 + 1, none⟩) hbb).trans z1.1
      have x2 := (HB.out.cell (p := ⟨b, off + k * 3 + 2, none⟩) hbb).trans z2.1
      clear hc
      have qp1 := fun W => pickN11_nat (f k 0) 3 (by omega) (by omega) z0.2 W
      have qp2 := fun W => pickN11_nat (f k 1) 3 (by omega) (by omega) z1.2 W
      have qp3 := fun W => pickN11_nat (f k 2) 4 (by omega) (by omega) z2.2 W
      have hp1 := pickN_lt (f k 0) 3 (by omega)
      have hp2 := pickN_lt (f k 1) 3 (by omega)
      have hp3 := pickN_lt (f k 2) 4 (by omega)
      have HLR : Hid (lettR f k = ⟨(pickN (f k 0) 3 : Int), (pickN (f k 1) 3 : Int), bytes4 (pickN (f k 2) 4)⟩) := rfl
      have HLW := Lib.hid (lettR_wf f k)
      clear z0 z1 z2 x0 x1 x2
      generalize f k 0 = r0 at *
      generalize f k 1 = r1 at *
      generalize f k 2 = r2 at *
      generalize pickN r0 3 = p1 at *
      generalize pickN r1 3 = p2 at *
      generalize pickN r2 4 = p3 at *
      have hgl : ([.string ⟨#[]⟩, .string ⟨#[97]⟩, .string ⟨#[98, 99]⟩, .string ⟨#[1]⟩] : List Value)[p3]'(by simp; omega) = .string (bytes4 p3) := by
        rcases (by omega : p3 = 0 ∨ p3 = 1 ∨ p3 = 2 ∨ p3 = 3) with rfl | rfl | rfl | rfl <;> rfl
      generalize bytes4 p3 = B at *
      have hb1 : Below wr.heap.size wr (wr.alloc (.cells #[.string ⟨#[]⟩, .string ⟨#[97]⟩, .string ⟨#[98, 99]⟩, .string ⟨#[1]⟩] 9)).drew := ((Below.refl wr.heap.size wr).alloc (Nat.le_refl _) _).drew
      have hs1 : (wr.alloc (.cells #[.string ⟨#[]⟩, .string ⟨#[97]⟩, .string ⟨#[98, 99]⟩, .string ⟨#[1]⟩] 9)).drew.heap.size = wr.heap.size + 1 := World.size_alloc wr _
      have hone : ∀ W, W = ((wr.alloc (.cells #[.string ⟨#[]⟩, .string ⟨#[97]⟩, .string ⟨#[98, 99]⟩, .string ⟨#[1]⟩] 9)).drew.alloc (.cells #[.int .i64 (p1 : Int), .int .i64 (p2 : Int), .string B] 25)) → IsLs W (some ⟨wr.heap.size + 1, 0, none⟩) 1 [lettR f k] := by
        rintro W rfl
        have h := isLs_one (wr.alloc (.cells #[.string ⟨#[]⟩, .string ⟨#[97]⟩, .string ⟨#[98, 99]⟩, .string ⟨#[1]⟩] 9)).drew (lettR f k) HLW.out
        rw [hs1, HLR.out] at h
        rw [HLR.out]
        exact h
      have hown3 : ∀ W, W = ((wr.alloc (.cells #[.string ⟨#[]⟩, .string ⟨#[97]⟩, .string ⟨#[98, 99]⟩, .string ⟨#[1]⟩] 9)).drew.alloc (.cells #[.int .i64 (p1 : Int), .int .i64 (p2 : Int), .string B] 25)) → RowL W w.heap.size (.slice Av k cv) (lettersR f k) ∧ Below w.heap.size w W ∧ w.heap.size ≤ W.heap.size := by
        rintro W rfl
        have h2 : Below wr.heap.size wr ((wr.alloc (.cells #[.string ⟨#[]⟩, .string ⟨#[97]⟩, .string ⟨#[98, 99]⟩, .string ⟨#[1]⟩] 9)).drew.alloc (.cells #[.int .i64 (p1 : Int), .int .i64 (p2 : Int), .string B] 25)) := hb1.alloc (by rw [hs1]; omega) _
        exact ⟨hrow.below h2, bch HB.out h2, Nat.le_trans hsz h2.size⟩
      have HONE := Lib.hid hone; clear hone
      have HOWN := Lib.hid hown3; clear hown3
      have hkl : (k : Int) < (n : Int) := by omega
      have hk3 : (k : Int) < 30 := by omega
      have hk0 : (0 : Int) ≤ (k : Int) := by omega
      have hp30 : (0 : Int) ≤ (p3 : Int) := by omega
      have hp34 : (p3 : Int) < 4 := by omega
      clear hs1 hb1 hrow hlv
      have HLN : Hid ((lettersR f k).length = k) := letters_len f k
      have hp3n : p3 < 4 := by omega
      go_upto_region 5 with fail
      refine wp_region_noPanic ?_
      refine wp_region_held_drew (S := fun W => Below w.heap.size w W) (by kernel_rfl) (HB.out.drew) (fun hHeld => ?_)
      refine wpAnyH_take (i := 0) (v := ?_) rfl (by kernel_rfl) (by kernel_rfl) (by kernel_rfl) (fun _ _ _ h => h) (Or.inl ⟨by rfl, ?_⟩) (by assumption) ?_
      rotate_left
      · (intro w hSw; (try dsimp only at hSw); go_simp; (try with_reducible rfl))
      simp only [Act.put, List.getElem_toArray, List.getElem_cons_zero, List.setIfInBounds_toArray, List.set_cons_zero, List.set_cons_succ]
      refine wpAnyH_take (i := 1) (v := ?_) rfl (by kernel_rfl) (by kernel_rfl) (by kernel_rfl) (fun _ _ _ h => h) (Or.inl ⟨by rfl, ?_⟩) (by assumption) ?_
      rotate_left
      · (intro w hSw; (try dsimp only at hSw); go_simp; (try with_reducible rfl))
      simp only [Act.put, List.getElem_toArray, List.getElem_cons_zero, List.getElem_cons_succ, List.setIfInBounds_toArray, List.set_cons_zero, List.set_cons_succ]
      refine wpAnyH_take (i := 2) (v := ?_) rfl (by kernel_rfl) (by kernel_rfl) (by kernel_rfl) (fun _ _ _ h => h) (Or.inl ⟨by rfl, ?_⟩) (by assumption) ?_
      rotate_left
      · (intro w hSw; (try dsimp only at hSw); go_simp; (try with_reducible rfl))
      simp only [Act.put, List.getElem_toArray, List.getElem_cons_zero, List.getElem_cons_succ, List.setIfInBounds_toArray, List.set_cons_zero, List.set_cons_succ]
      refine wpAnyH_take (i := 3) (v := ?_) rfl (by kernel_rfl) (by kernel_rfl) (by kernel_rfl) (fun _ _ _ h => h) (Or.inl ⟨by rfl, ?_⟩) (by assumption) ?_
      rotate_left
      · (intro w hSw; (try dsimp only at hSw); go_simp; (try with_reducible rfl))
      simp only [Act.put, List.getElem_toArray, List.getElem_cons_zero, List.getElem_cons_succ, List.setIfInBounds_toArray, List.set_cons_zero, List.set_cons_succ]
      refine wpAnyH_take (i := 4) (v := ?_) rfl (by kernel_rfl) (by kernel_rfl) (by kernel_rfl) (fun _ _ _ h => h) (Or.inl ⟨by rfl, ?_⟩) (by assumption) ?_
      rotate_left
      · (intro w hSw; (try dsimp only at hSw); go_simp; (try with_reducible rfl))
      simp only [Act.put, List.getElem_toArray, List.getElem_cons_zero, List.getElem_cons_succ, List.setIfInBounds_toArray, List.set_cons_zero, List.set_cons_succ]
      refine wpAnyH_take (i := 5) (v := ?_) rfl (by kernel_rfl) (by kernel_rfl) (by kernel_rfl) (fun _ _ _ h => h) (Or.inl ⟨by rfl, ?_⟩) (by assumption) ?_
      rotate_left
      · (intro w hSw; (try dsimp only at hSw); have xc := (hSw.cell (p := ⟨b, off + k * 3, none⟩) hbb).trans Z0.out; go_simp; (try with_reducible rfl))
      simp only [Act.put, List.getElem_toArray, List.getElem_cons_zero, List.getElem_cons_succ, List.setIfInBounds_toArray, List.set_cons_zero, List.set_cons_succ]
      refine wpAnyH_take (i := 7) (v := ?_) rfl (by kernel_rfl) (by kernel_rfl) (by kernel_rfl) (fun _ _ _ h => h) (Or.inl ⟨by rfl, ?_⟩) (by assumption) ?_
      rotate_left
      · (intro w hSw; (try dsimp only at hSw); go_simp; (try with_reducible rfl))
      simp only [Act.put, List.getElem_toArray, List.getElem_cons_zero, List.getElem_cons_succ, List.setIfInBounds_toArray, List.set_cons_zero, List.set_cons_succ]
      refine wpAnyH_take (i := 8) (v := ?_) rfl (by kernel_rfl) (by kernel_rfl) (by kernel_rfl) (fun _ _ _ h => h) (Or.inl ⟨by rfl, ?_⟩) (by assumption) ?_
      rotate_left
      · (intro w hSw; (try dsimp only at hSw); go_simp; (try with_reducible rfl))
      simp only [Act.put, List.getElem_toArray, List.getElem_cons_zero, List.getElem_cons_succ, List.setIfInBounds_toArray, List.set_cons_zero, List.set_cons_succ]
      refine wpAnyH_take (i := 9) (v := ?_) rfl (by kernel_rfl) (by kernel_rfl) (by kernel_rfl) (fun _ _ _ h => h) (Or.inl ⟨by rfl, ?_⟩) (by assumption) ?_
      rotate_left
      · (intro w hSw; (try dsimp only at hSw); go_simp; (try with_reducible rfl))
      simp only [Act.put, List.getElem_toArray, List.getElem_cons_zero, List.getElem_cons_succ, List.setIfInBounds_toArray, List.set_cons_zero, List.set_cons_succ]
      refine wpAnyH_take (i := 10) (v := ?_) rfl (by kernel_rfl) (by kernel_rfl) (by kernel_rfl) (fun _ _ _ h => h) (Or.inl ⟨by rfl, ?_⟩) (by assumption) ?_
      rotate_left
      · (intro w hSw; (try dsimp only at hSw); go_simp; (try with_reducible rfl))
      simp only [Act.put, List.getElem_toArray, List.getElem_cons_zero, List.getElem_cons_succ, List.setIfInBounds_toArray, List.set_cons_zero, List.set_cons_succ]
      refine wpAnyH_take (i := 11) (v := ?_) rfl (by kernel_rfl) (by kernel_rfl) (by kernel_rfl) (fun _ _ _ h => h) (Or.inl ⟨by rfl, ?_⟩) (by assumption) ?_
      rotate_left
      · (intro w hSw; (try dsimp only at hSw); have xc := (hSw.cell (p := ⟨b, off + k * 3 + 1, none⟩) hbb).trans Z1.out; go_simp; (try with_reducible rfl))
      simp only [Act.put, List.getElem_toArray, List.getElem_cons_zero, List.getElem_cons_succ, List.setIfInBounds_toArray, List.set_cons_zero, List.set_cons_succ]
      refine wpAnyH_take (i := 14) (v := ?_) rfl (by kernel_rfl) (by kernel_rfl) (by kernel_rfl) (fun _ _ _ h => h) (Or.inl ⟨by rfl, ?_⟩) (by assumption) ?_
      rotate_left
      · (intro w hSw; (try dsimp only at hSw); go_simp; (try with_reducible rfl))
      simp only [Act.put, List.getElem_toArray, List.getElem_cons_zero, List.getElem_cons_succ, List.setIfInBounds_toArray, List.set_cons_zero, List.set_cons_succ]
      refine wpAnyH_take (i := 15) (v := ?_) rfl (by kernel_rfl) (by kernel_rfl) (by kernel_rfl) (fun _ _ _ h => h) (Or.inl ⟨by rfl, ?_⟩) (by assumption) ?_
      rotate_left
      · (intro w hSw; (try dsimp only at hSw); go_simp; (try with_reducible rfl))
      simp only [Act.put, List.getElem_toArray, List.getElem_cons_zero, List.getElem_cons_succ, List.setIfInBounds_toArray, List.set_cons_zero, List.set_cons_succ]
      refine wpAnyH_take (i := 16) (v := ?_) rfl (by kernel_rfl) (by kernel_rfl) (by kernel_rfl) (fun _ _ _ h => h) (Or.inl ⟨by rfl, ?_⟩) (by assumption) ?_
      rotate_left
      · (intro w hSw; (try dsimp only at hSw); go_simp; (try with_reducible rfl))
      simp only [Act.put, List.getElem_toArray, List.getElem_cons_zero, List.getElem_cons_succ, List.setIfInBounds_toArray, List.set_cons_zero, List.set_cons_succ]
      refine wpAnyH_take (i := 17) (v := ?_) rfl (by kernel_rfl) (by kernel_rfl) (by kernel_rfl) (fun _ _ _ h => h) (Or.inl ⟨by rfl, ?_⟩) (by assumption) ?_
      rotate_left
      · (intro w hSw; (try dsimp only at hSw); go_simp; (try with_reducible rfl))
      simp only [Act.put, List.getElem_toArray, List.getElem_cons_zero, List.getElem_cons_succ, List.setIfInBounds_toArray, List.set_cons_zero, List.set_cons_succ]
      refine wpAnyH_take (i := 18) (v := ?_) rfl (by kernel_rfl) (by kernel_rfl) (by kernel_rfl) (fun _ _ _ h => h) (Or.inl ⟨by rfl, ?_⟩) (by assumption) ?_
      rotate_left
      · (intro w hSw; (try dsimp only at hSw); have xc := (hSw.cell (p := ⟨b, off + k * 3 + 2, none⟩) hbb).trans Z2.out; go_simp; (try with_reducible rfl))
      simp only [Act.put, List.getElem_toArray, List.getElem_cons_zero, List.getElem_cons_succ, List.setIfInBounds_toArray, List.set_cons_zero, List.set_cons_succ]
      refine wpAnyH_ready (rs := [6, 13]) (by kernel_rfl) (by simp) ?_
      refine AllReadyH.cons rfl (fun K hK => ?_) ?_
      · rw [if_pos (by rfl)]
        go_simp
        ((with_reducible refine (qp1 _).mono ?_); rintro e w' ⟨rfl, rfl⟩)
        refine hK.out _ _ (hHeld) (fun hHeld2 => ?_)
        clear hK K hHeld
        have hHeld := hHeld2; clear hHeld2
        refine wpAnyH_ready (rs := [12, 13]) (by kernel_rfl) (by simp) ?_
        refine AllReadyH.cons rfl (fun K hK => ?_) ?_
        · rw [if_pos (by rfl)]
          go_simp
          ((with_reducible refine (qp2 _).mono ?_); rintro e w' ⟨rfl, rfl⟩)
          refine hK.out _ _ (hHeld) (fun hHeld2 => ?_)
          clear hK K hHeld
          have hHeld := hHeld2; clear hHeld2
          refine wpAnyH_ready (rs := [13, 19]) (by kernel_rfl) (by simp) ?_
          refine AllReadyH.cons rfl (fun K hK => ?_) ?_
          · rw [if_pos (by rfl)]
            go_simp
            refine hK.out _ _ (hHeld.alloc hHeld.size _) (fun hHeld2 => ?_)
            clear hK K hHeld
            have hHeld := hHeld2; clear hHeld2
            refine wpAnyH_ready (rs := [19]) (by kernel_rfl) (by simp) ?_
            refine AllReadyH.cons rfl (fun K hK => ?_) AllReadyH.nil
            rw [if_pos (by rfl)]
            go_simp
            ((with_reducible refine (qp3 _).mono ?_); rintro e w' ⟨rfl, rfl⟩)
            refine hK.out _ _ (hHeld) (fun hHeld2 => ?_)
            clear hK K hHeld
            have hHeld := hHeld2; clear hHeld2
            refine wpAnyH_take (i := 20) (v := ?_) rfl (by kernel_rfl) (by kernel_rfl) (by kernel_rfl) (fun _ _ _ h => h) (Or.inl ⟨by rfl, ?_⟩) (by assumption) ?_
            rotate_left
            · (intro w hSw; (try dsimp only at hSw); go_simp; (try with_reducible rfl))
            simp only [Act.put, List.getElem_toArray, List.getElem_cons_zero, List.getElem_cons_succ, List.setIfInBounds_toArray, List.set_cons_zero, List.set_cons_succ]
            refine wpAnyH_ready (rs := [21]) (by kernel_rfl) (by simp) ?_
            refine AllReadyH.cons rfl (fun K hK => ?_) AllReadyH.nil
            rw [if_pos (by rfl)]
            go_simp
            refine hK.out _ _ (hHeld) (fun hHeld2 => ?_)
            clear hK K hHeld
            have hHeld := hHeld2; clear hHeld2
            refine wpAnyH_take (i := 22) (v := ?_) rfl (by kernel_rfl) (by kernel_rfl) (by kernel_rfl) (fun _ _ _ h => h) (Or.inl ⟨by rfl, ?_⟩) (by assumption) ?_
            rotate_left
            · (intro w hSw; (try dsimp only at hSw); go_simp; (try with_reducible rfl))
            simp only [Act.put, List.getElem_toArray, List.getElem_cons_zero, List.getElem_cons_succ, List.setIfInBounds_toArray, List.set_cons_zero, List.set_cons_succ]
            refine wpAnyH_ready (rs := [23]) (by kernel_rfl) (by simp) ?_
            refine AllReadyH.cons rfl (fun K hK => ?_) AllReadyH.nil
            rw [if_pos (by rfl)]
            go_simp
            refine hK.out _ _ (hHeld.alloc hHeld.size _) (fun hHeld2 => ?_)
            clear hK K hHeld
            have hHeld := hHeld2; clear hHeld2
            refine wpAnyH_ready (rs := [24]) (by kernel_rfl) (by simp) ?_
            refine AllReadyH.cons rfl (fun K hK => ?_) AllReadyH.nil
            refine step_append_lt rfl _ _ rfl w.heap.size _ (lettersR f k) rfl (HOWN.out _ rfl).1 (wr.heap.size + 1) 1 (lettR f k) rfl (HONE.out _ rfl) (by rw [HLN.out]; omega) (HOWN.out _ rfl).2.2 ?_
            intro A2 cap2 V2 hown4 hgrow
            have hlt4 := (HOWN.out _ rfl).1.lt
            have hbw4 := (HOWN.out _ rfl).2.1.grown hgrow (HOWN.out _ rfl).2.2 (fun g hg => (hlt4 g hg).1)
            refine hK.out _ _ hbw4 (fun hHeld2 => ?_)
            clear hK K hHeld hHeld2 hlt4 hgrow
            refine wpAnyH_take (i := 25) (v := ?_) rfl (by kernel_rfl) (by kernel_rfl) (by kernel_rfl) (fun _ _ _ h => h) (Or.inl ⟨by rfl, ?_⟩) (by assumption) ?_
            rotate_left
            · (intro w hSw; (try dsimp only at hSw); go_simp; (try with_reducible rfl))
            simp only [Act.put, List.getElem_toArray, List.getElem_cons_zero, List.getElem_cons_succ, List.setIfInBounds_toArray, List.set_cons_zero, List.set_cons_succ]
            refine wpAnyH_done (by kernel_rfl) ?_ _
            refine NoPanic.normal ?_
            have HR4 := Lib.hid hown4; clear hown4
            have HB4 := Lib.hid hbw4; clear hbw4
            have HSU := Lib.hid (letters_succ f k)
            go_wp2_with fail
            go_roundw
            case rel => exact ⟨k + 1, _, rfl, by omega, by omega, by go_num, by rw [HSU.out]; exact HR4.out, HB4.out⟩
            case measure => simp [intOf]; omega
          refine AllReadyH.cons rfl (fun K hK => ?_) ?_
          · rw [if_pos (by rfl)]
            go_simp
            ((with_reducible refine (qp3 _).mono ?_); rintro e w' ⟨rfl, rfl⟩)
            refine hK.out _ _ (hHeld) (fun hHeld2 => ?_)
            clear hK K hHeld
            have hHeld := hHeld2; clear hHeld2
            refine wpAnyH_ready (rs := [13]) (by kernel_rfl) (by simp) ?_
            refine AllReadyH.cons rfl (fun K hK => ?_) AllReadyH.nil
            rw [if_pos (by rfl)]
            go_simp
            refine hK.out _ _ (hHeld.alloc hHeld.size _) (fun hHeld2 => ?_)
            clear hK K hHeld
            have hHeld := hHeld2; clear hHeld2
            refine wpAnyH_take (i := 20) (v := ?_) rfl (by kernel_rfl) (by kernel_rfl) (by kernel_rfl) (fun _ _ _ h => h) (Or.inl ⟨by rfl, ?_⟩) (by assumption) ?_
            rotate_left
            · (intro w hSw; (try dsimp only at hSw); go_simp; (try with_reducible rfl))
            simp only [Act.put, List.getElem_toArray, List.getElem_cons_zero, List.getElem_cons_succ, List.setIfInBounds_toArray, List.set_cons_zero, List.set_cons_succ]
            refine wpAnyH_ready (rs := [21]) (by kernel_rfl) (by simp) ?_
            refine AllReadyH.cons rfl (fun K hK => ?_) AllReadyH.nil
            rw [if_pos (by rfl)]
            go_simp
            refine hK.out _ _ (hHeld) (fun hHeld2 => ?_)
            clear hK K hHeld
            have hHeld := hHeld2; clear hHeld2
            refine wpAnyH_take (i := 22) (v := ?_) rfl (by kernel_rfl) (by kernel_rfl) (by kernel_rfl) (fun _ _ _ h => h) (Or.inl ⟨by rfl, ?_⟩) (by assumption) ?_
            rotate_left
            · (intro w hSw; (try dsimp only at hSw); go_simp; (try with_reducible rfl))
            simp only [Act.put, List.getElem_toArray, List.getElem_cons_zero, List.getElem_cons_succ, List.setIfInBounds_toArray, List.set_cons_zero, List.set_cons_succ]
            refine wpAnyH_ready (rs := [23]) (by kernel_rfl) (by simp) ?_
            refine AllReadyH.cons rfl (fun K hK => ?_) AllReadyH.nil
            rw [if_pos (by rfl)]
            go_simp
            refine hK.out _ _ (hHeld.alloc hHeld.size _) (fun hHeld2 => ?_)
            clear hK K hHeld
            have hHeld := hHeld2; clear hHeld2
            refine wpAnyH_ready (rs := [24]) (by kernel_rfl) (by simp) ?_
            refine AllReadyH.cons rfl (fun K hK => ?_) AllReadyH.nil
            refine step_append_lt rfl _ _ rfl w.heap.size _ (lettersR f k) rfl (HOWN.out _ rfl).1 (wr.heap.size + 1) 1 (lettR f k) rfl (HONE.out _ rfl) (by rw [HLN.out]; omega) (HOWN.out _ rfl).2.2 ?_
            intro A2 cap2 V2 hown4 hgrow
            have hlt4 := (HOWN.out _ rfl).1.lt
            have hbw4 := (HOWN.out _ rfl).2.1.grown hgrow (HOWN.out _ rfl).2.2 (fun g hg => (hlt4 g hg).1)
            refine hK.out _ _ hbw4 (fun hHeld2 => ?_)
            clear hK K hHeld hHeld2 hlt4 hgrow
            refine wpAnyH_take (i := 25) (v := ?_) rfl (by kernel_rfl) (by kernel_rfl) (by kernel_rfl) (fun _ _ _ h => h) (Or.inl ⟨by rfl, ?_⟩) (by assumption) ?_
            rotate_left
            · (intro w hSw; (try dsimp only at hSw); go_simp; (try with_reducible rfl))
            simp only [Act.put, List.getElem_toArray, List.getElem_cons_zero, List.getElem_cons_succ, List.setIfInBounds_toArray, List.set_cons_zero, List.set_cons_succ]
            refine wpAnyH_done (by kernel_rfl) ?_ _
            refine NoPanic.normal ?_
            have HR4 := Lib.hid hown4; clear hown4
            have HB4 := Lib.hid hbw4; clear hbw4
            have HSU := Lib.hid (letters_succ f k)
            go_wp2_with fail
            go_roundw
            case rel => exact ⟨k + 1, _, rfl, by omega, by omega, by go_num, by rw [HSU.out]; exact HR4.out, HB4.out⟩
            case measure => simp [intOf]; omega
          exact AllReadyH.nil
        refine AllReadyH.cons rfl (fun K hK => ?_) ?_
        · rw [if_pos (by rfl)]
          go_simp
          refine hK.out _ _ (hHeld.alloc hHeld.size _) (fun hHeld2 => ?_)
          clear hK K hHeld
          have hHeld := hHeld2; clear hHeld2
          refine wpAnyH_ready (rs := [12]) (by kernel_rfl) (by simp) ?_
          refine AllReadyH.cons rfl (fun K hK => ?_) AllReadyH.nil
          rw [if_pos (by rfl)]
          go_simp
          ((with_reducible refine (qp2 _).mono ?_); rintro e w' ⟨rfl, rfl⟩)
          refine hK.out _ _ (hHeld) (fun hHeld2 => ?_)
          clear hK K hHeld
          have hHeld := hHeld2; clear hHeld2
          refine wpAnyH_ready (rs := [19]) (by kernel_rfl) (by simp) ?_
          refine AllReadyH.cons rfl (fun K hK => ?_) AllReadyH.nil
          rw [if_pos (by rfl)]
          go_simp
          ((with_reducible refine (qp3 _).mono ?_); rintro e w' ⟨rfl, rfl⟩)
          refine hK.out _ _ (hHeld) (fun hHeld2 => ?_)
          clear hK K hHeld
          have hHeld := hHeld2; clear hHeld2
          refine wpAnyH_take (i := 20) (v := ?_) rfl (by kernel_rfl) (by kernel_rfl) (by kernel_rfl) (fun _ _ _ h => h) (Or.inl ⟨by rfl, ?_⟩) (by assumption) ?_
          rotate_left
          · (intro w hSw; (try dsimp only at hSw); go_simp; (try with_reducible rfl))
          simp only [Act.put, List.getElem_toArray, List.getElem_cons_zero, List.getElem_cons_succ, List.setIfInBounds_toArray, List.set_cons_zero, List.set_cons_succ]
          refine wpAnyH_ready (rs := [21]) (by kernel_rfl) (by simp) ?_
          refine AllReadyH.cons rfl (fun K hK => ?_) AllReadyH.nil
          rw [if_pos (by rfl)]
          go_simp
          refine hK.out _ _ (hHeld) (fun hHeld2 => ?_)
          clear hK K hHeld
          have hHeld := hHeld2; clear hHeld2
          refine wpAnyH_take (i := 22) (v := ?_) rfl (by kernel_rfl) (by kernel_rfl) (by kernel_rfl) (fun _ _ _ h => h) (Or.inl ⟨by rfl, ?_⟩) (by assumption) ?_
          rotate_left
          · (intro w hSw; (try dsimp only at hSw); go_simp; (try with_reducible rfl))
          simp only [Act.put, List.getElem_toArray, List.getElem_cons_zero, List.getElem_cons_succ, List.setIfInBounds_toArray, List.set_cons_zero, List.set_cons_succ]
          refine wpAnyH_ready (rs := [23]) (by kernel_rfl) (by simp) ?_
          refine AllReadyH.cons rfl (fun K hK => ?_) AllReadyH.nil
          rw [if_pos (by rfl)]
          go_simp
          refine hK.out _ _ (hHeld.alloc hHeld.size _) (fun hHeld2 => ?_)
          clear hK K hHeld
          have hHeld := hHeld2; clear hHeld2
          refine wpAnyH_ready (rs := [24]) (by kernel_rfl) (by simp) ?_
          refine AllReadyH.cons rfl (fun K hK => ?_) AllReadyH.nil
          refine step_append_lt rfl _ _ rfl w.heap.size _ (lettersR f k) rfl (HOWN.out _ rfl).1 (wr.heap.size + 1) 1 (lettR f k) rfl (HONE.out _ rfl) (by rw [HLN.out]; omega) (HOWN.out _ rfl).2.2 ?_
          intro A2 cap2 V2 hown4 hgrow
          have hlt4 := (HOWN.out _ rfl).1.lt
          have hbw4 := (HOWN.out _ rfl).2.1.grown hgrow (HOWN.out _ rfl).2.2 (fun g hg => (hlt4 g hg).1)
          refine hK.out _ _ hbw4 (fun hHeld2 => ?_)
          clear hK K hHeld hHeld2 hlt4 hgrow
          refine wpAnyH_take (i := 25) (v := ?_) rfl (by kernel_rfl) (by kernel_rfl) (by kernel_rfl) (fun _ _ _ h => h) (Or.inl ⟨by rfl, ?_⟩) (by assumption) ?_
          rotate_left
          · (intro w hSw; (try dsimp only at hSw); go_simp; (try with_reducible rfl))
          simp only [Act.put, List.getElem_toArray, List.getElem_cons_zero, List.getElem_cons_succ, List.setIfInBounds_toArray, List.set_cons_zero, List.set_cons_succ]
          refine wpAnyH_done (by kernel_rfl) ?_ _
          refine NoPanic.normal ?_
          have HR4 := Lib.hid hown4; clear hown4
          have HB4 := Lib.hid hbw4; clear hbw4
          have HSU := Lib.hid (letters_succ f k)
          go_wp2_with fail
          go_roundw
          case rel => exact ⟨k + 1, _, rfl, by omega, by omega, by go_num, by rw [HSU.out]; exact HR4.out, HB4.out⟩
          case measure => simp [intOf]; omega
        exact AllReadyH.nil
      refine AllReadyH.cons rfl (fun K hK => ?_) ?_
      · rw [if_pos (by rfl)]
        go_simp
        refine hK.out _ _ (hHeld.alloc hHeld.size _) (fun hHeld2 => ?_)
        clear hK K hHeld
        have hHeld := hHeld2; clear hHeld2
        refine wpAnyH_ready (rs := [6]) (by kernel_rfl) (by simp) ?_
        refine AllReadyH.cons rfl (fun K hK => ?_) AllReadyH.nil
        rw [if_pos (by rfl)]
        go_simp
        ((with_reducible refine (qp1 _).mono ?_); rintro e w' ⟨rfl, rfl⟩)
        refine hK.out _ _ (hHeld) (fun hHeld2 => ?_)
        clear hK K hHeld
        have hHeld := hHeld2; clear hHeld2
        refine wpAnyH_ready (rs := [12]) (by kernel_rfl) (by simp) ?_
        refine AllReadyH.cons rfl (fun K hK => ?_) AllReadyH.nil
        rw [if_pos (by rfl)]
        go_simp
        ((with_reducible refine (qp2 _).mono ?_); rintro e w' ⟨rfl, rfl⟩)
        refine hK.out _ _ (hHeld) (fun hHeld2 => ?_)
        clear hK K hHeld
        have hHeld := hHeld2; clear hHeld2
        refine wpAnyH_ready (rs := [19]) (by kernel_rfl) (by simp) ?_
        refine AllReadyH.cons rfl (fun K hK => ?_) AllReadyH.nil
        rw [if_pos (by rfl)]
        go_simp
        ((with_reducible refine (qp3 _).mono ?_); rintro e w' ⟨rfl, rfl⟩)
        refine hK.out _ _ (hHeld) (fun hHeld2 => ?_)
        clear hK K hHeld
        have hHeld := hHeld2; clear hHeld2
        refine wpAnyH_take (i := 20) (v := ?_) rfl (by kernel_rfl) (by kernel_rfl) (by kernel_rfl) (fun _ _ _ h => h) (Or.inl ⟨by rfl, ?_⟩) (by assumption) ?_
        rotate_left
        · (intro w hSw; (try dsimp only at hSw); go_simp; (try with_reducible rfl))
        simp only [Act.put, List.getElem_toArray, List.getElem_cons_zero, List.getElem_cons_succ, List.setIfInBounds_toArray, List.set_cons_zero, List.set_cons_succ]
        refine wpAnyH_ready (rs := [21]) (by kernel_rfl) (by simp) ?_
        refine AllReadyH.cons rfl (fun K hK => ?_) AllReadyH.nil
        rw [if_pos (by rfl)]
        go_simp
        refine hK.out _ _ (hHeld) (fun hHeld2 => ?_)
        clear hK K hHeld
        have hHeld := hHeld2; clear hHeld2
        refine wpAnyH_take (i := 22) (v := ?_) rfl (by kernel_rfl) (by kernel_rfl) (by kernel_rfl) (fun _ _ _ h => h) (Or.inl ⟨by rfl, ?_⟩) (by assumption) ?_
        rotate_left
        · (intro w hSw; (try dsimp only at hSw); go_simp; (try with_reducible rfl))
        simp only [Act.put, List.getElem_toArray, List.getElem_cons_zero, List.getElem_cons_succ, List.setIfInBounds_toArray, List.set_cons_zero, List.set_cons_succ]
        refine wpAnyH_ready (rs := [23]) (by kernel_rfl) (by simp) ?_
        refine AllReadyH.cons rfl (fun K hK => ?_) AllReadyH.nil
        rw [if_pos (by rfl)]
        go_simp
        refine hK.out _ _ (hHeld.alloc hHeld.size _) (fun hHeld2 => ?_)
        clear hK K hHeld
        have hHeld := hHeld2; clear hHeld2
        refine wpAnyH_ready (rs := [24]) (by kernel_rfl) (by simp) ?_
        refine AllReadyH.cons rfl (fun K hK => ?_) AllReadyH.nil
        refine step_append_lt rfl _ _ rfl w.heap.size _ (lettersR f k) rfl (HOWN.out _ rfl).1 (wr.heap.size + 1) 1 (lettR f k) rfl (HONE.out _ rfl) (by rw [HLN.out]; omega) (HOWN.out _ rfl).2.2 ?_
        intro A2 cap2 V2 hown4 hgrow
        have hlt4 := (HOWN.out _ rfl).1.lt
        have hbw4 := (HOWN.out _ rfl).2.1.grown hgrow (HOWN.out _ rfl).2.2 (fun g hg => (hlt4 g hg).1)
        refine hK.out _ _ hbw4 (fun hHeld2 => ?_)
        clear hK K hHeld hHeld2 hlt4 hgrow
        refine wpAnyH_take (i := 25) (v := ?_) rfl (by kernel_rfl) (by kernel_rfl) (by kernel_rfl) (fun _ _ _ h => h) (Or.inl ⟨by rfl, ?_⟩) (by assumption) ?_
        rotate_left
        · (intro w hSw; (try dsimp only at hSw); go_simp; (try with_reducible rfl))
        simp only [Act.put, List.getElem_toArray, List.getElem_cons_zero, List.getElem_cons_succ, List.setIfInBounds_toArray, List.set_cons_zero, List.set_cons_succ]
        refine wpAnyH_done (by kernel_rfl) ?_ _
        refine NoPanic.normal ?_
        have HR4 := Lib.hid hown4; clear hown4
        have HB4 := Lib.hid hbw4; clear hbw4
        have HSU := Lib.hid (letters_succ f k)
        go_wp2_with fail
        go_roundw
        case rel => exact ⟨k + 1, _, rfl, by omega, by omega, by go_num, by rw [HSU.out]; exact HR4.out, HB4.out⟩
        case measure => simp [intOf]; omega
      exact AllReadyH.nil
    · have hcnd2 : ¬ ((k : Int) < (n : Int)) ∨ ¬ ((k : Int) < 30) := by omega
      have hke : k = min n 30 := by omega
      have HE : Hid (lettersR f k = R) := by show _ = _; rw [hke]; exact HR.out
      have HLS := Lib.hid hlv
      have HNW := Lib.hid hrow.new
      clear hlv hrow hke
      by_cases hkn : k < n
      · have h1 : (k : Int) < (n : Int) := by omega
        have h2 : (30 : Int) ≤ (k : Int) := by omega
        clear hcnd hcnd2 hkn hk hk30
        go_wp2_with fail
        go_ret
        exact ⟨Av, k, cv, rfl, hcv, by rw [← HE.out]; exact HLS.out, HNW.out, HB.out⟩
      · have h1 : (n : Int) ≤ (k : Int) := by omega
        clear hcnd hcnd2 hkn
        go_wp2_with fail
        go_ret
        exact ⟨Av, k, cv, rfl, hcv, by rw [← HE.out]; exact HLS.out, HNW.out, HB.out⟩
end Go.Proofs.Ytljjbpgbddaekaa
