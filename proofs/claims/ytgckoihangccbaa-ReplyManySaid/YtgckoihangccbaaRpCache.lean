import Derived.Test.YtgckoihangccbaaRpAnsM
import Derived.Test.YtgckoihangccbaaRpKeep
import Derived.Test.YtgckoihangccbaaOpen
/-
  The contract of the law package's own Cache (stage 13).
-/
namespace Go.Proofs.Ytgckoihangccbaa
open Go.RowKit
set_option linter.unusedVariables false
set_option linter.unusedSimpArgs false

/-- A cache of raw numbers. -/
noncomputable def cacheK (f : Nat → Nat → Int) : Nat → List DnR
  | 0 => []
  | k + 1 => if (keepL (cacheK f k) (1 + (pickN (f k 0) 10 : Int)) (1 + (pickN (f k 1) 20 : Int)) (ansR fun j => f k (j + 2))).2 = 0 then (keepL (cacheK f k) (1 + (pickN (f k 0) 10 : Int)) (1 + (pickN (f k 1) 20 : Int)) (ansR fun j => f k (j + 2))).1 else cacheK f k
noncomputable def cacheR (f : Nat → Nat → Int) (n : Nat) : List DnR := cacheK f (min n 30)
theorem keepL_right {l : List DnR} {c i : Int} {r : RepR} (h : (keepL l c i r).2 = 0) : RightD (keepL l c i r).1 := by
  by_cases h70 : (lookL l c i).2 = 70
  · by_cases hg : RightD l ∧ GoodC c i
    · by_cases hm : MayP r
      · have hl : ∀ d, lookD l c = some d → d.id < i := fun d hd => by
          rw [look_tell hg.1 hg.2, hd] at h70
          unfold tellD at h70
          simp only at h70
          by_cases h1 : d.id < i
          · exact h1
          · rw [if_neg h1] at h70
            split at h70 <;> cases h70
        rcases keep_new hg.1 hg.2 hm hl with ⟨_, _, e⟩ | ⟨_, _, e⟩
        · rw [e] at h; cases h
        · exact e.1
      · unfold keepL at h; rw [if_pos (.inr (.inr hm))] at h; cases h
    · unfold lookL at h70; rw [if_pos hg] at h70; cases h70
  · rcases look_num l c i with e | e | e | e
    · unfold keepL at h; rw [if_pos (.inl e)] at h; cases h
    · unfold keepL at h; rw [if_pos (.inr (.inl e))] at h; cases h
    · unfold keepL at h
      by_cases hm : MayP r
      · rw [e, if_neg (by rintro (e | e | e); cases e; cases e; exact e hm), if_pos rfl] at h; cases h
      · rw [if_pos (.inr (.inr hm))] at h; cases h
    · exact absurd e h70
theorem cacheK_right (f : Nat → Nat → Int) : ∀ k, RightD (cacheK f k)
  | 0 => rightD_nil
  | k + 1 => by
    unfold cacheK
    split
    · rename_i h; exact keepL_right h
    · exact cacheK_right f k
theorem cacheR_right (f : Nat → Nat → Int) (n : Nat) : RightD (cacheR f n) := cacheK_right f _
theorem wf_i64 {z : Int} (h1 : -9223372036854775808 ≤ z) (h2 : z ≤ 9223372036854775807) : (Lit.int .i64 z).wf = true := by
  rw [show (Lit.int .i64 z).wf = (decide (-9223372036854775808 ≤ z) && decide (z ≤ 9223372036854775807)) from rfl]
  simp; omega
/-- What is asked of Answer. What Cache leaves. -/
def AnsQ : Prop := ∀ (a : Nat → Int) (ha : ∀ j, j < 3 → (Lit.int .i64 (a j)).wf = true) (w : World), Calls Try.prog 10 #[threeV a] w (OwnR13 w (ansR a))
def CachePost (w : World) (l : List DnR) (e : Ending) (w' : World) : Prop := ∃ A n cap, e = .returned (.slice A n cap) ∧ n ≤ cap ∧ IsDs w' A n l ∧ Below w.heap.size w w'
theorem ans_w (a : Nat → Int) : RpW (ansR a) ∧ (ansR a).keys.length ≤ 5 := by
  have h := ans_may a
  obtain ⟨_, ⟨h1, h2⟩, h3, h4, h5⟩ := h
  unfold maxN at h2
  exact ⟨⟨wf_i64 (by omega) (by omega), wf_i64 (by omega) (by omega), by omega⟩, h4⟩
set_option maxRecDepth 100000 in
set_option maxHeartbeats 8000000 in
theorem cache_any (qa : AnsQ) (f : Nat → Nat → Int) (A : Option Addr) (n cap : Nat) (w : World) (h : IsRaw w A n 5 f) :
    Calls Try.prog 8 #[.slice A n cap] w (CachePost w (cacheR f n)) := by
  have hn9 := h.1
  have HRAW := Lib.hid h; clear h
  obtain ⟨R, hR⟩ : ∃ R, cacheR f n = R := ⟨_, rfl⟩
  rw [hR]
  have HR := Lib.hid hR; clear hR
  go_enter Try.func8, Try.ntmps8
  go_wp2_with fail
  go_loopw [3, 4] (fun l i wy => ∃ (j : Nat) (wr : World) (B : Option Addr) (m cm : Nat), wr = wy ∧ j ≤ n ∧ j ≤ 30 ∧ i = .int .i64 j ∧ l = .slice B m cm ∧ m ≤ cm ∧ IsDs wr B m (cacheK f j) ∧ Below w.heap.size w wr) (fun _ i _ => n - (intOf i).toNat)
  case atStart => exact ⟨0, _, none, 0, 0, rfl, by omega, by omega, rfl, rfl, Nat.le_refl _, isDs_nil _ _, Below.refl _ _⟩
  case round =>
    obtain ⟨j, wr, B, m, cm, rfl, hj, hj30, rfl, rfl, hmc, hds, hb⟩ := hrel
    have HB := Lib.hid hb; clear hb
    have HDS := Lib.hid hds; clear hds
    by_cases hlt : j < n ∧ j < 30
    · obtain ⟨hjn, hj3⟩ := hlt
      have hji : (j : Int) < (n : Int) := by omega
      have hj30i : (j : Int) < 30 := by omega
      have hj0 : (0 : Int) ≤ (j : Int) := by omega
      obtain ⟨b, off, hA, hbl, hat⟩ := HRAW.out.2 (by omega)
      subst hA
      have HRK : Hid (∀ q, q < 5 → ∀ W, Below wr.heap.size wr W → W.cell? ⟨b, off + j * 5 + q, none⟩ = some (.int .i64 (f j q))) := fun q hq W hW => ((bch HB.out hW).cell (p := ⟨b, off + j * 5 + q, none⟩) hbl).trans (hat j q hjn hq).1
      have hwf : ∀ q, q < 5 → (Lit.int .i64 (f j q)).wf = true := fun q hq => (hat j q hjn hq).2
      have p0 := fun W => pickN13_nat (f j 0) 10 (by omega) (by omega) (hwf 0 (by omega)) W
      have p1 := fun W => pickN13_nat (f j 1) 20 (by omega) (by omega) (hwf 1 (by omega)) W
      have qa' : ∀ W, Calls Try.prog 10 #[.agg #[.int .i64 (f j 2), .int .i64 (f j 3), .int .i64 (f j 4)]] W (OwnR13 W (ansR fun q => f j (q + 2))) := fun W => qa (fun q => f j (q + 2)) (fun q hq => hwf (q + 2) (by omega)) W
      have h10 : pickN (f j 0) 10 < 10 := by have := pickN_lt (f j 0) 10 (by omega); omega
      have h20 : pickN (f j 1) 20 < 20 := by have := pickN_lt (f j 1) 20 (by omega); omega
      have hm8 : m ≤ 8 := by have := HDS.out.1; have := (cacheK_right f j).2.2; omega
      have qk : ∀ {W : World} {K : Option Addr} {k kc : Nat}, Below wr.heap.size wr W → k ≤ kc → IsSs W K k (ansR fun q => f j (q + 2)).keys → Calls Try.prog 18 #[.slice B m cm, .int .i64 (1 + (pickN (f j 0) 10 : Int)), .int .i64 (1 + (pickN (f j 1) 20 : Int)), rpV (ansR fun q => f j (q + 2)) (.slice K k kc)] W (KeepPost W (keepL (cacheK f j) (1 + (pickN (f j 0) 10 : Int)) (1 + (pickN (f j 1) 20 : Int)) (ansR fun q => f j (q + 2))).1 (keepL (cacheK f j) (1 + (pickN (f j 0) 10 : Int)) (1 + (pickN (f j 1) 20 : Int)) (ansR fun q => f j (q + 2))).2) := fun {W K k kc} hW hk hs => by
        have hw := ans_w (fun q => f j (q + 2))
        exact refkeep_any _ _ _ _ B K m cm k kc W (HDS.out.below hW) (by omega) (wf_i64 (by omega) (by omega)) (wf_i64 (by omega) (by omega)) hw.1 hs (by have := hs.1; have := hw.2; omega)
      have HNX : Hid (cacheK f (j + 1) = if (keepL (cacheK f j) (1 + (pickN (f j 0) 10 : Int)) (1 + (pickN (f j 1) 20 : Int)) (ansR fun q => f j (q + 2))).2 = 0 then (keepL (cacheK f j) (1 + (pickN (f j 0) 10 : Int)) (1 + (pickN (f j 1) 20 : Int)) (ansR fun q => f j (q + 2))).1 else cacheK f j) := rfl
      generalize (ansR fun q => f j (q + 2)) = r at *
      unfold rpV at qk
      clear hat hwf hbl
      generalize pickN (f j 0) 10 = c at *
      generalize pickN (f j 1) 20 = i at *
      have hcw : IntKind.i64.wrap (1 + (c : Int)) = 1 + (c : Int) := IntWalk.i64_in _ (by omega)
      have hiw : IntKind.i64.wrap (1 + (i : Int)) = 1 + (i : Int) := IntWalk.i64_in _ (by omega)
      generalize keepL (cacheK f j) (1 + (c : Int)) (1 + (i : Int)) r = L at *
      unfold OwnR13 at qa'
      unfold rpV at qa'
      go_upto_region 5 with fail
      refine wp_region_noPanic ?_
      refine wp_region_held_drew (S := (fun W => Below wr.heap.size wr W)) (by kernel_rfl) ((Below.refl _ _).drew) (fun hHeld => ?_)
      refine wpAnyH_take (i := 0) (v := ?_) rfl (by kernel_rfl) (by kernel_rfl) (by kernel_rfl) (fun _ _ _ h => h) (Or.inl ⟨by rfl, ?_⟩) (by assumption) ?_
      rotate_left
      · (intro w hSw; (try dsimp only at hSw); go_simp; (try with_reducible rfl))
      simp only [Act.put, List.getElem_toArray, List.getElem_cons_zero, List.setIfInBounds_toArray, List.set_cons_zero, List.set_cons_succ]
      refine wpAnyH_take (i := 1) (v := ?_) rfl (by kernel_rfl) (by kernel_rfl) (by kernel_rfl) (fun _ _ _ h => h) (Or.inl ⟨by rfl, ?_⟩) (by assumption) ?_
      rotate_left
      · (intro w hSw; (try dsimp only at hSw); go_simp; (try with_reducible rfl))
      simp only [Act.put, List.getElem_toArray, List.getElem_cons_zero, List.getElem_cons_succ, List.setIfInBounds_toArray, List.set_cons_zero, List.set_cons_succ]
      refine wpAnyH_take (i := 2) (v := ?_) rfl (by kernel_rfl) (by kernel_rfl) (by kernel_rfl) (fun _ _ _ h => h) (Or.inl ⟨by rfl, ?_⟩) (by assumption) ?_
      rotate_left
      · (intro w hSw; (try dsimp only at hSw); go_simp; (try with_reducible rfl))
      simp only [Act.put, List.getElem_toArray, List.getElem_cons_zero, List.getElem_cons_succ, List.setIfInBounds_toArray, List.set_cons_zero, List.set_cons_succ]
      refine wpAnyH_take (i := 3) (v := ?_) rfl (by kernel_rfl) (by kernel_rfl) (by kernel_rfl) (fun _ _ _ h => h) (Or.inl ⟨by rfl, ?_⟩) (by assumption) ?_
      rotate_left
      · (intro w hSw; (try dsimp only at hSw); go_simp; (try with_reducible rfl))
      simp only [Act.put, List.getElem_toArray, List.getElem_cons_zero, List.getElem_cons_succ, List.setIfInBounds_toArray, List.set_cons_zero, List.set_cons_succ]
      refine wpAnyH_take (i := 4) (v := ?_) rfl (by kernel_rfl) (by kernel_rfl) (by kernel_rfl) (fun _ _ _ h => h) (Or.inl ⟨by rfl, ?_⟩) (by assumption) ?_
      rotate_left
      · (intro w hSw; (try dsimp only at hSw); go_simp; (try with_reducible rfl))
      simp only [Act.put, List.getElem_toArray, List.getElem_cons_zero, List.getElem_cons_succ, List.setIfInBounds_toArray, List.set_cons_zero, List.set_cons_succ]
      refine wpAnyH_take (i := 5) (v := ?_) rfl (by kernel_rfl) (by kernel_rfl) (by kernel_rfl) (fun _ _ _ h => h) (Or.inl ⟨by rfl, ?_⟩) (by assumption) ?_
      rotate_left
      · (intro w hSw; (try dsimp only at hSw); have xc := (HRK.out 0 (by omega) _ hSw); simp only [Nat.add_zero] at xc; go_simp; (try with_reducible rfl))
      simp only [Act.put, List.getElem_toArray, List.getElem_cons_zero, List.getElem_cons_succ, List.setIfInBounds_toArray, List.set_cons_zero, List.set_cons_succ]
      refine wpAnyH_take (i := 8) (v := ?_) rfl (by kernel_rfl) (by kernel_rfl) (by kernel_rfl) (fun _ _ _ h => h) (Or.inl ⟨by rfl, ?_⟩) (by assumption) ?_
      rotate_left
      · (intro w hSw; (try dsimp only at hSw); go_simp; (try with_reducible rfl))
      simp only [Act.put, List.getElem_toArray, List.getElem_cons_zero, List.getElem_cons_succ, List.setIfInBounds_toArray, List.set_cons_zero, List.set_cons_succ]
      refine wpAnyH_take (i := 9) (v := ?_) rfl (by kernel_rfl) (by kernel_rfl) (by kernel_rfl) (fun _ _ _ h => h) (Or.inl ⟨by rfl, ?_⟩) (by assumption) ?_
      rotate_left
      · (intro w hSw; (try dsimp only at hSw); go_simp; (try with_reducible rfl))
      simp only [Act.put, List.getElem_toArray, List.getElem_cons_zero, List.getElem_cons_succ, List.setIfInBounds_toArray, List.set_cons_zero, List.set_cons_succ]
      refine wpAnyH_take (i := 10) (v := ?_) rfl (by kernel_rfl) (by kernel_rfl) (by kernel_rfl) (fun _ _ _ h => h) (Or.inl ⟨by rfl, ?_⟩) (by assumption) ?_
      rotate_left
      · (intro w hSw; (try dsimp only at hSw); go_simp; (try with_reducible rfl))
      simp only [Act.put, List.getElem_toArray, List.getElem_cons_zero, List.getElem_cons_succ, List.setIfInBounds_toArray, List.set_cons_zero, List.set_cons_succ]
      refine wpAnyH_take (i := 11) (v := ?_) rfl (by kernel_rfl) (by kernel_rfl) (by kernel_rfl) (fun _ _ _ h => h) (Or.inl ⟨by rfl, ?_⟩) (by assumption) ?_
      rotate_left
      · (intro w hSw; (try dsimp only at hSw); go_simp; (try with_reducible rfl))
      simp only [Act.put, List.getElem_toArray, List.getElem_cons_zero, List.getElem_cons_succ, List.setIfInBounds_toArray, List.set_cons_zero, List.set_cons_succ]
      refine wpAnyH_take (i := 12) (v := ?_) rfl (by kernel_rfl) (by kernel_rfl) (by kernel_rfl) (fun _ _ _ h => h) (Or.inl ⟨by rfl, ?_⟩) (by assumption) ?_
      rotate_left
      · (intro w hSw; (try dsimp only at hSw); have xc := (HRK.out 1 (by omega) _ hSw); go_simp; (try with_reducible rfl))
      simp only [Act.put, List.getElem_toArray, List.getElem_cons_zero, List.getElem_cons_succ, List.setIfInBounds_toArray, List.set_cons_zero, List.set_cons_succ]
      refine wpAnyH_take (i := 15) (v := ?_) rfl (by kernel_rfl) (by kernel_rfl) (by kernel_rfl) (fun _ _ _ h => h) (Or.inl ⟨by rfl, ?_⟩) (by assumption) ?_
      rotate_left
      · (intro w hSw; (try dsimp only at hSw); go_simp; (try with_reducible rfl))
      simp only [Act.put, List.getElem_toArray, List.getElem_cons_zero, List.getElem_cons_succ, List.setIfInBounds_toArray, List.set_cons_zero, List.set_cons_succ]
      refine wpAnyH_take (i := 16) (v := ?_) rfl (by kernel_rfl) (by kernel_rfl) (by kernel_rfl) (fun _ _ _ h => h) (Or.inl ⟨by rfl, ?_⟩) (by assumption) ?_
      rotate_left
      · (intro w hSw; (try dsimp only at hSw); go_simp; (try with_reducible rfl))
      simp only [Act.put, List.getElem_toArray, List.getElem_cons_zero, List.getElem_cons_succ, List.setIfInBounds_toArray, List.set_cons_zero, List.set_cons_succ]
      refine wpAnyH_take (i := 17) (v := ?_) rfl (by kernel_rfl) (by kernel_rfl) (by kernel_rfl) (fun _ _ _ h => h) (Or.inl ⟨by rfl, ?_⟩) (by assumption) ?_
      rotate_left
      · (intro w hSw; (try dsimp only at hSw); go_simp; (try with_reducible rfl))
      simp only [Act.put, List.getElem_toArray, List.getElem_cons_zero, List.getElem_cons_succ, List.setIfInBounds_toArray, List.set_cons_zero, List.set_cons_succ]
      refine wpAnyH_take (i := 18) (v := ?_) rfl (by kernel_rfl) (by kernel_rfl) (by kernel_rfl) (fun _ _ _ h => h) (Or.inl ⟨by rfl, ?_⟩) (by assumption) ?_
      rotate_left
      · (intro w hSw; (try dsimp only at hSw); go_simp; (try with_reducible rfl))
      simp only [Act.put, List.getElem_toArray, List.getElem_cons_zero, List.getElem_cons_succ, List.setIfInBounds_toArray, List.set_cons_zero, List.set_cons_succ]
      refine wpAnyH_take (i := 19) (v := ?_) rfl (by kernel_rfl) (by kernel_rfl) (by kernel_rfl) (fun _ _ _ h => h) (Or.inl ⟨by rfl, ?_⟩) (by assumption) ?_
      rotate_left
      · (intro w hSw; (try dsimp only at hSw); have xc := (HRK.out 2 (by omega) _ hSw); go_simp; (try with_reducible rfl))
      simp only [Act.put, List.getElem_toArray, List.getElem_cons_zero, List.getElem_cons_succ, List.setIfInBounds_toArray, List.set_cons_zero, List.set_cons_succ]
      refine wpAnyH_take (i := 20) (v := ?_) rfl (by kernel_rfl) (by kernel_rfl) (by kernel_rfl) (fun _ _ _ h => h) (Or.inl ⟨by rfl, ?_⟩) (by assumption) ?_
      rotate_left
      · (intro w hSw; (try dsimp only at hSw); go_simp; (try with_reducible rfl))
      simp only [Act.put, List.getElem_toArray, List.getElem_cons_zero, List.getElem_cons_succ, List.setIfInBounds_toArray, List.set_cons_zero, List.set_cons_succ]
      refine wpAnyH_take (i := 21) (v := ?_) rfl (by kernel_rfl) (by kernel_rfl) (by kernel_rfl) (fun _ _ _ h => h) (Or.inl ⟨by rfl, ?_⟩) (by assumption) ?_
      rotate_left
      · (intro w hSw; (try dsimp only at hSw); go_simp; (try with_reducible rfl))
      simp only [Act.put, List.getElem_toArray, List.getElem_cons_zero, List.getElem_cons_succ, List.setIfInBounds_toArray, List.set_cons_zero, List.set_cons_succ]
      refine wpAnyH_take (i := 22) (v := ?_) rfl (by kernel_rfl) (by kernel_rfl) (by kernel_rfl) (fun _ _ _ h => h) (Or.inl ⟨by rfl, ?_⟩) (by assumption) ?_
      rotate_left
      · (intro w hSw; (try dsimp only at hSw); go_simp; (try with_reducible rfl))
      simp only [Act.put, List.getElem_toArray, List.getElem_cons_zero, List.getElem_cons_succ, List.setIfInBounds_toArray, List.set_cons_zero, List.set_cons_succ]
      refine wpAnyH_take (i := 23) (v := ?_) rfl (by kernel_rfl) (by kernel_rfl) (by kernel_rfl) (fun _ _ _ h => h) (Or.inl ⟨by rfl, ?_⟩) (by assumption) ?_
      rotate_left
      · (intro w hSw; (try dsimp only at hSw); go_simp; (try with_reducible rfl))
      simp only [Act.put, List.getElem_toArray, List.getElem_cons_zero, List.getElem_cons_succ, List.setIfInBounds_toArray, List.set_cons_zero, List.set_cons_succ]
      refine wpAnyH_take (i := 24) (v := ?_) rfl (by kernel_rfl) (by kernel_rfl) (by kernel_rfl) (fun _ _ _ h => h) (Or.inl ⟨by rfl, ?_⟩) (by assumption) ?_
      rotate_left
      · (intro w hSw; (try dsimp only at hSw); have xc := (HRK.out 3 (by omega) _ hSw); go_simp; (try with_reducible rfl))
      simp only [Act.put, List.getElem_toArray, List.getElem_cons_zero, List.getElem_cons_succ, List.setIfInBounds_toArray, List.set_cons_zero, List.set_cons_succ]
      refine wpAnyH_take (i := 25) (v := ?_) rfl (by kernel_rfl) (by kernel_rfl) (by kernel_rfl) (fun _ _ _ h => h) (Or.inl ⟨by rfl, ?_⟩) (by assumption) ?_
      rotate_left
      · (intro w hSw; (try dsimp only at hSw); go_simp; (try with_reducible rfl))
      simp only [Act.put, List.getElem_toArray, List.getElem_cons_zero, List.getElem_cons_succ, List.setIfInBounds_toArray, List.set_cons_zero, List.set_cons_succ]
      refine wpAnyH_take (i := 26) (v := ?_) rfl (by kernel_rfl) (by kernel_rfl) (by kernel_rfl) (fun _ _ _ h => h) (Or.inl ⟨by rfl, ?_⟩) (by assumption) ?_
      rotate_left
      · (intro w hSw; (try dsimp only at hSw); go_simp; (try with_reducible rfl))
      simp only [Act.put, List.getElem_toArray, List.getElem_cons_zero, List.getElem_cons_succ, List.setIfInBounds_toArray, List.set_cons_zero, List.set_cons_succ]
      refine wpAnyH_take (i := 27) (v := ?_) rfl (by kernel_rfl) (by kernel_rfl) (by kernel_rfl) (fun _ _ _ h => h) (Or.inl ⟨by rfl, ?_⟩) (by assumption) ?_
      rotate_left
      · (intro w hSw; (try dsimp only at hSw); go_simp; (try with_reducible rfl))
      simp only [Act.put, List.getElem_toArray, List.getElem_cons_zero, List.getElem_cons_succ, List.setIfInBounds_toArray, List.set_cons_zero, List.set_cons_succ]
      refine wpAnyH_take (i := 28) (v := ?_) rfl (by kernel_rfl) (by kernel_rfl) (by kernel_rfl) (fun _ _ _ h => h) (Or.inl ⟨by rfl, ?_⟩) (by assumption) ?_
      rotate_left
      · (intro w hSw; (try dsimp only at hSw); go_simp; (try with_reducible rfl))
      simp only [Act.put, List.getElem_toArray, List.getElem_cons_zero, List.getElem_cons_succ, List.setIfInBounds_toArray, List.set_cons_zero, List.set_cons_succ]
      refine wpAnyH_take (i := 29) (v := ?_) rfl (by kernel_rfl) (by kernel_rfl) (by kernel_rfl) (fun _ _ _ h => h) (Or.inl ⟨by rfl, ?_⟩) (by assumption) ?_
      rotate_left
      · (intro w hSw; (try dsimp only at hSw); have xc := (HRK.out 4 (by omega) _ hSw); go_simp; (try with_reducible rfl))
      simp only [Act.put, List.getElem_toArray, List.getElem_cons_zero, List.getElem_cons_succ, List.setIfInBounds_toArray, List.set_cons_zero, List.set_cons_succ]
      refine wpAnyH_take (i := 30) (v := ?_) rfl (by kernel_rfl) (by kernel_rfl) (by kernel_rfl) (fun _ _ _ h => h) (Or.inl ⟨by rfl, ?_⟩) (by assumption) ?_
      rotate_left
      · (intro w hSw; (try dsimp only at hSw); go_simp; (try with_reducible rfl))
      simp only [Act.put, List.getElem_toArray, List.getElem_cons_zero, List.getElem_cons_succ, List.setIfInBounds_toArray, List.set_cons_zero, List.set_cons_succ]
      refine wpAnyH_ready (rs := [6]) (by kernel_rfl) (by simp) ?_
      refine AllReadyH.cons rfl (fun K hK => ?_) AllReadyH.nil
      rw [if_pos (by rfl)]
      go_simp
      ((with_reducible refine (p0 _).mono ?_); rintro e w' ⟨rfl, rfl⟩)
      refine hK.out _ _ (hHeld) (fun hHeld2 => ?_)
      clear hK K hHeld
      have hHeld := hHeld2; clear hHeld2
      refine wpAnyH_take (i := 7) (v := ?_) rfl (by kernel_rfl) (by kernel_rfl) (by kernel_rfl) (fun _ _ _ h => h) (Or.inl ⟨by rfl, ?_⟩) (by assumption) ?_
      rotate_left
      · (intro w hSw; (try dsimp only at hSw); go_simp; (try with_reducible rfl))
      simp only [Act.put, List.getElem_toArray, List.getElem_cons_zero, List.getElem_cons_succ, List.setIfInBounds_toArray, List.set_cons_zero, List.set_cons_succ]
      refine wpAnyH_ready (rs := [13]) (by kernel_rfl) (by simp) ?_
      refine AllReadyH.cons rfl (fun K hK => ?_) AllReadyH.nil
      rw [if_pos (by rfl)]
      go_simp
      ((with_reducible refine (p1 _).mono ?_); rintro e w' ⟨rfl, rfl⟩)
      refine hK.out _ _ (hHeld) (fun hHeld2 => ?_)
      clear hK K hHeld
      have hHeld := hHeld2; clear hHeld2
      refine wpAnyH_take (i := 14) (v := ?_) rfl (by kernel_rfl) (by kernel_rfl) (by kernel_rfl) (fun _ _ _ h => h) (Or.inl ⟨by rfl, ?_⟩) (by assumption) ?_
      rotate_left
      · (intro w hSw; (try dsimp only at hSw); go_simp; (try with_reducible rfl))
      simp only [Act.put, List.getElem_toArray, List.getElem_cons_zero, List.getElem_cons_succ, List.setIfInBounds_toArray, List.set_cons_zero, List.set_cons_succ]
      refine wpAnyH_ready (rs := [31]) (by kernel_rfl) (by simp) ?_
      refine AllReadyH.cons rfl (fun K hK => ?_) AllReadyH.nil
      rw [if_pos (by rfl)]
      go_simp
      ((with_reducible refine (qa' _).mono ?_); rintro e w' ⟨Kk, kk, kkc, rfl, hkk, hks, bq⟩)
      refine hK.out _ _ (bch hHeld bq) (fun hHeld2 => ?_)
      clear hK K hHeld
      have hHeld := hHeld2; clear hHeld2
      try unfold rpV
      refine wpAnyH_ready (rs := [32]) (by kernel_rfl) (by simp) ?_
      refine AllReadyH.cons rfl (fun K hK => ?_) AllReadyH.nil
      rw [if_pos (by rfl)]
      go_simp
      ((with_reducible refine (qk hHeld hkk hks).mono ?_); rintro e w' ⟨A2, n2, cap2, rfl, hc2, hds2, bq2⟩)
      refine hK.out _ _ (bch hHeld bq2) (fun hHeld2 => ?_)
      clear hK K hHeld
      have hHeld := hHeld2; clear hHeld2
      refine wpAnyH_take (i := 33) (v := ?_) rfl (by kernel_rfl) (by kernel_rfl) (by kernel_rfl) (fun _ _ _ h => h) (Or.inl ⟨by rfl, ?_⟩) (by assumption) ?_
      rotate_left
      · (intro w hSw; (try dsimp only at hSw); go_simp; (try with_reducible rfl))
      simp only [Act.put, List.getElem_toArray, List.getElem_cons_zero, List.getElem_cons_succ, List.setIfInBounds_toArray, List.set_cons_zero, List.set_cons_succ]
      refine wpAnyH_take (i := 34) (v := ?_) rfl (by kernel_rfl) (by kernel_rfl) (by kernel_rfl) (fun _ _ _ h => h) (Or.inl ⟨by rfl, ?_⟩) (by assumption) ?_
      rotate_left
      · (intro w hSw; (try dsimp only at hSw); go_simp; (try with_reducible rfl))
      simp only [Act.put, List.getElem_toArray, List.getElem_cons_zero, List.getElem_cons_succ, List.setIfInBounds_toArray, List.set_cons_zero, List.set_cons_succ]
      refine wpAnyH_take (i := 35) (v := ?_) rfl (by kernel_rfl) (by kernel_rfl) (by kernel_rfl) (fun _ _ _ h => h) (Or.inl ⟨by rfl, ?_⟩) (by assumption) ?_
      rotate_left
      · (intro w hSw; (try dsimp only at hSw); go_simp; (try with_reducible rfl))
      simp only [Act.put, List.getElem_toArray, List.getElem_cons_zero, List.getElem_cons_succ, List.setIfInBounds_toArray, List.set_cons_zero, List.set_cons_succ]
      refine wpAnyH_take (i := 36) (v := ?_) rfl (by kernel_rfl) (by kernel_rfl) (by kernel_rfl) (fun _ _ _ h => h) (Or.inl ⟨by rfl, ?_⟩) (by assumption) ?_
      rotate_left
      · (intro w hSw; (try dsimp only at hSw); go_simp; (try with_reducible rfl))
      simp only [Act.put, List.getElem_toArray, List.getElem_cons_zero, List.getElem_cons_succ, List.setIfInBounds_toArray, List.set_cons_zero, List.set_cons_succ]
      refine wpAnyH_take (i := 37) (v := ?_) rfl (by kernel_rfl) (by kernel_rfl) (by kernel_rfl) (fun _ _ _ h => h) (Or.inl ⟨by rfl, ?_⟩) (by assumption) ?_
      rotate_left
      · (intro w hSw; (try dsimp only at hSw); go_simp; (try with_reducible rfl))
      simp only [Act.put, List.getElem_toArray, List.getElem_cons_zero, List.getElem_cons_succ, List.setIfInBounds_toArray, List.set_cons_zero, List.set_cons_succ]
      refine wpAnyH_done (by kernel_rfl) ?_ _
      refine NoPanic.normal ?_
      have HBE := Lib.hid (bch HB.out hHeld)
      have HD2 := Lib.hid hds2
      have hb9 := Lib.hid hHeld
      clear hHeld hds2
      by_cases hz : L.2 = 0
      · have e0 : ((L.2 : Int) == 0) = true := by simp; omega
        rw [if_pos hz] at HNX
        clear hz
        go_wp2_with fail
        go_roundw
        case rel => exact ⟨j + 1, _, A2, n2, cap2, rfl, by omega, by omega, by go_num, rfl, hc2, by rw [HNX.out]; exact HD2.out, HBE.out⟩
        case measure => simp [intOf]; omega
      · have e0 : ((L.2 : Int) == 0) = false := by simp; omega
        rw [if_neg hz] at HNX
        clear hz
        go_wp2_with fail
        go_roundw
        case rel => exact ⟨j + 1, _, B, m, cm, rfl, by omega, by omega, by go_num, rfl, hmc, by rw [HNX.out]; exact HDS.out.below hb9.out, HBE.out⟩
        case measure => simp [intOf]; omega
    · have HE : Hid (cacheK f j = R) := by
        show _ = _
        rw [← HR.out, cacheR, show min n 30 = j by omega]
      by_cases hjn : j < n
      · have hji : (j : Int) < (n : Int) := by omega
        have hj3 : ¬ (j : Int) < 30 := by omega
        clear hlt
        go_wp2_with fail
        go_ret
        exact ⟨B, m, cm, rfl, hmc, by rw [← HE.out]; exact HDS.out, HB.out⟩
      · have hji : ¬ (j : Int) < (n : Int) := by omega
        clear hlt
        go_wp2_with fail
        go_ret
        exact ⟨B, m, cm, rfl, hmc, by rw [← HE.out]; exact HDS.out, HB.out⟩
end Go.Proofs.Ytgckoihangccbaa
