import Derived.Test.YtgckoihangccbaaRpCache
import Derived.Test.YtgckoihangccbaaRpAns
import Derived.Test.YtgckoihangccbaaRpAwake
import Derived.Test.YtgckoihangccbaaRpSame
/-
  Common pieces of stage 13's laws: Keep and Look of known answers; plain mathematics of what is kept.
-/
namespace Go.Proofs.Ytgckoihangccbaa
open Go.RowKit
set_option linter.unusedVariables false
set_option linter.unusedSimpArgs false

def three (x y z : Int) : Nat → Int
  | 0 => x | 1 => y | _ => z
theorem three_wf {x y z : Int} (hx : (Lit.int .i64 x).wf = true) (hy : (Lit.int .i64 y).wf = true) (hz : (Lit.int .i64 z).wf = true) : ∀ j, j < 3 → (Lit.int .i64 (three x y z j)).wf = true := fun j hj => by
  rcases (by omega : j = 0 ∨ j = 1 ∨ j = 2) with rfl | rfl | rfl
  · exact hx
  · exact hy
  · exact hz
theorem may_w {r : RepR} (h : MayP r) : RpW r ∧ r.keys.length ≤ 5 := by
  obtain ⟨_, ⟨h1, h2⟩, h3, h4, h5⟩ := h
  unfold maxN at h2
  exact ⟨⟨wf_i64 (by omega) (by omega), wf_i64 (by omega) (by omega), by omega⟩, h4⟩
theorem goodC_wf {c i : Int} (h : GoodC c i) : (Lit.int .i64 c).wf = true ∧ (Lit.int .i64 i).wf = true := by
  obtain ⟨⟨h1, h2⟩, h3, h4⟩ := h
  unfold maxN at h4
  exact ⟨wf_i64 (by omega) (by omega), wf_i64 (by omega) (by omega)⟩
theorem ds_len {w : World} {A : Option Addr} {n : Nat} {l : List DnR} (h : IsDs w A n l) (hr : RightD l) : n ≤ 8 := by have := h.1; have := hr.2.2; omega
theorem keep_call (kK : KeepQ) {l : List DnR} {c i : Int} {r : RepR} {u : List DnR} {z : Nat} (hk : keepL l c i r = (u, z)) (hc : GoodC c i) (hm : MayP r) {A K : Option Addr} {n cap k kc : Nat} {w : World} (hn : n ≤ cap) (h : IsDs w A n l) (hr : RightD l) (hkc : k ≤ kc) (hs : IsSs w K k r.keys) :
    Calls Try.prog 11 #[.slice A n cap, .int .i64 c, .int .i64 i, rpV r (.slice K k kc)] w (KeepPost w u z) := by
  have h8 := ds_len h hr
  have hw := goodC_wf hc
  have hp := may_w hm
  have q := kK l c i r A K n cap k kc w hn h (by omega) hw.1 hw.2 hp.1 hkc hs (by have := hs.1; have := hp.2; omega)
  rw [hk] at q; exact q
theorem look_call (kL : LookQ) {l : List DnR} {c i : Int} {R : RepR} {z : Nat} (hk : lookL l c i = (R, z)) (hc : GoodC c i) {A : Option Addr} {n cap : Nat} {w : World} (hn : n ≤ cap) (h : IsDs w A n l) (hr : RightD l) :
    Calls Try.prog 12 #[.slice A n cap, .int .i64 c, .int .i64 i] w (LookPost w R z) := by
  have h8 := ds_len h hr
  have hw := goodC_wf hc
  have q := kL l c i A n cap w hn h (by omega) hw.1 hw.2
  rw [hk] at q; exact q
theorem right_call (kR : RightQ13) {l : List DnR} (hr : RightD l) {A : Option Addr} {n cap : Nat} {w : World} (hn : n ≤ cap) (h : IsDs w A n l) :
    Calls Try.prog 14 #[.slice A n cap] w fun e w' => e = .returned (.bool true) ∧ Below w.heap.size w w' := by
  have h8 := ds_len h hr
  have q := kR l A n cap w hn h (by omega)
  rw [rightD_iff.2 hr] at q; exact q
theorem keepL_ids {l : List DnR} {c i : Int} {r : RepR} {b : Int} (h : ∀ d ∈ l, d.id ≤ b) (hi : i ≤ b) : ∀ d ∈ (keepL l c i r).1, d.id ≤ b := by
  intro d hd
  unfold keepL at hd
  split at hd
  · cases hd
  · split at hd
    · cases hd
    · split at hd
      · cases hd
      · rcases putD_mem.1 hd with rfl | h2
        · exact hi
        · exact h d h2.1
theorem cacheK_ids (f : Nat → Nat → Int) : ∀ k, ∀ d ∈ cacheK f k, d.id ≤ 20
  | 0 => fun d hd => nomatch hd
  | k + 1 => by
    unfold cacheK
    split
    · exact keepL_ids (cacheK_ids f k) (by have := pickN_lt (f k 1) 20 (by omega); omega)
    · exact cacheK_ids f k
theorem cacheR_ids (f : Nat → Nat → Int) (n : Nat) : ∀ d ∈ cacheR f n, d.id ≤ 20 := cacheK_ids f _
def revP (k : Int) : RepR := ⟨0, k, ByteArray.empty, []⟩
theorem rev_may {k : Int} (h1 : 0 ≤ k) (h2 : k ≤ 1000) : MayP (revP k) := ⟨fun x h => (by cases h), ⟨h1, by show k ≤ maxN; unfold maxN; omega⟩, by show ByteArray.empty.size ≤ 200; decide, by show 0 ≤ 5; omega, by show 0 ≤ 255; omega⟩
theorem zero13_may : MayP zeroP13 := rev_may (Int.le_refl 0) (by omega)
theorem pair_eq {α β : Type} {p : α × β} {b : β} (h : p.2 = b) : p = (p.1, b) := by rw [← h]
/-- A later call is kept, or there are eight others. -/
theorem keep_new2 {l : List DnR} {c i : Int} {r : RepR} (h : RightD l) (hg : GoodC c i) (hm : MayP r) (hl : ∀ d, lookD l c = some d → d.id < i) :
    (l.length = 8 ∧ lookD l c = none ∧ keepL l c i r = ([], 50)) ∨ ∃ u, keepL l c i r = (u, 0) ∧ EffD l u c i r ∧ (l.length ≤ 7 ∨ lookD l c ≠ none) := by
  rcases keep_new h hg hm hl with e | ⟨h1, h2, h3⟩
  · exact .inl e
  · exact .inr ⟨_, pair_eq h2, h3, h1⟩
theorem look_some {l : List DnR} {c i : Int} {d : DnR} (h : RightD l) (hg : GoodC c i) (e : lookD l c = some d) :
    (d.id < i → lookL l c i = (zeroP13, 70)) ∧ (i < d.id → lookL l c i = (zeroP13, 81)) ∧ (d.id = i → lookL l c i = (d.rep, 0)) := by
  rw [look_tell h hg, e]
  unfold tellD
  simp only
  refine ⟨fun h1 => if_pos h1, fun h1 => ?_, fun h1 => ?_⟩
  · rw [if_neg (by omega), if_pos h1]
  · rw [if_neg (by omega), if_neg (by omega)]
theorem goodC_of {c i : Int} (h1 : 1 ≤ c) (h2 : c ≤ 1000) (h3 : 1 ≤ i) (h4 : i ≤ 2000) : GoodC c i := ⟨⟨h1, h2⟩, h3, by unfold maxN; omega⟩
theorem kept_math {l : List DnR} (h : RightD l) (hid : ∀ d ∈ l, d.id ≤ 20) {a b n : Int} (ha : 1 ≤ a ∧ a ≤ 10) (hb : 1 ≤ b ∧ b ≤ 10) (hn : 100 ≤ n ∧ n ≤ 199) {x : RepR} (hx : MayP x) :
    (l.length = 8 ∧ keepL l a n x = ([], 50)) ∨ ∃ M, keepL l a n x = (M, 0) ∧ RightD M ∧ (a ≠ b → ∃ (O OO : List DnR) (eo : Nat), keepL M b 1000 (revP 0) = (O, eo) ∧ ((eo = 50 ∧ OO = M) ∨ (eo = 0 ∧ OO = O)) ∧ RightD OO ∧
      lookL OO a n = (x, 0) ∧ lookL OO a (n + 1) = (zeroP13, 70) ∧ lookL OO a (n - 1) = (zeroP13, 81) ∧ keepL OO a n x = ([], 1) ∧
      ∃ P, keepL OO a (n + 1) (revP 1) = (P, 0) ∧ RightD P ∧ P.length = OO.length ∧ lookL P a (n + 1) = (revP 1, 0) ∧ lookL P a n = (zeroP13, 81)) := by
  have hold : ∀ {q : Int} {d : DnR}, lookD l q = some d → d.id ≤ 20 := fun e => hid _ (lookD_mem e).1
  have fin : ∀ {OO : List DnR}, RightD OO → lookD OO a = some ⟨a, n, x⟩ → lookL OO a n = (x, 0) ∧ lookL OO a (n + 1) = (zeroP13, 70) ∧ lookL OO a (n - 1) = (zeroP13, 81) ∧ keepL OO a n x = ([], 1) ∧
      ∃ P, keepL OO a (n + 1) (revP 1) = (P, 0) ∧ RightD P ∧ P.length = OO.length ∧ lookL P a (n + 1) = (revP 1, 0) ∧ lookL P a n = (zeroP13, 81) := fun {OO} hr e => by
    refine ⟨(look_some hr (goodC_of ha.1 (by omega) (by omega) (by omega)) e).2.2 rfl, (look_some hr (goodC_of ha.1 (by omega) (by omega) (by omega)) e).1 (by show n < n + 1; omega), (look_some hr (goodC_of ha.1 (by omega) (by omega) (by omega)) e).2.1 (by show n - 1 < n; omega), ?_, ?_⟩
    · rw [keep_old (i := n) hr (goodC_of ha.1 (by omega) (by omega) (by omega)) e (Int.le_refl _) hx, if_pos rfl]
    · rcases keep_new2 (r := revP 1) hr (goodC_of (c := a) (i := n + 1) ha.1 (by omega) (by omega) (by omega)) (rev_may (by omega) (by omega)) (fun d hd => by rw [e] at hd; cases hd; show n < n + 1; omega) with ⟨_, h2, _⟩ | ⟨u, hu, hE, _⟩
      · rw [e] at h2; cases h2
      · have e2 : lookD u a = some ⟨a, n + 1, revP 1⟩ := by rw [hE.2.1, if_pos rfl]
        refine ⟨u, hu, hE.1, ?_, (look_some hE.1 (goodC_of ha.1 (by omega) (by omega) (by omega)) e2).2.2 rfl, (look_some hE.1 (goodC_of ha.1 (by omega) (by omega) (by omega)) e2).2.1 (by show n < n + 1; omega)⟩
        rw [hE.2.2, if_neg (by rw [e]; simp)]
  rcases keep_new2 (r := x) h (goodC_of (c := a) (i := n) ha.1 (by omega) (by omega) (by omega)) hx (fun d hd => by have := hold hd; omega) with ⟨h1, _, h2⟩ | ⟨M, hM, hE, _⟩
  · exact .inl ⟨h1, h2⟩
  · right
    refine ⟨M, hM, hE.1, fun hab => ?_⟩
    have ea : lookD M a = some ⟨a, n, x⟩ := by rw [hE.2.1, if_pos rfl]
    have eb : lookD M b = lookD l b := by rw [hE.2.1, if_neg (fun h => hab h.symm)]
    rcases keep_new2 (r := revP 0) hE.1 (goodC_of (c := b) (i := 1000) hb.1 (by omega) (by omega) (by omega)) (rev_may (by omega) (by omega)) (fun d hd => by rw [eb] at hd; have := hold hd; omega) with ⟨_, _, h2⟩ | ⟨O, hO, hF, _⟩
    · exact ⟨[], M, 50, h2, .inl ⟨rfl, rfl⟩, hE.1, fin hE.1 ea⟩
    · exact ⟨O, O, 0, hO, .inr ⟨rfl, rfl⟩, hF.1, fin hF.1 (by rw [hF.2.1, if_neg hab]; exact ea)⟩
theorem order_math {l : List DnR} (h : RightD l) (hid : ∀ d ∈ l, d.id ≤ 20) (h6 : l.length ≤ 6) {a b : Int} (ha : 1 ≤ a ∧ a ≤ 10) (hb : 1 ≤ b ∧ b ≤ 10) (hab : a ≠ b) {x : RepR} (hx : MayP x) :
    ∃ M1 M2 N1, RightD M1 ∧ RightD M2 ∧ RightD N1 ∧ keepL l a 50 x = (M1, 0) ∧ keepL M1 b 60 (revP 2) = (M2, 0) ∧ keepL l b 60 (revP 2) = (N1, 0) ∧ keepL N1 a 50 x = (M2, 0) := by
  have hold : ∀ {q : Int} {d : DnR}, lookD l q = some d → d.id ≤ 20 := fun e => hid _ (lookD_mem e).1
  have go : ∀ {m : List DnR} {c i : Int} {r : RepR}, RightD m → m.length ≤ 7 → (1 ≤ c ∧ c ≤ 10) → (20 < i ∧ i ≤ 100) → MayP r → lookD m c = lookD l c → ∃ u, keepL m c i r = (u, 0) ∧ EffD m u c i r := fun {m c i r} hr h7 hc hi hm e => by
    rcases keep_new2 (r := r) hr (goodC_of (c := c) (i := i) hc.1 (by omega) (by omega) (by omega)) hm (fun d hd => by rw [e] at hd; have := hold hd; omega) with ⟨h8, _, _⟩ | ⟨u, hu, hE, _⟩
    · omega
    · exact ⟨u, hu, hE⟩
  obtain ⟨M1, e1, f1⟩ := go (r := x) h (by omega) ha (i := 50) ⟨by omega, by omega⟩ hx rfl
  obtain ⟨N1, e3, f3⟩ := go (r := revP 2) h (by omega) hb (i := 60) ⟨by omega, by omega⟩ (rev_may (by omega) (by omega)) rfl
  have l1 : M1.length ≤ 7 := by rw [f1.2.2]; split <;> omega
  have l3 : N1.length ≤ 7 := by rw [f3.2.2]; split <;> omega
  obtain ⟨M2, e2, f2⟩ := go (r := revP 2) f1.1 l1 hb (i := 60) ⟨by omega, by omega⟩ (rev_may (by omega) (by omega)) (by rw [f1.2.1, if_neg (fun h => hab h.symm)])
  obtain ⟨N2, e4, f4⟩ := go (r := x) f3.1 l3 ha (i := 50) ⟨by omega, by omega⟩ hx (by rw [f3.2.1, if_neg hab])
  have : N2 = M2 := lookD_ext f4.1.2.1 f2.1.2.1 fun q => by
    rw [f4.2.1, f3.2.1, f2.2.1, f1.2.1]
    by_cases h1 : q = a
    · rw [if_pos h1, if_neg (by rw [h1]; exact hab), if_pos h1]
    · rw [if_neg h1, if_neg h1]
  rw [this] at e4
  exact ⟨M1, M2, N1, f1.1, f2.1, f3.1, e1, e2, e3, e4⟩
end Go.Proofs.Ytgckoihangccbaa
