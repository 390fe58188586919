import Derived.Test.YtpnkkiokkhmjpaaTabAwake
import Derived.Test.YtpnkkiokkhmjpaaTabTable
import Derived.Test.YtpnkkiokkhmjpaaTabSameRep
/-
  What the laws of stage 12 call: the program's Do with its answer named.
-/
namespace Go.Proofs.Ytpnkkiokkhmjpaa
open Go.RowKit
set_option linter.unusedVariables false

/-- What Do answers, its parts named. -/
def DoAns (w : World) (u : List Rcd) (r : RepR) (e : Ending) (w' : World) : Prop :=
  ∃ A n cap K k kc, e = .returned (.tuple #[.slice A n cap, .agg #[.int .i64 r.errno, .int .i64 r.rev, .string r.value, .slice K k kc]]) ∧ n ≤ cap ∧ IsTs w' A n u ∧ k ≤ kc ∧ IsSs w' K k r.keys ∧ Below w.heap.size w w'
theorem do_call (kD : DoT) {t u : List Rcd} {o : OpR} {r : RepR} (h : doT t o = (u, r)) (ho : OpWf o) {A : Option Addr} {n cap : Nat} {w : World} (hc : n ≤ cap) (hts : IsTs w A n t) (hn : n ≤ 20) :
    Calls Try.prog 16 #[.slice A n cap, .agg #[.int .i64 o.kind, .string o.key, .string o.value, .int .i64 o.rev, .string o.upto, .int .i64 o.life, .string o.note]] w (DoAns w u r) := by
  have q := kD t o A n cap w ho hc hts (by omega)
  rw [h] at q
  exact q
/-- The same, where the answer's parts are known. -/
def DoAt (w : World) (u : List Rcd) (z ρ : Int) (v : ByteArray) (ks : List ByteArray) (e : Ending) (w' : World) : Prop :=
  ∃ A n cap K k kc, e = .returned (.tuple #[.slice A n cap, .agg #[.int .i64 z, .int .i64 ρ, .string v, .slice K k kc]]) ∧ n ≤ cap ∧ IsTs w' A n u ∧ k ≤ kc ∧ IsSs w' K k ks ∧ Below w.heap.size w w'
theorem do_at (kD : DoT) {t u : List Rcd} {o : OpR} {x : Nat} {ρ : Int} {v : ByteArray} {ks : List ByteArray} (h : doT t o = (u, ⟨x, ρ, v, ks⟩)) (z : Int) (hz : z = x) (ho : OpWf o) {A : Option Addr} {n cap : Nat} {w : World} (hc : n ≤ cap) (hts : IsTs w A n t) (hn : n ≤ 20) :
    Calls Try.prog 16 #[.slice A n cap, .agg #[.int .i64 o.kind, .string o.key, .string o.value, .int .i64 o.rev, .string o.upto, .int .i64 o.life, .string o.note]] w (DoAt w u z ρ v ks) := by
  subst hz
  exact do_call kD h ho hc hts hn
theorem ts_len {w : World} {A : Option Addr} {n : Nat} {t : List Rcd} (h : IsTs w A n t) (hr : RightT t) : n ≤ 20 := by rw [h.1]; exact hr.2.2
/-- Five raw numbers as a function. -/
def arr5 (a0 a1 a2 a3 a4 : Int) : Nat → Int
  | 0 => a0 | 1 => a1 | 2 => a2 | 3 => a3 | _ => a4
theorem arr5_wf {a0 a1 a2 a3 a4 : Int} (h0 : (Lit.int .i64 a0).wf = true) (h1 : (Lit.int .i64 a1).wf = true) (h2 : (Lit.int .i64 a2).wf = true) (h3 : (Lit.int .i64 a3).wf = true) (h4 : (Lit.int .i64 a4).wf = true) : ∀ j, j < 5 → (Lit.int .i64 (arr5 a0 a1 a2 a3 a4 j)).wf = true := fun j hj => by
  rcases (by omega : j = 0 ∨ j = 1 ∨ j = 2 ∨ j = 3 ∨ j = 4) with rfl | rfl | rfl | rfl | rfl <;> assumption
/-- Table's answer, as a slice that reads so. -/
theorem tab_ts {w : World} {base : Nat} {v : Value} {l : List (Rcd × Value)} {t : List Rcd} (h : RowT w base v l) (hm : l.map Prod.fst = t) (hx : ExT w l) : ∃ A n cap, v = .slice A n cap ∧ n ≤ cap ∧ IsTs w A n t := by
  obtain ⟨A, cap, hv, hc, hts⟩ := h.isTs hx
  rw [hm] at hts
  exact ⟨A, _, cap, hv, hc, hts⟩
/-- What a key's op does to it, where another table is asked. -/
theorem eff_other {t u : List Rcd} {k q : ByteArray} {x : Option Rcd} (h : Eff t u k x) (hq : q ≠ k) : lookT u q = lookT t q := by rw [h.2.2, if_neg hq]
theorem eff_self {t u : List Rcd} {k : ByteArray} {x : Option Rcd} (h : Eff t u k x) : lookT u k = x := by rw [h.2.2, if_pos rfl]
theorem apart_math {t : List Rcd} (h : RightT t) {a b : OpR} (ha : checkO 2 a = 0) (hb : checkO 2 b = 0) (ka : a.kind ≠ 6) (kb : b.kind ≠ 6) (hne : a.key ≠ b.key) (hl : t.length ≤ 18) :
    (doT (doT t a).1 b).1 = (doT (doT t b).1 a).1 ∧ (doT t a).2 = (doT (doT t b).1 a).2 ∧ (doT (doT t a).1 b).2 = (doT t b).2 := by
  obtain ⟨ra, ea⟩ := do_eff h ha ka (.inl (by omega))
  obtain ⟨rb, eb⟩ := do_eff h hb kb (.inl (by omega))
  obtain ⟨rab, eab⟩ := do_eff ea.1 hb kb (.inl (by have := ea.2.1; omega))
  obtain ⟨rba, eba⟩ := do_eff eb.1 ha ka (.inl (by have := eb.2.1; omega))
  have l1 := eff_other ea (fun e => hne e.symm)
  have l2 := eff_other eb hne
  rw [l1] at rab eab
  rw [l2] at rba eba
  refine ⟨look_ext eab.1.rise eba.1.rise fun k => ?_, by rw [ra, rba], by rw [rab, rb]⟩
  rw [eab.2.2, eba.2.2, ea.2.2, eb.2.2]
  by_cases h1 : k = a.key
  · subst h1; simp [hne]
  · by_cases h2 : k = b.key
    · subst h2; simp [h1]
    · simp [h1, h2]
end Go.Proofs.Ytpnkkiokkhmjpaa
