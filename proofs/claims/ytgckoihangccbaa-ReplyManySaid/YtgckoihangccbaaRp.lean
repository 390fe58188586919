import Derived.Test.YtgckoihangccbaaRpMath
import Derived.Test.YtgckoihangccbaaTabSameRep
import Derived.Test.YtgckoihangccbaaStrs
/-
  Caches of replies in memory (stage 13): a slice that reads as a cache; what is asked of the program's functions.
-/
namespace Go.Proofs.Ytgckoihangccbaa
open Go.RowKit
set_option linter.unusedVariables false

/-- What a reply's, a call's cells may hold. -/
def RpW (r : RepR) : Prop := (Lit.int .i64 (r.errno : Int)).wf = true ∧ (Lit.int .i64 r.rev).wf = true ∧ r.value.size ≤ 140737488365000
def DnW (d : DnR) : Prop := (Lit.int .i64 d.client).wf = true ∧ (Lit.int .i64 d.id).wf = true ∧ RpW d.rep ∧ d.rep.keys.length * 16 ≤ 140737488351232
/-- Six cells that read as a client's last call. -/
def DnAt (w : World) (b o : Nat) (d : DnR) (x : Value) : Prop := w.cell? ⟨b, o, none⟩ = some (.int .i64 d.client) ∧ w.cell? ⟨b, o + 1, none⟩ = some (.int .i64 d.id) ∧ w.cell? ⟨b, o + 2, none⟩ = some (.int .i64 d.rep.errno) ∧ w.cell? ⟨b, o + 3, none⟩ = some (.int .i64 d.rep.rev) ∧ w.cell? ⟨b, o + 4, none⟩ = some (.string d.rep.value) ∧ w.cell? ⟨b, o + 5, none⟩ = some x
theorem DnAt.below {w w' : World} {b o : Nat} {r : DnR} {x : Value} (h : DnAt w b o r x) (hb : Below w.heap.size w w') : DnAt w' b o r x := by
  obtain ⟨h0, h1, h2, h3, h4, h5⟩ := h
  have hlt := lt_of_cell (a := ⟨b, o, none⟩) h0
  exact ⟨(hb.cell (p := ⟨b, o, none⟩) hlt).trans h0, (hb.cell (p := ⟨b, o + 1, none⟩) hlt).trans h1, (hb.cell (p := ⟨b, o + 2, none⟩) hlt).trans h2, (hb.cell (p := ⟨b, o + 3, none⟩) hlt).trans h3, (hb.cell (p := ⟨b, o + 4, none⟩) hlt).trans h4, (hb.cell (p := ⟨b, o + 5, none⟩) hlt).trans h5⟩
/-- A slice that reads as a cache. -/
def IsDs (w : World) (A : Option Addr) (n : Nat) (l : List DnR) : Prop :=
  n = l.length ∧ n ≤ maxLen ∧ (∀ r ∈ l, DnW r) ∧ (0 < n → ∃ b off, A = some ⟨b, off, none⟩ ∧ b < w.heap.size ∧ ∀ i, i < l.length → ∃ E m c, DnAt w b (off + i * 6) (atD l i) (.slice E m c) ∧ m ≤ c ∧ IsSs w E m (atD l i).rep.keys)
theorem IsDs.below {w w' : World} {A : Option Addr} {n : Nat} {l : List DnR} (h : IsDs w A n l) (hb : Below w.heap.size w w') : IsDs w' A n l := by
  obtain ⟨h1, h2, h3, h4⟩ := h
  refine ⟨h1, h2, h3, fun hn => ?_⟩
  obtain ⟨b, off, e, hlt, hc⟩ := h4 hn
  refine ⟨b, off, e, Nat.lt_of_lt_of_le hlt hb.size, fun i hi => ?_⟩
  obtain ⟨E, m, c, k1, k2, k3⟩ := hc i hi
  exact ⟨E, m, c, k1.below hb, k2, k3.below hb⟩
theorem isDs_nil (w : World) (A : Option Addr) : IsDs w A 0 [] := ⟨rfl, by unfold maxLen; omega, (fun r h => nomatch h), fun h => by omega⟩
/-- The i-th call, where the slice's block is known. -/
theorem IsDs.at {w W : World} {b off n i : Nat} {l : List DnR} (h : IsDs w (some ⟨b, off, none⟩) n l) (hi : i < l.length) (hb : Below w.heap.size w W) :
    ∃ E m c, DnAt W b (off + i * 6) (atD l i) (.slice E m c) ∧ m ≤ c ∧ IsSs W E m (atD l i).rep.keys := by
  have h2 := h.below hb
  obtain ⟨b2, o2, hA, hlt, hc⟩ := h2.2.2.2 (by have := h.1; omega)
  simp only [Option.some.injEq, Addr.mk.injEq, and_true] at hA
  obtain ⟨rfl, rfl⟩ := hA
  exact hc i hi
theorem IsDs.block {w : World} {A : Option Addr} {n : Nat} {l : List DnR} (h : IsDs w A n l) (hn : 0 < n) : ∃ b off, A = some ⟨b, off, none⟩ ∧ b < w.heap.size := by
  obtain ⟨b, off, e, hlt, _⟩ := h.2.2.2 hn
  exact ⟨b, off, e, hlt⟩
/-- What Keep, Look leave. (What is as it was may be the very slice that was handed in; nothing is asked of where it lies.) -/
def KeepPost (w : World) (u : List DnR) (z : Nat) (e : Ending) (w' : World) : Prop :=
  ∃ A n cap, e = .returned (.tuple #[.slice A n cap, .int .i64 z]) ∧ n ≤ cap ∧ IsDs w' A n u ∧ Below w.heap.size w w'
def LookPost (w : World) (r : RepR) (z : Nat) (e : Ending) (w' : World) : Prop :=
  ∃ K k kc, e = .returned (.tuple #[rpV r (.slice K k kc), .int .i64 z]) ∧ k ≤ kc ∧ IsSs w' K k r.keys ∧ Below w.heap.size w w'
/-- What is asked of the program. -/
def KeepQ : Prop := ∀ (l : List DnR) (c i : Int) (r : RepR) (A K : Option Addr) (n cap k kc : Nat) (w : World), n ≤ cap → IsDs w A n l → n * 72 ≤ 140737488351232 → (Lit.int .i64 c).wf = true → (Lit.int .i64 i).wf = true → RpW r → k ≤ kc → IsSs w K k r.keys → k * 16 ≤ 140737488351232 →
  Calls Try.prog 11 #[.slice A n cap, .int .i64 c, .int .i64 i, rpV r (.slice K k kc)] w (KeepPost w (keepL l c i r).1 (keepL l c i r).2)
def LookQ : Prop := ∀ (l : List DnR) (c i : Int) (A : Option Addr) (n cap : Nat) (w : World), n ≤ cap → IsDs w A n l → n * 72 ≤ 140737488351232 → (Lit.int .i64 c).wf = true → (Lit.int .i64 i).wf = true →
  Calls Try.prog 12 #[.slice A n cap, .int .i64 c, .int .i64 i] w (LookPost w (lookL l c i).1 (lookL l c i).2)
def RightQ13 : Prop := ∀ (l : List DnR) (A : Option Addr) (n cap : Nat) (w : World), n ≤ cap → IsDs w A n l → n * 72 ≤ 140737488351232 →
  Calls Try.prog 14 #[.slice A n cap] w fun e w' => e = .returned (.bool (rightD l)) ∧ Below w.heap.size w w'
def SameQ13 : Prop := ∀ (a b : RepR) (A B : Option Addr) (n cap m cap2 : Nat) (w : World), n ≤ cap → m ≤ cap2 → IsSs w A n a.keys → IsSs w B m b.keys → RpW a → RpW b → n * 16 ≤ 140737488351232 → m * 16 ≤ 140737488351232 →
  Calls Try.prog 16 #[rpV a (.slice A n cap), rpV b (.slice B m cap2)] w fun e w' => e = .returned (.bool (sameRp a b)) ∧ Below w.heap.size w w'
noncomputable def sameDs (a b : List DnR) : Bool := @decide (a = b) (Classical.propDecidable _)
theorem sameDs_iff {a b : List DnR} : sameDs a b = true ↔ a = b := by unfold sameDs; simp
theorem sameDs_self (a : List DnR) : sameDs a a = true := sameDs_iff.2 rfl
def SameAllQ : Prop := ∀ (a b : List DnR) (A B : Option Addr) (n cap m cap2 : Nat) (w : World), n ≤ cap → m ≤ cap2 → IsDs w A n a → IsDs w B m b → n * 72 ≤ 140737488351232 → m * 72 ≤ 140737488351232 →
  Calls Try.prog 17 #[.slice A n cap, .slice B m cap2] w fun e w' => e = .returned (.bool (sameDs a b)) ∧ Below w.heap.size w w'
end Go.Proofs.Ytgckoihangccbaa
