import Derived.Test.YtndkmepdnekigaaGenRow
import Derived.Test.YtndkmepdnekigaaCtMath
import Derived.Laws.StructEq
/-
  Controllers in memory (stage 18), and what is asked of the program's functions.
-/
namespace Go.Proofs.Ytndkmepdnekigaa
open Go.RowKit
set_option linter.unusedVariables false

def MbW (l : List MbR) : Prop := ∀ x ∈ l, (Lit.int .i64 x.1).wf = true ∧ (Lit.int .i64 x.2).wf = true
def PlW (l : List PlR) : Prop := ∀ x ∈ l, (Lit.int .i64 x.1).wf = true ∧ (Lit.int .i64 x.2.1).wf = true ∧ (Lit.int .i64 x.2.2).wf = true
def CtW (c : CtR) : Prop := (Lit.int .i64 c.level).wf = true ∧ MbW c.mem ∧ PlW c.pl
abbrev ctV (c : CtR) (A : Option Addr) (n cap : Nat) (B : Option Addr) (m cm : Nat) : Value := .agg #[.int .i64 c.level, .slice A n cap, .slice B m cm]
abbrev ctB (c : CtR) (A : Option Addr) (n cap : Nat) (B : Option Addr) (m cm : Nat) : Obj := .cells #[.int .i64 c.level, .slice A n cap, .slice B m cm] 26
def IsCt (w : World) (c : CtR) (A : Option Addr) (n : Nat) (B : Option Addr) (m : Nat) : Prop := IsG s2 w A n c.mem ∧ IsG s3 w B m c.pl
theorem IsCt.below {w w' : World} {c : CtR} {A B : Option Addr} {n m : Nat} (h : IsCt w c A n B m) (hb : Below w.heap.size w w') : IsCt w' c A n B m := ⟨h.1.below hb, h.2.below hb⟩
theorem infoM : (Try.prog.info? 45).map (fun i => (i.zero, i.size, i.bytes)) = some (some (.agg #[.int .i64 0, .int .i64 0]), 2, 16) := by kernel_rfl
theorem infoP9 : (Try.prog.info? 48).map (fun i => (i.zero, i.size, i.bytes)) = some (some (.agg #[.int .i64 0, .int .i64 0, .int .i64 0]), 3, 24) := by kernel_rfl
def atM9 (l : List MbR) (i : Nat) : MbR := l.getD i (0, 0)
theorem atM9_get {l : List MbR} {i : Nat} (h : i < l.length) : l[i]? = some (atM9 l i) := by
  unfold atM9; rw [List.getD_eq_getElem?_getD, List.getElem?_eq_getElem h]; rfl
theorem atP9_get {l : List PlR} {i : Nat} (h : i < l.length) : l[i]? = some (atP9 l i) := by
  unfold atP9; rw [List.getD_eq_getElem?_getD, List.getElem?_eq_getElem h]; rfl
theorem memI_is {l : List MbR} {x : Int} {k : Nat} (h : k < l.length) (hk : (atM9 l k).1 = x) (hb : ∀ j, j < k → (atM9 l j).1 ≠ x) : memI l x = k := by
  obtain ⟨q, hq, hl, hx, hn⟩ := memI_yes (l := l) (x := x) ⟨atM9 l k, List.mem_of_getElem? (atM9_get h), hk⟩
  rw [hq]
  rcases Nat.lt_trichotomy q k with h1 | h1 | h1
  · exact absurd hx (hb q h1)
  · rw [h1]
  · exact absurd hk (hn k h1)
theorem memI_none {l : List MbR} {x : Int} (hb : ∀ j, j < l.length → (atM9 l j).1 ≠ x) : memI l x = -1 := by
  have h1 := memI_lo l x
  have h2 : memI l x < 0 := memI_no.2 fun ⟨m, hm, e⟩ => by
    obtain ⟨j, hj, rfl⟩ := List.getElem_of_mem hm
    refine hb j hj ?_
    have := atM9_get hj
    rw [List.getElem?_eq_getElem hj] at this
    rw [← Option.some.inj this]; exact e
  omega
/-- What comes out of a command: a controller that lies in new memory, or parts of the one that was handed in. -/
def CtPost (w : World) (c : CtR) (r : CtR × Int) (e : Ending) (w' : World) : Prop :=
  ∃ A n cap B m cm, e = .returned (.tuple #[ctV r.1 A n cap B m cm, .int .i64 r.2]) ∧ n ≤ cap ∧ m ≤ cm ∧ IsCt w' r.1 A n B m ∧ Below w.heap.size w w'
def CtArg (w : World) (c : CtR) (A : Option Addr) (n cap : Nat) (B : Option Addr) (m cm : Nat) : Prop := IsCt w c A n B m ∧ CtW c ∧ n ≤ cap ∧ m ≤ cm ∧ n * 16 ≤ 140737488351232 ∧ m * 24 ≤ 140737488351232
def RightC9 : Prop := ∀ (c : CtR) (A B : Option Addr) (n cap m cm : Nat) (w : World), CtArg w c A n cap B m cm →
  Calls Try.prog 16 #[ctV c A n cap B m cm] w fun e w' => e = .returned (.bool (rightC c)) ∧ Below w.heap.size w w'
def NewC9 : Prop := ∀ (n h b : Int) (w : World), (Lit.int .i64 n).wf = true → (Lit.int .i64 h).wf = true → (Lit.int .i64 b).wf = true →
  Calls Try.prog 12 #[.int .i64 n, .int .i64 h, .int .i64 b] w fun e w' => ∃ A k cap B m cm, e = .returned (ctV (newC n h b) A k cap B m cm) ∧ k ≤ cap ∧ m ≤ cm ∧ IsCt w' (newC n h b) A k B m ∧ Below w.heap.size w w'
def JoinC9 : Prop := ∀ (c : CtR) (A B : Option Addr) (n cap m cm : Nat) (x b : Int) (w : World), CtArg w c A n cap B m cm → (Lit.int .i64 x).wf = true → (Lit.int .i64 b).wf = true →
  Calls Try.prog 22 #[ctV c A n cap B m cm, .int .i64 x, .int .i64 b] w (CtPost w c (joinC c x b))
def ReportC9 : Prop := ∀ (c : CtR) (A B : Option Addr) (n cap m cm : Nat) (x b : Int) (w : World), CtArg w c A n cap B m cm → (Lit.int .i64 x).wf = true → (Lit.int .i64 b).wf = true →
  Calls Try.prog 24 #[ctV c A n cap B m cm, .int .i64 x, .int .i64 b] w (CtPost w c (reportC c x b))
def FinalC9 : Prop := ∀ (c : CtR) (A B : Option Addr) (n cap m cm : Nat) (w : World), CtArg w c A n cap B m cm →
  Calls Try.prog 18 #[ctV c A n cap B m cm] w (CtPost w c (finalC c))
def PlanC9 : Prop := ∀ (c : CtR) (A B : Option Addr) (n cap m cm : Nat) (s t : Int) (w : World), CtArg w c A n cap B m cm → (Lit.int .i64 s).wf = true → (Lit.int .i64 t).wf = true →
  Calls Try.prog 26 #[ctV c A n cap B m cm, .int .i64 s, .int .i64 t] w (CtPost w c (planC c s t))
def CommitC9 : Prop := ∀ (c : CtR) (A B : Option Addr) (n cap m cm : Nat) (s : Int) (w : World), CtArg w c A n cap B m cm → (Lit.int .i64 s).wf = true →
  Calls Try.prog 28 #[ctV c A n cap B m cm, .int .i64 s] w (CtPost w c (commitC c s))
def CancelC9 : Prop := ∀ (c : CtR) (A B : Option Addr) (n cap m cm : Nat) (s : Int) (w : World), CtArg w c A n cap B m cm → (Lit.int .i64 s).wf = true →
  Calls Try.prog 30 #[ctV c A n cap B m cm, .int .i64 s] w (CtPost w c (cancelC c s))
def BalC9 : Prop := ∀ (c : CtR) (A B : Option Addr) (n cap m cm : Nat) (w : World), CtArg w c A n cap B m cm →
  Calls Try.prog 20 #[ctV c A n cap B m cm] w fun e w' => e = .returned (.tuple #[.int .i64 (balC c).1, .int .i64 (balC c).2.1, .bool (balC c).2.2]) ∧ Below w.heap.size w w'
end Go.Proofs.Ytndkmepdnekigaa
