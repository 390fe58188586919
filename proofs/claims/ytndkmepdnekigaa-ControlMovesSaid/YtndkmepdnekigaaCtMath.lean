/-
  Plain mathematics of controllers (stage 18): what may be, what each command does. Nothing of the program is named here.
-/
namespace Go.Proofs.Ytndkmepdnekigaa
set_option linter.unusedVariables false

abbrev MbR := Int × Int
abbrev PlR := Int × Int × Int
structure CtR where
  level : Int
  mem : List MbR
  pl : List PlR
deriving DecidableEq
def zeroC : CtR := ⟨0, [], []⟩
def isMem (l : List MbR) (x : Int) : Prop := ∃ m ∈ l, m.1 = x
instance (l : List MbR) (x : Int) : Decidable (isMem l x) := by unfold isMem; infer_instance
/-- A name's place among members; -1: it has none. -/
def memI : List MbR → Int → Int
  | [], _ => -1
  | m :: l, x => if m.1 = x then 0 else if memI l x < 0 then -1 else memI l x + 1
theorem memI_lo (l : List MbR) (x : Int) : -1 ≤ memI l x := by
  induction l with
  | nil => simp [memI]
  | cons m l ih => unfold memI; split <;> (try split) <;> omega
theorem memI_no {l : List MbR} {x : Int} : memI l x < 0 ↔ ¬ isMem l x := by
  induction l with
  | nil => simp [memI, isMem]
  | cons m l ih =>
    unfold memI isMem
    by_cases h : m.1 = x
    · rw [if_pos h]
      constructor
      · intro h; omega
      · intro h2; exact absurd ⟨m, List.mem_cons_self, h⟩ h2
    · rw [if_neg h]
      by_cases h2 : memI l x < 0
      · rw [if_pos h2]
        refine ⟨fun _ => ?_, fun _ => by omega⟩
        rintro ⟨y, hy, he⟩
        rcases List.mem_cons.1 hy with rfl | hy
        · exact h he
        · exact (ih.1 h2) ⟨y, hy, he⟩
      · rw [if_neg h2]
        refine ⟨fun h3 => by omega, fun h3 => ?_⟩
        exact absurd (ih.2 (fun ⟨y, hy, he⟩ => h3 ⟨y, List.mem_cons_of_mem _ hy, he⟩)) h2
theorem memI_yes {l : List MbR} {x : Int} (h : isMem l x) : ∃ k : Nat, memI l x = k ∧ k < l.length ∧ (l.getD k (0, 0)).1 = x ∧ ∀ j, j < k → (l.getD j (0, 0)).1 ≠ x := by
  induction l with
  | nil => obtain ⟨_, h, _⟩ := h; cases h
  | cons m l ih =>
    unfold memI
    by_cases hm : m.1 = x
    · rw [if_pos hm]
      exact ⟨0, rfl, by simp, hm, fun j hj => by omega⟩
    · rw [if_neg hm]
      have h2 : isMem l x := by
        obtain ⟨y, hy, he⟩ := h
        rcases List.mem_cons.1 hy with rfl | hy
        · exact absurd he hm
        · exact ⟨y, hy, he⟩
      obtain ⟨k, hk, hl, hx, hb⟩ := ih h2
      rw [hk, if_neg (by omega)]
      refine ⟨k + 1, by omega, by simp; omega, by simpa using hx, fun j hj => ?_⟩
      cases j with
      | zero => exact hm
      | succ j => simpa using hb j (by omega)
/-- May a binary be, at a level? -/
def binB (level n : Int) : Bool := n == 2 || (n == 1 && level == 1)
theorem binB_iff {level n : Int} : binB level n = true ↔ n = 2 ∨ (n = 1 ∧ level = 1) := by unfold binB; simp
/-- X1. -/
def MemOk (level : Int) (l : List MbR) : Prop := l.Pairwise (fun a b => a.1 < b.1) ∧ ∀ m ∈ l, 1 ≤ m.1 ∧ m.1 ≤ 100 ∧ binB level m.2 = true
def PlOk (l : List MbR) (p : PlR) : Prop := isMem l p.1 ∧ 1 ≤ p.2.1 ∧ p.2.1 ≤ 9007199254740992 ∧ (p.2.2 = 0 ∨ (isMem l p.2.2 ∧ p.2.2 ≠ p.1))
instance (l : List MbR) (p : PlR) : Decidable (PlOk l p) := by unfold PlOk; infer_instance
instance (level : Int) (l : List MbR) : Decidable (MemOk level l) := by unfold MemOk; infer_instance
def RightC (c : CtR) : Prop := (c.level = 1 ∨ c.level = 2) ∧ (1 ≤ c.mem.length ∧ c.mem.length ≤ 8) ∧ (1 ≤ c.pl.length ∧ c.pl.length ≤ 8) ∧ MemOk c.level c.mem ∧ ∀ p ∈ c.pl, PlOk c.mem p
instance (c : CtR) : Decidable (RightC c) := by unfold RightC; infer_instance
def rightC (c : CtR) : Bool := decide (RightC c)
/-- X2. -/
def newRaw (n h b : Int) : CtR := ⟨1, [(h, b)], List.replicate (min n.toNat 9) (h, 1, 0)⟩
def newC (n h b : Int) : CtR := if RightC (newRaw n h b) then newRaw n h b else zeroC
/-- A member in its place. -/
def insM : List MbR → MbR → List MbR
  | [], x => [x]
  | m :: l, x => if x.1 < m.1 then x :: m :: l else m :: insM l x
/-- X3. -/
def joinC (c : CtR) (x b : Int) : CtR × Int :=
  if ¬ RightC c ∨ x < 1 ∨ 100 < x ∨ (b ≠ 1 ∧ b ≠ 2) ∨ isMem c.mem x then (c, 1)
  else if binB c.level b = false then (c, 22) else if 8 ≤ c.mem.length then (c, 50) else (⟨c.level, insM c.mem (x, b), c.pl⟩, 0)
def reportC (c : CtR) (x b : Int) : CtR × Int :=
  if ¬ RightC c ∨ (b ≠ 1 ∧ b ≠ 2) then (c, 1) else if ¬ isMem c.mem x then (c, 70) else if binB c.level b = false then (c, 22)
  else (⟨c.level, c.mem.set (memI c.mem x).toNat (x, b), c.pl⟩, 0)
/-- X4. -/
def finalC (c : CtR) : CtR × Int :=
  if ¬ RightC c then (c, 1) else if ∃ m ∈ c.mem, m.2 ≠ 2 then (c, 22) else (⟨2, c.mem, c.pl⟩, 0)
def atP9 (l : List PlR) (i : Nat) : PlR := l.getD i (0, 0, 0)
/-- X5. -/
def placeE (c : CtR) (s : Int) : Int := if ¬ RightC c then 1 else if s < 0 ∨ (c.pl.length : Int) ≤ s then 83 else 0
def setPl (c : CtR) (s : Int) (p : PlR) : CtR := ⟨c.level, c.mem, c.pl.set s.toNat p⟩
def planC (c : CtR) (s t : Int) : CtR × Int :=
  if placeE c s ≠ 0 then (c, placeE c s) else if ¬ isMem c.mem t then (c, 70) else if (atP9 c.pl s.toNat).2.2 ≠ 0 then (c, 92)
  else if (atP9 c.pl s.toNat).1 = t then (c, 1) else if (atP9 c.pl s.toNat).2.1 = 9007199254740992 then (c, 50)
  else (setPl c s ((atP9 c.pl s.toNat).1, (atP9 c.pl s.toNat).2.1, t), 0)
def commitC (c : CtR) (s : Int) : CtR × Int :=
  if placeE c s ≠ 0 then (c, placeE c s) else if (atP9 c.pl s.toNat).2.2 = 0 then (c, 70) else if (atP9 c.pl s.toNat).2.1 = 9007199254740992 then (c, 50)
  else (setPl c s ((atP9 c.pl s.toNat).2.2, (atP9 c.pl s.toNat).2.1 + 1, 0), 0)
def cancelC (c : CtR) (s : Int) : CtR × Int :=
  if placeE c s ≠ 0 then (c, placeE c s) else if (atP9 c.pl s.toNat).2.2 = 0 then (c, 70) else (setPl c s ((atP9 c.pl s.toNat).1, (atP9 c.pl s.toNat).2.1, 0), 0)
/-- X6: a member's load. -/
def hasP (x : Int) (p : PlR) : Bool := p.2.2 == x || (p.2.2 == 0 && p.1 == x)
def loadC (l : List PlR) (x : Int) : Nat := l.countP (hasP x)
/-- The first of the most loaded ones; of the least loaded ones. -/
def mostL (f : Int → Nat) : List MbR → Int → Int
  | [], x => x
  | m :: l, x => mostL f l (if f x < f m.1 then m.1 else x)
def leastL (f : Int → Nat) : List MbR → Int → Int
  | [], x => x
  | m :: l, x => leastL f l (if f m.1 < f x then m.1 else x)
def freeP (x : Int) (p : PlR) : Bool := p.1 == x && p.2.2 == 0
def balC (c : CtR) : Int × Int × Bool :=
  if ¬ RightC c then (0, 0, false) else
  let f := loadC c.pl
  let a := mostL f c.mem.tail (c.mem.headD (0, 0)).1
  let b := leastL f c.mem.tail (c.mem.headD (0, 0)).1
  if f a < f b + 2 then (0, 0, false) else match c.pl.findIdx? (freeP a) with
    | some i => ((i : Int), b, true)
    | none => (0, 0, false)
end Go.Proofs.Ytndkmepdnekigaa
