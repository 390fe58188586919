import Derived.Test.YtkcmjhpbjgjebaaFTake
import Derived.Test.YtkcmjhpbjgjebaaGMath
import Derived.Test.YtkcmjhpbjgjebaaBuild
import Derived.Maps.AppendAt
import Derived.OwnWalk
import Derived.WalkMore
/-
  The contract of field.Decode: what decR says, in new memory; nothing that was in memory changes.
-/
namespace Go.Proofs.Ytkcmjhpbjgjebaa
open Go.RowKit

/-- Fields' cells in memory. -/
def cellsF (fs : List Fld) : List Value := fs.flatMap fun f => [Value.int .i64 f.1, .string f.2]
theorem cellsF_append (a b : List Fld) : cellsF (a ++ b) = cellsF a ++ cellsF b := by simp [cellsF]
theorem cellsF_len (fs : List Fld) : (cellsF fs).length = fs.length * 2 := by
  induction fs with
  | nil => rfl
  | cons f fs ih => rw [show cellsF (f :: fs) = [Value.int .i64 f.1, .string f.2] ++ cellsF fs from rfl, List.length_append, ih]; simp; omega
theorem cellsF_at (fs : List Fld) : ∀ i, i < fs.length → (cellsF fs)[i * 2]? = some (.int .i64 (tg fs i)) ∧ (cellsF fs)[i * 2 + 1]? = some (.string (dt fs i)) := by
  induction fs with
  | nil => intro i hi; simp at hi
  | cons f fs ih =>
    intro i hi
    rw [show cellsF (f :: fs) = Value.int .i64 f.1 :: .string f.2 :: cellsF fs from rfl]
    cases i with
    | zero => exact ⟨rfl, rfl⟩
    | succ i =>
      have := ih i (by simpa using hi)
      rw [show (i + 1) * 2 = i * 2 + 1 + 1 by omega]
      exact ⟨by simpa [tg] using this.1, by simpa [dt] using this.2⟩

/-- An owned row of fields reads as these fields. -/
theorem isFs_own {w : World} {base n : Nat} {v : Value} {fs : List Fld} (h : w.ownsRow base 44 2 v n (cellsF fs)) (hwf : FsWf fs) :
    ∃ A cap, v = .slice A n cap ∧ n ≤ cap ∧ IsFs w A n fs := by
  have hn : n = fs.length := by have := h.1; rw [cellsF_len] at this; omega
  rcases h.2 with ⟨rfl, rfl⟩ | ⟨g, cap, cur, rfl, hg, hh, hnc, hcm, hcs, htk⟩
  · exact ⟨none, 0, rfl, Nat.le_refl _, hn, by unfold maxLen; omega, hwf, fun h => by omega⟩
  · refine ⟨_, cap, rfl, hnc, hn, Nat.le_trans hnc hcm, hwf, fun _ => ⟨g, 0, rfl, lt_of_blk hh, fun i hi => ?_⟩⟩
    obtain ⟨e1, e2⟩ := cellsF_at fs i hi
    have c1 := h.cellAt (i * 2) (by omega)
    have c2 := h.cellAt (i * 2 + 1) (by omega)
    rw [e1] at c1
    rw [e2] at c2
    rw [Nat.zero_add]
    exact ⟨c1, c2⟩

theorem infoFld : (Try.prog.info? 44).map (fun i => (i.zero, i.size, i.bytes)) = some (some (.agg #[.int .i64 0, .string ⟨#[]⟩]), 2, 24) := by kernel_rfl
theorem cell_two_new (w : World) (x y : Value) (t : TypeId) : ∀ j u, [x, y][j]? = some u → (w.alloc (.cells #[x, y] t)).cell? ((⟨w.heap.size, 0, none⟩ : Addr).add j) = some u := by
  intro j u h
  have hx := World.alloc_heap_new w (.cells #[x, y] t)
  rcases j with _ | _ | j
  · simp at h; subst h; exact cell_blk hx 0
  · simp at h; subst h; exact cell_blk hx 1
  · simp at h

/-- A text's length (a loop's measure). -/
def lenOf : Value → Nat | .string S => S.size | _ => 0
/-- What Decode leaves. -/
def DecPost (w : World) (r : List Fld × Nat) (e : Ending) (w' : World) : Prop :=
  ∃ A n cap, e = .returned (.tuple #[.slice A n cap, .int .i64 r.2]) ∧ n ≤ cap ∧ IsFs w' A n r.1 ∧ Below w.heap.size w w'

theorem isFs_nil (w : World) (A : Option Addr) : IsFs w A 0 [] := ⟨rfl, by unfold maxLen; omega, fun f h => by simp at h, fun h => by omega⟩
theorem wf_of {t : Nat} (h : t ≤ 1000000) : (Lit.int .i64 (t : Int)).wf = true := by
  rw [show (Lit.int .i64 (t : Int)).wf = (decide (-9223372036854775808 ≤ (t : Int)) && decide ((t : Int) ≤ 9223372036854775807)) from rfl]
  simp; omega

end Go.Proofs.Ytkcmjhpbjgjebaa
