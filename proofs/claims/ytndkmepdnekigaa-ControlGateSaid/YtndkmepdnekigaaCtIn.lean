import Derived.Test.YtndkmepdnekigaaCtCtl
import Derived.Test.YtndkmepdnekigaaCtLawM
/-
  A controller in a variable's block, wherever it lies (stage 18).
-/
namespace Go.Proofs.Ytndkmepdnekigaa
open Go.RowKit
set_option linter.unusedVariables false

def CtIn (W wx : World) (p e : Value) (r : CtR × Int) : Prop :=
  ∃ g A n cap B m cm, p = .pointer (some ⟨g, 0, none⟩) ∧ e = .int .i64 r.2 ∧ Blk wx g (ctB r.1 A n cap B m cm) ∧ IsCt wx r.1 A n B m ∧ n ≤ cap ∧ m ≤ cm ∧ Below W.heap.size W wx
theorem ctIn_new {W V : World} {k : CtR} {z : Int} {A B : Option Addr} {n cap m cm : Nat} (h : IsCt V k A n B m) (h1 : n ≤ cap) (h2 : m ≤ cm) (hb : Below W.heap.size W V) :
    CtIn W (V.alloc (ctB k A n cap B m cm)) (.pointer (some ⟨V.heap.size, 0, none⟩)) (.int .i64 z) (k, z) :=
  ⟨V.heap.size, A, n, cap, B, m, cm, rfl, rfl, Blk.new _ _, h.below (ba9 _ _), h1, h2, bch hb (ba9 _ _)⟩
theorem s2_apart {V : World} {g : Nat} {c : CtR} {A B D : Option Addr} {n cap m cm k : Nat} {l : List MbR} (hg : Blk V g (ctB c A n cap B m cm)) (h : IsG s2 V D k l) : ApartN g D k := by
  intro hk b off e hbg
  subst hbg
  have hl : 0 < l.length := by have := h.1; omega
  obtain ⟨b2, off2, hA, _, y0, y1⟩ := is2_at (i := 0) h (List.getElem?_eq_getElem hl)
  rw [e] at hA
  cases hA
  rw [Nat.zero_mul, Nat.add_zero] at y0 y1
  have hc := fun j => Blk.cell hg j
  have h0 := hc off
  rw [y0] at h0
  have h1 := hc (off + 1)
  rw [y1] at h1
  rcases (by omega : off = 0 ∨ off = 1 ∨ off = 2 ∨ 3 ≤ off) with rfl | rfl | rfl | h3
  · simp at h1
  · simp at h0
  · simp at h0
  · rw [Array.getElem?_eq_none (by simp; omega)] at h0; cases h0
theorem s3_apart {V : World} {g : Nat} {c : CtR} {A B D : Option Addr} {n cap m cm k : Nat} {l : List PlR} (hg : Blk V g (ctB c A n cap B m cm)) (h : IsG s3 V D k l) : ApartN g D k := by
  intro hk b off e hbg
  subst hbg
  have hl : 0 < l.length := by have := h.1; omega
  obtain ⟨b2, off2, hA, _, y0, y1, y2⟩ := is3_at (i := 0) h (List.getElem?_eq_getElem hl)
  rw [e] at hA
  cases hA
  rw [Nat.zero_mul, Nat.add_zero] at y0 y1
  have hc := fun j => Blk.cell hg j
  have h0 := hc off
  rw [y0] at h0
  have h1 := hc (off + 1)
  rw [y1] at h1
  rcases (by omega : off = 0 ∨ off = 1 ∨ off = 2 ∨ 3 ≤ off) with rfl | rfl | rfl | h3
  · simp at h1
  · simp at h0
  · simp at h0
  · rw [Array.getElem?_eq_none (by simp; omega)] at h0; cases h0
theorem isCt_put3 {V : World} {g : Nat} {c k : CtR} {A B D E : Option Addr} {n cap m cm i j : Nat} (hg : Blk V g (ctB c A n cap B m cm)) (h : IsCt V k D i E j) (k2 : CtR) (A2 : Option Addr) (n2 c2 : Nat) (B2 : Option Addr) (m2 d2 : Nat) :
    IsCt (put3 V g (.int .i64 k2.level) (.slice A2 n2 c2) (.slice B2 m2 d2)) k D i E j :=
  ⟨(((h.1.far (s2_apart hg h.1)).far (s2_apart hg h.1)).far (s2_apart hg h.1)), (((h.2.far (s3_apart hg h.2)).far (s3_apart hg h.2)).far (s3_apart hg h.2))⟩
theorem isCt_set {V : World} {g : Nat} {c k : CtR} {A B D E : Option Addr} {n cap m cm i j q : Nat} (hg : Blk V g (ctB c A n cap B m cm)) (h : IsCt V k D i E j) (u : Value) : IsCt (V.setCell ⟨g, q, none⟩ u) k D i E j :=
  ⟨h.1.far (s2_apart hg h.1), h.2.far (s3_apart hg h.2)⟩
theorem ctIn_put {W V : World} {g : Nat} {c k : CtR} {z : Int} {A B D E : Option Addr} {n cap m cm i ci j cj : Nat} (hg : Blk V g (ctB c A n cap B m cm)) (h : IsCt V k D i E j) (h1 : i ≤ ci) (h2 : j ≤ cj) (hb : Below W.heap.size W V) (hw : W.heap.size ≤ g) :
    CtIn W (put3 V g (.int .i64 k.level) (.slice D i ci) (.slice E j cj)) (.pointer (some ⟨g, 0, none⟩)) (.int .i64 z) (k, z) :=
  ⟨g, D, i, ci, E, j, cj, rfl, rfl, ct_put hg k D i ci E j cj, isCt_put3 hg h _ _ _ _ _ _ _, h1, h2, below_put3 hb hw _ _ _⟩
end Go.Proofs.Ytndkmepdnekigaa
