import Derived.Test.YtkcmjhpbjgjebaaRecMadeMath
import Derived.Test.YtkcmjhpbjgjebaaRecRefDecode
import Derived.Test.YtkcmjhpbjgjebaaGPick
import Derived.Deep.RegionHeld3
import Derived.Deep.DeepCutAuto
import Derived.IntWalk
import Derived.Deep.AppendLies
/-
  The contract of the law's own helper 'Record': a record that may be, of few bytes, in new memory.
-/
namespace Go.Proofs.Ytkcmjhpbjgjebaa
open Go.RowKit
set_option linter.unusedSimpArgs false
set_option linter.unusedVariables false

/-- Five numbers in a block. -/
def Arr5 (w : World) (b : Nat) (a0 a1 a2 a3 a4 : Int) : Prop := w.heap[b]? = some (.cells #[.int .i64 a0, .int .i64 a1, .int .i64 a2, .int .i64 a3, .int .i64 a4] 25 (0, 0))
theorem Arr5.kept {w w' : World} {b : Nat} {a0 a1 a2 a3 a4 : Int} {row : Option Nat} (h : Arr5 w b a0 a1 a2 a3 a4) (hg : w.grownBy w' row) (hne : some b ≠ row) : Arr5 w' b a0 a1 a2 a3 a4 := Eq.trans (hg.block b (lt_of_blk h) hne) h
theorem Arr5.below {w w' : World} {b : Nat} {a0 a1 a2 a3 a4 : Int} (h : Arr5 w b a0 a1 a2 a3 a4) (hb : Below w.heap.size w w') : Arr5 w' b a0 a1 a2 a3 a4 := Eq.trans (hb.block b (lt_of_blk h)) h
theorem Arr5.alloc {w : World} {b : Nat} {a0 a1 a2 a3 a4 : Int} (h : Arr5 w b a0 a1 a2 a3 a4) (o : Obj) : Arr5 (w.alloc o) b a0 a1 a2 a3 a4 := h.below ((Below.refl _ _).alloc (Nat.le_refl _) o)
theorem Arr5.cells {w : World} {b : Nat} {a0 a1 a2 a3 a4 : Int} (h : Arr5 w b a0 a1 a2 a3 a4) : w.cell? ⟨b, 0, none⟩ = some (.int .i64 a0) ∧ w.cell? ⟨b, 1, none⟩ = some (.int .i64 a1) ∧ w.cell? ⟨b, 2, none⟩ = some (.int .i64 a2) ∧ w.cell? ⟨b, 3, none⟩ = some (.int .i64 a3) ∧ w.cell? ⟨b, 4, none⟩ = some (.int .i64 a4) :=
  ⟨cell_blk h 0, cell_blk h 1, cell_blk h 2, cell_blk h 3, cell_blk h 4⟩
theorem arr_keep {x : Nat} {w0 W W' : World} {v0 v1 v2 v3 v4 : Value}
    (h : W.cell? ⟨x, 0, none⟩ = some v0 ∧ W.cell? ⟨x, 1, none⟩ = some v1 ∧ W.cell? ⟨x, 2, none⟩ = some v2 ∧ W.cell? ⟨x, 3, none⟩ = some v3 ∧ W.cell? ⟨x, 4, none⟩ = some v4 ∧ Below w0.heap.size w0 W) (b : Below W.heap.size W W') :
    W'.cell? ⟨x, 0, none⟩ = some v0 ∧ W'.cell? ⟨x, 1, none⟩ = some v1 ∧ W'.cell? ⟨x, 2, none⟩ = some v2 ∧ W'.cell? ⟨x, 3, none⟩ = some v3 ∧ W'.cell? ⟨x, 4, none⟩ = some v4 ∧ Below w0.heap.size w0 W' := by
  obtain ⟨h0, h1, h2, h3, h4, h6⟩ := h
  have hlt := lt_of_cell (a := ⟨x, 0, none⟩) h0
  exact ⟨(b.cell (p := ⟨x, 0, none⟩) hlt).trans h0, (b.cell (p := ⟨x, 1, none⟩) hlt).trans h1, (b.cell (p := ⟨x, 2, none⟩) hlt).trans h2, (b.cell (p := ⟨x, 3, none⟩) hlt).trans h3, (b.cell (p := ⟨x, 4, none⟩) hlt).trans h4, bch h6 b⟩

theorem slice_cap {A B : Option Addr} {n m c d : Nat} (h : Value.slice A n c = .slice B m d) : c = d := by cases h; rfl
/-- Ahead of Extra: the record that is being made, and what it is made of. -/
def MidR (a0 a1 a2 a3 a4 : Int) (w wx : World) (s : Value) (P : Rcd → Prop) : Prop :=
  ∃ g r, s = .pointer (some ⟨g, 0, none⟩) ∧ RcBlk wx g r (.slice none 0 0) ∧ P r ∧ Arr5 wx w.heap.size a0 a1 a2 a3 a4 ∧ RcBlk wx (w.heap.size + 1) zeroR (.slice none 0 0) ∧ Below w.heap.size w wx ∧ w.heap.size + 2 ≤ g
/-- .. ahead of its Value, too. -/
def PartK (r : Rcd) : Prop := (1 ≤ r.key.size ∧ r.key.size ≤ 16) ∧ r.value = ByteArray.empty ∧ (0 ≤ r.rev ∧ r.rev ≤ 9007199254740992) ∧ r.life = 0 ∧ r.note = ByteArray.empty ∧ r.extra = []
def PartV (r : Rcd) : Prop := (1 ≤ r.key.size ∧ r.key.size ≤ 16) ∧ r.value.size ≤ 200 ∧ (0 ≤ r.rev ∧ r.rev ≤ 9007199254740992) ∧ r.life = 0 ∧ r.note = ByteArray.empty ∧ r.extra = []

def RecMade (v : Int) (w : World) (e : Ending) (w' : World) : Prop :=
  ∃ A n cap r, e = .returned (rcV r (.slice A n cap)) ∧ n ≤ cap ∧ IsFs w' A n r.extra ∧ RecNice v r ∧ Below w.heap.size w w'

set_option maxRecDepth 100000 in
set_option maxHeartbeats 8000000 in
theorem record_any (v : Int) (hv : v = 1 ∨ v = 2) (a0 a1 a2 a3 a4 : Int) (h0 : (Lit.int .i64 a0).wf = true) (h1 : (Lit.int .i64 a1).wf = true) (h2 : (Lit.int .i64 a2).wf = true) (h3 : (Lit.int .i64 a3).wf = true) (h4 : (Lit.int .i64 a4).wf = true)
    (A : Option Addr) (n cap : Nat) (f : Nat → Nat → Int) (B : Option Addr) (m cap2 : Nat) (g : Nat → ByteArray) (w : World) (hra : IsRaw w A n 2 f) (hst : IsStrs w B m g) :
    Calls Try.prog 9 #[.int .i64 v, .agg #[.int .i64 a0, .int .i64 a1, .int .i64 a2, .int .i64 a3, .int .i64 a4], .slice A n cap, .slice B m cap2] w (RecMade v w) := by
  have q0 := pickL_nat a0 4 (by omega) (by omega) h0
  have k0 := pickN_lt a0 4 (by omega)
  have q2 := pickL_nat a2 400 (by omega) (by omega) h2
  have k2 := pickN_lt a2 400 (by omega)
  have q3 := pickL_nat a3 300 (by omega) (by omega) h3
  have k3 := pickN_lt a3 300 (by omega)
  have q4 := pickL_nat a4 4 (by omega) (by omega) h4
  have k4 := pickN_lt a4 4 (by omega)
  generalize pickN a0 4 = z0 at q0 k0
  generalize pickN a2 400 = z2 at q2 k2
  generalize pickN a3 300 = z3 at q3 k3
  generalize pickN a4 4 = z4 at q4 k4
  have hb0 : Below w.heap.size w ((w.alloc (.cells #[.int .i64 a0, .int .i64 a1, .int .i64 a2, .int .i64 a3, .int .i64 a4] 25)).alloc (.cells #[.string ⟨#[]⟩, .string ⟨#[]⟩, .int .i64 0, .int .i64 0, .string ⟨#[]⟩, .slice none 0 0] 24)) := ((Below.refl _ _).alloc (Nat.le_refl _) _).alloc (by simp) _
  have harr : Arr5 ((w.alloc (.cells #[.int .i64 a0, .int .i64 a1, .int .i64 a2, .int .i64 a3, .int .i64 a4] 25)).alloc (.cells #[.string ⟨#[]⟩, .string ⟨#[]⟩, .int .i64 0, .int .i64 0, .string ⟨#[]⟩, .slice none 0 0] 24)) w.heap.size a0 a1 a2 a3 a4 := Arr5.alloc (show Arr5 (w.alloc (.cells #[.int .i64 a0, .int .i64 a1, .int .i64 a2, .int .i64 a3, .int .i64 a4] 25)) w.heap.size a0 a1 a2 a3 a4 from World.alloc_heap_new w _) _
  have hres : RcBlk ((w.alloc (.cells #[.int .i64 a0, .int .i64 a1, .int .i64 a2, .int .i64 a3, .int .i64 a4] 25)).alloc (.cells #[.string ⟨#[]⟩, .string ⟨#[]⟩, .int .i64 0, .int .i64 0, .string ⟨#[]⟩, .slice none 0 0] 24)) (w.heap.size + 1) zeroR (.slice none 0 0) := by
    have hx := World.alloc_heap_new (w.alloc (.cells #[.int .i64 a0, .int .i64 a1, .int .i64 a2, .int .i64 a3, .int .i64 a4] 25)) (.cells #[.string ⟨#[]⟩, .string ⟨#[]⟩, .int .i64 0, .int .i64 0, .string ⟨#[]⟩, .slice none 0 0] 24)
    rw [show (w.alloc (.cells #[.int .i64 a0, .int .i64 a1, .int .i64 a2, .int .i64 a3, .int .i64 a4] 25)).heap.size = w.heap.size + 1 from by simp] at hx
    exact hx
  obtain ⟨W2, hW2⟩ : ∃ W, ((w.alloc (.cells #[.int .i64 a0, .int .i64 a1, .int .i64 a2, .int .i64 a3, .int .i64 a4] 25)).alloc (.cells #[.string ⟨#[]⟩, .string ⟨#[]⟩, .int .i64 0, .int .i64 0, .string ⟨#[]⟩, .slice none 0 0] 24)) = W := ⟨_, rfl⟩
  have hsz : W2.heap.size = w.heap.size + 2 := by rw [← hW2]; simp
  have HS := Lib.hid hsz; clear hsz
  rw [hW2] at hb0 harr hres
  go_enter Try.func9, Try.ntmps9
  go_upto_region 1 with fail
  clear hW2
  go_cut [9] (fun s9 wx => MidR a0 a1 a2 a3 a4 w wx s9 PartK)
  case first =>
    have hS : ∀ W, W = W2.drew → (W.cell? ⟨w.heap.size, 0, none⟩ = some (.int .i64 a0) ∧ W.cell? ⟨w.heap.size, 1, none⟩ = some (.int .i64 a1) ∧ W.cell? ⟨w.heap.size, 2, none⟩ = some (.int .i64 a2) ∧ W.cell? ⟨w.heap.size, 3, none⟩ = some (.int .i64 a3) ∧ W.cell? ⟨w.heap.size, 4, none⟩ = some (.int .i64 a4) ∧ Below W2.heap.size W2 W) := by
      rintro W rfl
      obtain ⟨c0, c1, c2, c3, c4⟩ := harr.cells
      exact ⟨c0, c1, c2, c3, c4, (Below.refl _ _).drew⟩
    have hS2 : W2.cell? ⟨w.heap.size, 0, none⟩ = some (.int .i64 a0) ∧ W2.cell? ⟨w.heap.size, 1, none⟩ = some (.int .i64 a1) ∧ W2.cell? ⟨w.heap.size, 2, none⟩ = some (.int .i64 a2) ∧ W2.cell? ⟨w.heap.size, 3, none⟩ = some (.int .i64 a3) ∧ W2.cell? ⟨w.heap.size, 4, none⟩ = some (.int .i64 a4) ∧ Below W2.heap.size W2 W2 := by
      obtain ⟨c0, c1, c2, c3, c4⟩ := harr.cells
      exact ⟨c0, c1, c2, c3, c4, Below.refl _ _⟩
    have HSS := Lib.hid hS
    have HS2 := Lib.hid hS2
    clear hS2
    have HARR := Lib.hid harr
    have HRES := Lib.hid hres
    have HB0 := Lib.hid hb0
    clear hS harr hres hb0
    obtain ⟨K, hK1, hK2⟩ : ∃ K : ByteArray, [Value.string ⟨#[97]⟩, .string ⟨#[98, 111, 98]⟩, .string ⟨#[107, 101, 121, 57]⟩, .string ⟨#[48, 49, 50, 51, 52, 53, 54, 55, 56, 57, 97, 98, 99, 100, 101, 102]⟩][z0]? = some (.string K) ∧ (1 ≤ K.size ∧ K.size ≤ 16) := by
      rcases (by omega : z0 = 0 ∨ z0 = 1 ∨ z0 = 2 ∨ z0 = 3) with rfl | rfl | rfl | rfl
      · exact ⟨_, rfl, by decide⟩
      · exact ⟨_, rfl, by decide⟩
      · exact ⟨_, rfl, by decide⟩
      · exact ⟨_, rfl, by decide⟩
    have HK2 := Lib.hid hK2; clear hK2
    have hK3 : (#[Value.string ⟨#[97]⟩, .string ⟨#[98, 111, 98]⟩, .string ⟨#[107, 101, 121, 57]⟩, .string ⟨#[48, 49, 50, 51, 52, 53, 54, 55, 56, 57, 97, 98, 99, 100, 101, 102]⟩] : Array Value)[z0]? = some (.string K) := by simpa using hK1
    have hz2 : 0 ≤ (z2 : Int) := by omega
    have hpk : PartK ⟨K, ByteArray.empty, z2, 0, ByteArray.empty, []⟩ := ⟨HK2.out, rfl, by show 0 ≤ (z2 : Int) ∧ (z2 : Int) ≤ _; omega, rfl, rfl, rfl⟩
    have hl1 : MidR a0 a1 a2 a3 a4 w ((W2.alloc (.cells #[.string ⟨#[97]⟩, .string ⟨#[98, 111, 98]⟩, .string ⟨#[107, 101, 121, 57]⟩, .string ⟨#[48, 49, 50, 51, 52, 53, 54, 55, 56, 57, 97, 98, 99, 100, 101, 102]⟩] 9)).alloc (.cells #[.string K, .string ⟨#[]⟩, .int .i64 (z2 : Int), .int .i64 0, .string ⟨#[]⟩, .slice none 0 0] 24)).drew (.pointer (some ⟨W2.heap.size + 1, 0, none⟩)) PartK := by
      refine ⟨_, ⟨K, ByteArray.empty, z2, 0, ByteArray.empty, []⟩, rfl, ?_, hpk, ((HARR.out.alloc _).alloc _), ((HRES.out.alloc _).alloc _), ((HB0.out.alloc (by rw [HS.out]; omega) _).alloc (by simp; rw [HS.out]; omega) _).drew, by rw [HS.out]; omega⟩
      have hx := World.alloc_heap_new (W2.alloc (.cells #[.string ⟨#[97]⟩, .string ⟨#[98, 111, 98]⟩, .string ⟨#[107, 101, 121, 57]⟩, .string ⟨#[48, 49, 50, 51, 52, 53, 54, 55, 56, 57, 97, 98, 99, 100, 101, 102]⟩] 9)) (.cells #[.string K, .string ⟨#[]⟩, .int .i64 (z2 : Int), .int .i64 0, .string ⟨#[]⟩, .slice none 0 0] 24)
      rw [show (W2.alloc (.cells #[.string ⟨#[97]⟩, .string ⟨#[98, 111, 98]⟩, .string ⟨#[107, 101, 121, 57]⟩, .string ⟨#[48, 49, 50, 51, 52, 53, 54, 55, 56, 57, 97, 98, 99, 100, 101, 102]⟩] 9)).heap.size = W2.heap.size + 1 from by simp] at hx
      exact hx
    have hl2 : MidR a0 a1 a2 a3 a4 w ((W2.alloc (.cells #[.string K, .string ⟨#[]⟩, .int .i64 (z2 : Int), .int .i64 0, .string ⟨#[]⟩, .slice none 0 0] 24)).alloc (.cells #[.string ⟨#[97]⟩, .string ⟨#[98, 111, 98]⟩, .string ⟨#[107, 101, 121, 57]⟩, .string ⟨#[48, 49, 50, 51, 52, 53, 54, 55, 56, 57, 97, 98, 99, 100, 101, 102]⟩] 9)).drew (.pointer (some ⟨W2.heap.size, 0, none⟩)) PartK := by
      refine ⟨_, ⟨K, ByteArray.empty, z2, 0, ByteArray.empty, []⟩, rfl, ?_, hpk, ((HARR.out.alloc _).alloc _), ((HRES.out.alloc _).alloc _), ((HB0.out.alloc (by rw [HS.out]; omega) _).alloc (by simp; rw [HS.out]; omega) _).drew, by rw [HS.out]; omega⟩
      exact RcBlk.alloc (show RcBlk (W2.alloc (.cells #[.string K, .string ⟨#[]⟩, .int .i64 (z2 : Int), .int .i64 0, .string ⟨#[]⟩, .slice none 0 0] 24)) W2.heap.size ⟨K, ByteArray.empty, z2, 0, ByteArray.empty, []⟩ (.slice none 0 0) from World.alloc_heap_new W2 _) _
    have HL1 := Lib.hid hl1
    have HL2 := Lib.hid hl2
    clear hl1 hl2 hpk HARR HRES HB0
    refine wp_region_held_drew (S := (fun W => W.cell? ⟨w.heap.size, 0, none⟩ = some (.int .i64 a0) ∧ W.cell? ⟨w.heap.size, 1, none⟩ = some (.int .i64 a1) ∧ W.cell? ⟨w.heap.size, 2, none⟩ = some (.int .i64 a2) ∧ W.cell? ⟨w.heap.size, 3, none⟩ = some (.int .i64 a3) ∧ W.cell? ⟨w.heap.size, 4, none⟩ = some (.int .i64 a4) ∧ Below W2.heap.size W2 W)) (by kernel_rfl) (HSS.out _ rfl) (fun hHeld => ?_)
    refine wpAnyH_take (i := 1) (v := ?_) rfl (by kernel_rfl) (by kernel_rfl) (by kernel_rfl) (fun _ _ _ h => h) (Or.inl ⟨by rfl, ?_⟩) (by assumption) ?_
    rotate_left
    · intro w hSw; (try dsimp only at hSw); go_simp; (try with_reducible rfl)
    try simp only [Act.put, List.setIfInBounds_toArray, List.set_cons_zero, List.set_cons_succ]
    refine wpAnyH_take (i := 2) (v := ?_) rfl (by kernel_rfl) (by kernel_rfl) (by kernel_rfl) (fun _ _ _ h => h) (Or.inl ⟨by rfl, ?_⟩) (by assumption) ?_
    rotate_left
    · intro w hSw; (try dsimp only at hSw); go_simp; (try with_reducible rfl)
    try simp only [Act.put, List.setIfInBounds_toArray, List.set_cons_zero, List.set_cons_succ]
    refine wpAnyH_take (i := 6) (v := ?_) rfl (by kernel_rfl) (by kernel_rfl) (by kernel_rfl) (fun _ _ _ h => h) (Or.inl ⟨by rfl, ?_⟩) (by assumption) ?_
    rotate_left
    · intro w hSw; (try dsimp only at hSw); go_simp; (try with_reducible rfl)
    try simp only [Act.put, List.setIfInBounds_toArray, List.set_cons_zero, List.set_cons_succ]
    refine wpAnyH_take (i := 7) (v := ?_) rfl (by kernel_rfl) (by kernel_rfl) (by kernel_rfl) (fun _ _ _ h => h) (Or.inl ⟨by rfl, ?_⟩) (by assumption) ?_
    rotate_left
    · intro w hSw; (try dsimp only at hSw); go_simp; (try with_reducible rfl)
    try simp only [Act.put, List.setIfInBounds_toArray, List.set_cons_zero, List.set_cons_succ]
    refine wpAnyH_ready (rs := [0, 3, 10]) (by kernel_rfl) (by simp) ?_
    refine AllReadyH.cons rfl (fun K hK => ?_) ?_
    · go_simp
      refine hK.out _ _ ?_ (fun hHeld => ?_)
      · (first | assumption | exact arr_keep HS2.out (((Below.refl _ W2).alloc (Nat.le_refl _) _).drew) | exact arr_keep HS2.out ((((Below.refl _ W2).alloc (Nat.le_refl _) _).alloc (by simp) _).drew))
      clear hK K
      try simp only [Act.put, List.setIfInBounds_toArray, List.set_cons_zero, List.set_cons_succ]
      refine wpAnyH_ready (rs := [3, 10]) (by kernel_rfl) (by simp) ?_
      refine AllReadyH.cons rfl (fun K hK => ?_) ?_
      · go_simp
        ((with_reducible refine (q0 _).mono ?_); rintro e w9 ⟨rfl, rfl⟩)
        (try go_wp2_with fail)
        refine hK.out _ _ ?_ (fun hHeld => ?_)
        · (first | assumption | exact arr_keep HS2.out (((Below.refl _ W2).alloc (Nat.le_refl _) _).drew) | exact arr_keep HS2.out ((((Below.refl _ W2).alloc (Nat.le_refl _) _).alloc (by simp) _).drew))
        clear hK K
        try simp only [Act.put, List.setIfInBounds_toArray, List.set_cons_zero, List.set_cons_succ]
        refine wpAnyH_take (i := 4) (v := ?_) rfl (by kernel_rfl) (by kernel_rfl) (by kernel_rfl) (fun _ _ _ h => h) (Or.inl ⟨by rfl, ?_⟩) (by assumption) ?_
        rotate_left
        · intro w hSw; (try dsimp only at hSw); go_simp; (try with_reducible rfl)
        try simp only [Act.put, List.setIfInBounds_toArray, List.set_cons_zero, List.set_cons_succ]
        refine wpAnyH_ready (rs := [5, 8, 10]) (by kernel_rfl) (by simp) ?_
        refine AllReadyH.cons rfl (fun K hK => ?_) ?_
        · go_simp
          refine hK.out _ _ ?_ (fun hHeld => ?_)
          · (first | assumption | exact arr_keep HS2.out (((Below.refl _ W2).alloc (Nat.le_refl _) _).drew) | exact arr_keep HS2.out ((((Below.refl _ W2).alloc (Nat.le_refl _) _).alloc (by simp) _).drew))
          clear hK K
          try simp only [Act.put, List.setIfInBounds_toArray, List.set_cons_zero, List.set_cons_succ]
          refine wpAnyH_ready (rs := [8, 10]) (by kernel_rfl) (by simp) ?_
          refine AllReadyH.cons rfl (fun K hK => ?_) ?_
          · go_simp
            ((with_reducible refine (q2 _).mono ?_); rintro e w9 ⟨rfl, rfl⟩)
            (try go_wp2_with fail)
            refine hK.out _ _ ?_ (fun hHeld => ?_)
            · (first | assumption | exact arr_keep HS2.out (((Below.refl _ W2).alloc (Nat.le_refl _) _).drew) | exact arr_keep HS2.out ((((Below.refl _ W2).alloc (Nat.le_refl _) _).alloc (by simp) _).drew))
            clear hK K
            try simp only [Act.put, List.setIfInBounds_toArray, List.set_cons_zero, List.set_cons_succ]
            refine wpAnyH_take (i := 9) (v := ?_) rfl (by kernel_rfl) (by kernel_rfl) (by kernel_rfl) (fun _ _ _ h => h) (Or.inl ⟨by rfl, ?_⟩) (by assumption) ?_
            rotate_left
            · intro w hSw; (try dsimp only at hSw); go_simp; (try with_reducible rfl)
            try simp only [Act.put, List.setIfInBounds_toArray, List.set_cons_zero, List.set_cons_succ]
            refine wpAnyH_ready (rs := [10]) (by kernel_rfl) (by simp) ?_
            refine AllReadyH.cons rfl (fun K hK => ?_) ?_
            · go_simp
              refine hK.out _ _ ?_ (fun hHeld => ?_)
              · (first | assumption | exact arr_keep HS2.out (((Below.refl _ W2).alloc (Nat.le_refl _) _).drew) | exact arr_keep HS2.out ((((Below.refl _ W2).alloc (Nat.le_refl _) _).alloc (by simp) _).drew))
              clear hK K
              try simp only [Act.put, List.setIfInBounds_toArray, List.set_cons_zero, List.set_cons_succ]
              refine wpAnyH_ready (rs := [11]) (by kernel_rfl) (by simp) ?_
              refine AllReadyH.cons rfl (fun K hK => ?_) ?_
              · go_simp
                refine hK.out _ _ ?_ (fun hHeld => ?_)
                · (first | assumption | exact arr_keep HS2.out (((Below.refl _ W2).alloc (Nat.le_refl _) _).drew) | exact arr_keep HS2.out ((((Below.refl _ W2).alloc (Nat.le_refl _) _).alloc (by simp) _).drew))
                clear hK K
                try simp only [Act.put, List.setIfInBounds_toArray, List.set_cons_zero, List.set_cons_succ]
                refine wpAnyH_done (by kernel_rfl) ?_ _
                go_wp2_with fail
                go_meet
                first | exact HL1.out | exact HL2.out
              exact AllReadyH.nil
            exact AllReadyH.nil
          refine AllReadyH.cons rfl (fun K hK => ?_) ?_
          · go_simp
            refine hK.out _ _ ?_ (fun hHeld => ?_)
            · (first | assumption | exact arr_keep HS2.out (((Below.refl _ W2).alloc (Nat.le_refl _) _).drew) | exact arr_keep HS2.out ((((Below.refl _ W2).alloc (Nat.le_refl _) _).alloc (by simp) _).drew))
            clear hK K
            try simp only [Act.put, List.setIfInBounds_toArray, List.set_cons_zero, List.set_cons_succ]
            refine wpAnyH_ready (rs := [8]) (by kernel_rfl) (by simp) ?_
            refine AllReadyH.cons rfl (fun K hK => ?_) ?_
            · go_simp
              ((with_reducible refine (q2 _).mono ?_); rintro e w9 ⟨rfl, rfl⟩)
              (try go_wp2_with fail)
              refine hK.out _ _ ?_ (fun hHeld => ?_)
              · (first | assumption | exact arr_keep HS2.out (((Below.refl _ W2).alloc (Nat.le_refl _) _).drew) | exact arr_keep HS2.out ((((Below.refl _ W2).alloc (Nat.le_refl _) _).alloc (by simp) _).drew))
              clear hK K
              try simp only [Act.put, List.setIfInBounds_toArray, List.set_cons_zero, List.set_cons_succ]
              refine wpAnyH_take (i := 9) (v := ?_) rfl (by kernel_rfl) (by kernel_rfl) (by kernel_rfl) (fun _ _ _ h => h) (Or.inl ⟨by rfl, ?_⟩) (by assumption) ?_
              rotate_left
              · intro w hSw; (try dsimp only at hSw); go_simp; (try with_reducible rfl)
              try simp only [Act.put, List.setIfInBounds_toArray, List.set_cons_zero, List.set_cons_succ]
              refine wpAnyH_ready (rs := [11]) (by kernel_rfl) (by simp) ?_
              refine AllReadyH.cons rfl (fun K hK => ?_) ?_
              · go_simp
                refine hK.out _ _ ?_ (fun hHeld => ?_)
                · (first | assumption | exact arr_keep HS2.out (((Below.refl _ W2).alloc (Nat.le_refl _) _).drew) | exact arr_keep HS2.out ((((Below.refl _ W2).alloc (Nat.le_refl _) _).alloc (by simp) _).drew))
                clear hK K
                try simp only [Act.put, List.setIfInBounds_toArray, List.set_cons_zero, List.set_cons_succ]
                refine wpAnyH_done (by kernel_rfl) ?_ _
                go_wp2_with fail
                go_meet
                first | exact HL1.out | exact HL2.out
              exact AllReadyH.nil
            exact AllReadyH.nil
          exact AllReadyH.nil
        refine AllReadyH.cons rfl (fun K hK => ?_) ?_
        · go_simp
          ((with_reducible refine (q2 _).mono ?_); rintro e w9 ⟨rfl, rfl⟩)
          (try go_wp2_with fail)
          refine hK.out _ _ ?_ (fun hHeld => ?_)
          · (first | assumption | exact arr_keep HS2.out (((Below.refl _ W2).alloc (Nat.le_refl _) _).drew) | exact arr_keep HS2.out ((((Below.refl _ W2).alloc (Nat.le_refl _) _).alloc (by simp) _).drew))
          clear hK K
          try simp only [Act.put, List.setIfInBounds_toArray, List.set_cons_zero, List.set_cons_succ]
          refine wpAnyH_ready (rs := [5, 10]) (by kernel_rfl) (by simp) ?_
          refine AllReadyH.cons rfl (fun K hK => ?_) ?_
          · go_simp
            refine hK.out _ _ ?_ (fun hHeld => ?_)
            · (first | assumption | exact arr_keep HS2.out (((Below.refl _ W2).alloc (Nat.le_refl _) _).drew) | exact arr_keep HS2.out ((((Below.refl _ W2).alloc (Nat.le_refl _) _).alloc (by simp) _).drew))
            clear hK K
            try simp only [Act.put, List.setIfInBounds_toArray, List.set_cons_zero, List.set_cons_succ]
            refine wpAnyH_take (i := 9) (v := ?_) rfl (by kernel_rfl) (by kernel_rfl) (by kernel_rfl) (fun _ _ _ h => h) (Or.inl ⟨by rfl, ?_⟩) (by assumption) ?_
            rotate_left
            · intro w hSw; (try dsimp only at hSw); go_simp; (try with_reducible rfl)
            try simp only [Act.put, List.setIfInBounds_toArray, List.set_cons_zero, List.set_cons_succ]
            refine wpAnyH_ready (rs := [10]) (by kernel_rfl) (by simp) ?_
            refine AllReadyH.cons rfl (fun K hK => ?_) ?_
            · go_simp
              refine hK.out _ _ ?_ (fun hHeld => ?_)
              · (first | assumption | exact arr_keep HS2.out (((Below.refl _ W2).alloc (Nat.le_refl _) _).drew) | exact arr_keep HS2.out ((((Below.refl _ W2).alloc (Nat.le_refl _) _).alloc (by simp) _).drew))
              clear hK K
              try simp only [Act.put, List.setIfInBounds_toArray, List.set_cons_zero, List.set_cons_succ]
              refine wpAnyH_ready (rs := [11]) (by kernel_rfl) (by simp) ?_
              refine AllReadyH.cons rfl (fun K hK => ?_) ?_
              · go_simp
                refine hK.out _ _ ?_ (fun hHeld => ?_)
                · (first | assumption | exact arr_keep HS2.out (((Below.refl _ W2).alloc (Nat.le_refl _) _).drew) | exact arr_keep HS2.out ((((Below.refl _ W2).alloc (Nat.le_refl _) _).alloc (by simp) _).drew))
                clear hK K
                try simp only [Act.put, List.setIfInBounds_toArray, List.set_cons_zero, List.set_cons_succ]
                refine wpAnyH_done (by kernel_rfl) ?_ _
                go_wp2_with fail
                go_meet
                first | exact HL1.out | exact HL2.out
              exact AllReadyH.nil
            exact AllReadyH.nil
          refine AllReadyH.cons rfl (fun K hK => ?_) ?_
          · go_simp
            refine hK.out _ _ ?_ (fun hHeld => ?_)
            · (first | assumption | exact arr_keep HS2.out (((Below.refl _ W2).alloc (Nat.le_refl _) _).drew) | exact arr_keep HS2.out ((((Below.refl _ W2).alloc (Nat.le_refl _) _).alloc (by simp) _).drew))
            clear hK K
            try simp only [Act.put, List.setIfInBounds_toArray, List.set_cons_zero, List.set_cons_succ]
            refine wpAnyH_ready (rs := [5]) (by kernel_rfl) (by simp) ?_
            refine AllReadyH.cons rfl (fun K hK => ?_) ?_
            · go_simp
              refine hK.out _ _ ?_ (fun hHeld => ?_)
              · (first | assumption | exact arr_keep HS2.out (((Below.refl _ W2).alloc (Nat.le_refl _) _).drew) | exact arr_keep HS2.out ((((Below.refl _ W2).alloc (Nat.le_refl _) _).alloc (by simp) _).drew))
              clear hK K
              try simp only [Act.put, List.setIfInBounds_toArray, List.set_cons_zero, List.set_cons_succ]
              refine wpAnyH_take (i := 9) (v := ?_) rfl (by kernel_rfl) (by kernel_rfl) (by kernel_rfl) (fun _ _ _ h => h) (Or.inl ⟨by rfl, ?_⟩) (by assumption) ?_
              rotate_left
              · intro w hSw; (try dsimp only at hSw); go_simp; (try with_reducible rfl)
              try simp only [Act.put, List.setIfInBounds_toArray, List.set_cons_zero, List.set_cons_succ]
              refine wpAnyH_ready (rs := [11]) (by kernel_rfl) (by simp) ?_
              refine AllReadyH.cons rfl (fun K hK => ?_) ?_
              · go_simp
                refine hK.out _ _ ?_ (fun hHeld => ?_)
                · (first | assumption | exact arr_keep HS2.out (((Below.refl _ W2).alloc (Nat.le_refl _) _).drew) | exact arr_keep HS2.out ((((Below.refl _ W2).alloc (Nat.le_refl _) _).alloc (by simp) _).drew))
                clear hK K
                try simp only [Act.put, List.setIfInBounds_toArray, List.set_cons_zero, List.set_cons_succ]
                refine wpAnyH_done (by kernel_rfl) ?_ _
                go_wp2_with fail
                go_meet
                first | exact HL1.out | exact HL2.out
              exact AllReadyH.nil
            exact AllReadyH.nil
          exact AllReadyH.nil
        refine AllReadyH.cons rfl (fun K hK => ?_) ?_
        · go_simp
          refine hK.out _ _ ?_ (fun hHeld => ?_)
          · (first | assumption | exact arr_keep HS2.out (((Below.refl _ W2).alloc (Nat.le_refl _) _).drew) | exact arr_keep HS2.out ((((Below.refl _ W2).alloc (Nat.le_refl _) _).alloc (by simp) _).drew))
          clear hK K
          try simp only [Act.put, List.setIfInBounds_toArray, List.set_cons_zero, List.set_cons_succ]
          refine wpAnyH_ready (rs := [5, 8]) (by kernel_rfl) (by simp) ?_
          refine AllReadyH.cons rfl (fun K hK => ?_) ?_
          · go_simp
            refine hK.out _ _ ?_ (fun hHeld => ?_)
            · (first | assumption | exact arr_keep HS2.out (((Below.refl _ W2).alloc (Nat.le_refl _) _).drew) | exact arr_keep HS2.out ((((Below.refl _ W2).alloc (Nat.le_refl _) _).alloc (by simp) _).drew))
            clear hK K
            try simp only [Act.put, List.setIfInBounds_toArray, List.set_cons_zero, List.set_cons_succ]
            refine wpAnyH_ready (rs := [8]) (by kernel_rfl) (by simp) ?_
            refine AllReadyH.cons rfl (fun K hK => ?_) ?_
            · go_simp
              ((with_reducible refine (q2 _).mono ?_); rintro e w9 ⟨rfl, rfl⟩)
              (try go_wp2_with fail)
              refine hK.out _ _ ?_ (fun hHeld => ?_)
              · (first | assumption | exact arr_keep HS2.out (((Below.refl _ W2).alloc (Nat.le_refl _) _).drew) | exact arr_keep HS2.out ((((Below.refl _ W2).alloc (Nat.le_refl _) _).alloc (by simp) _).drew))
              clear hK K
              try simp only [Act.put, List.setIfInBounds_toArray, List.set_cons_zero, List.set_cons_succ]
              refine wpAnyH_take (i := 9) (v := ?_) rfl (by kernel_rfl) (by kernel_rfl) (by kernel_rfl) (fun _ _ _ h => h) (Or.inl ⟨by rfl, ?_⟩) (by assumption) ?_
              rotate_left
              · intro w hSw; (try dsimp only at hSw); go_simp; (try with_reducible rfl)
              try simp only [Act.put, List.setIfInBounds_toArray, List.set_cons_zero, List.set_cons_succ]
              refine wpAnyH_ready (rs := [11]) (by kernel_rfl) (by simp) ?_
              refine AllReadyH.cons rfl (fun K hK => ?_) ?_
              · go_simp
                refine hK.out _ _ ?_ (fun hHeld => ?_)
                · (first | assumption | exact arr_keep HS2.out (((Below.refl _ W2).alloc (Nat.le_refl _) _).drew) | exact arr_keep HS2.out ((((Below.refl _ W2).alloc (Nat.le_refl _) _).alloc (by simp) _).drew))
                clear hK K
                try simp only [Act.put, List.setIfInBounds_toArray, List.set_cons_zero, List.set_cons_succ]
                refine wpAnyH_done (by kernel_rfl) ?_ _
                go_wp2_with fail
                go_meet
                first | exact HL1.out | exact HL2.out
              exact AllReadyH.nil
            exact AllReadyH.nil
          refine AllReadyH.cons rfl (fun K hK => ?_) ?_
          · go_simp
            ((with_reducible refine (q2 _).mono ?_); rintro e w9 ⟨rfl, rfl⟩)
            (try go_wp2_with fail)
            refine hK.out _ _ ?_ (fun hHeld => ?_)
            · (first | assumption | exact arr_keep HS2.out (((Below.refl _ W2).alloc (Nat.le_refl _) _).drew) | exact arr_keep HS2.out ((((Below.refl _ W2).alloc (Nat.le_refl _) _).alloc (by simp) _).drew))
            clear hK K
            try simp only [Act.put, List.setIfInBounds_toArray, List.set_cons_zero, List.set_cons_succ]
            refine wpAnyH_ready (rs := [5]) (by kernel_rfl) (by simp) ?_
            refine AllReadyH.cons rfl (fun K hK => ?_) ?_
            · go_simp
              refine hK.out _ _ ?_ (fun hHeld => ?_)
              · (first | assumption | exact arr_keep HS2.out (((Below.refl _ W2).alloc (Nat.le_refl _) _).drew) | exact arr_keep HS2.out ((((Below.refl _ W2).alloc (Nat.le_refl _) _).alloc (by simp) _).drew))
              clear hK K
              try simp only [Act.put, List.setIfInBounds_toArray, List.set_cons_zero, List.set_cons_succ]
              refine wpAnyH_take (i := 9) (v := ?_) rfl (by kernel_rfl) (by kernel_rfl) (by kernel_rfl) (fun _ _ _ h => h) (Or.inl ⟨by rfl, ?_⟩) (by assumption) ?_
              rotate_left
              · intro w hSw; (try dsimp only at hSw); go_simp; (try with_reducible rfl)
              try simp only [Act.put, List.setIfInBounds_toArray, List.set_cons_zero, List.set_cons_succ]
              refine wpAnyH_ready (rs := [11]) (by kernel_rfl) (by simp) ?_
              refine AllReadyH.cons rfl (fun K hK => ?_) ?_
              · go_simp
                refine hK.out _ _ ?_ (fun hHeld => ?_)
                · (first | assumption | exact arr_keep HS2.out (((Below.refl _ W2).alloc (Nat.le_refl _) _).drew) | exact arr_keep HS2.out ((((Below.refl _ W2).alloc (Nat.le_refl _) _).alloc (by simp) _).drew))
                clear hK K
                try simp only [Act.put, List.setIfInBounds_toArray, List.set_cons_zero, List.set_cons_succ]
                refine wpAnyH_done (by kernel_rfl) ?_ _
                go_wp2_with fail
                go_meet
                first | exact HL1.out | exact HL2.out
              exact AllReadyH.nil
            exact AllReadyH.nil
          exact AllReadyH.nil
        exact AllReadyH.nil
      refine AllReadyH.cons rfl (fun K hK => ?_) ?_
      · go_simp
        refine hK.out _ _ ?_ (fun hHeld => ?_)
        · (first | assumption | exact arr_keep HS2.out (((Below.refl _ W2).alloc (Nat.le_refl _) _).drew) | exact arr_keep HS2.out ((((Below.refl _ W2).alloc (Nat.le_refl _) _).alloc (by simp) _).drew))
        clear hK K
        try simp only [Act.put, List.setIfInBounds_toArray, List.set_cons_zero, List.set_cons_succ]
        refine wpAnyH_ready (rs := [3]) (by kernel_rfl) (by simp) ?_
        refine AllReadyH.cons rfl (fun K hK => ?_) ?_
        · go_simp
          ((with_reducible refine (q0 _).mono ?_); rintro e w9 ⟨rfl, rfl⟩)
          (try go_wp2_with fail)
          refine hK.out _ _ ?_ (fun hHeld => ?_)
          · (first | assumption | exact arr_keep HS2.out (((Below.refl _ W2).alloc (Nat.le_refl _) _).drew) | exact arr_keep HS2.out ((((Below.refl _ W2).alloc (Nat.le_refl _) _).alloc (by simp) _).drew))
          clear hK K
          try simp only [Act.put, List.setIfInBounds_toArray, List.set_cons_zero, List.set_cons_succ]
          refine wpAnyH_take (i := 4) (v := ?_) rfl (by kernel_rfl) (by kernel_rfl) (by kernel_rfl) (fun _ _ _ h => h) (Or.inl ⟨by rfl, ?_⟩) (by assumption) ?_
          rotate_left
          · intro w hSw; (try dsimp only at hSw); go_simp; (try with_reducible rfl)
          try simp only [Act.put, List.setIfInBounds_toArray, List.set_cons_zero, List.set_cons_succ]
          refine wpAnyH_ready (rs := [5, 8]) (by kernel_rfl) (by simp) ?_
          refine AllReadyH.cons rfl (fun K hK => ?_) ?_
          · go_simp
            refine hK.out _ _ ?_ (fun hHeld => ?_)
            · (first | assumption | exact arr_keep HS2.out (((Below.refl _ W2).alloc (Nat.le_refl _) _).drew) | exact arr_keep HS2.out ((((Below.refl _ W2).alloc (Nat.le_refl _) _).alloc (by simp) _).drew))
            clear hK K
            try simp only [Act.put, List.setIfInBounds_toArray, List.set_cons_zero, List.set_cons_succ]
            refine wpAnyH_ready (rs := [8]) (by kernel_rfl) (by simp) ?_
            refine AllReadyH.cons rfl (fun K hK => ?_) ?_
            · go_simp
              ((with_reducible refine (q2 _).mono ?_); rintro e w9 ⟨rfl, rfl⟩)
              (try go_wp2_with fail)
              refine hK.out _ _ ?_ (fun hHeld => ?_)
              · (first | assumption | exact arr_keep HS2.out (((Below.refl _ W2).alloc (Nat.le_refl _) _).drew) | exact arr_keep HS2.out ((((Below.refl _ W2).alloc (Nat.le_refl _) _).alloc (by simp) _).drew))
              clear hK K
              try simp only [Act.put, List.setIfInBounds_toArray, List.set_cons_zero, List.set_cons_succ]
              refine wpAnyH_take (i := 9) (v := ?_) rfl (by kernel_rfl) (by kernel_rfl) (by kernel_rfl) (fun _ _ _ h => h) (Or.inl ⟨by rfl, ?_⟩) (by assumption) ?_
              rotate_left
              · intro w hSw; (try dsimp only at hSw); go_simp; (try with_reducible rfl)
              try simp only [Act.put, List.setIfInBounds_toArray, List.set_cons_zero, List.set_cons_succ]
              refine wpAnyH_ready (rs := [11]) (by kernel_rfl) (by simp) ?_
              refine AllReadyH.cons rfl (fun K hK => ?_) ?_
              · go_simp
                refine hK.out _ _ ?_ (fun hHeld => ?_)
                · (first | assumption | exact arr_keep HS2.out (((Below.refl _ W2).alloc (Nat.le_refl _) _).drew) | exact arr_keep HS2.out ((((Below.refl _ W2).alloc (Nat.le_refl _) _).alloc (by simp) _).drew))
                clear hK K
                try simp only [Act.put, List.setIfInBounds_toArray, List.set_cons_zero, List.set_cons_succ]
                refine wpAnyH_done (by kernel_rfl) ?_ _
                go_wp2_with fail
                go_meet
                first | exact HL1.out | exact HL2.out
              exact AllReadyH.nil
            exact AllReadyH.nil
          refine AllReadyH.cons rfl (fun K hK => ?_) ?_
          · go_simp
            ((with_reducible refine (q2 _).mono ?_); rintro e w9 ⟨rfl, rfl⟩)
            (try go_wp2_with fail)
            refine hK.out _ _ ?_ (fun hHeld => ?_)
            · (first | assumption | exact arr_keep HS2.out (((Below.refl _ W2).alloc (Nat.le_refl _) _).drew) | exact arr_keep HS2.out ((((Below.refl _ W2).alloc (Nat.le_refl _) _).alloc (by simp) _).drew))
            clear hK K
            try simp only [Act.put, List.setIfInBounds_toArray, List.set_cons_zero, List.set_cons_succ]
            refine wpAnyH_ready (rs := [5]) (by kernel_rfl) (by simp) ?_
            refine AllReadyH.cons rfl (fun K hK => ?_) ?_
            · go_simp
              refine hK.out _ _ ?_ (fun hHeld => ?_)
              · (first | assumption | exact arr_keep HS2.out (((Below.refl _ W2).alloc (Nat.le_refl _) _).drew) | exact arr_keep HS2.out ((((Below.refl _ W2).alloc (Nat.le_refl _) _).alloc (by simp) _).drew))
              clear hK K
              try simp only [Act.put, List.setIfInBounds_toArray, List.set_cons_zero, List.set_cons_succ]
              refine wpAnyH_take (i := 9) (v := ?_) rfl (by kernel_rfl) (by kernel_rfl) (by kernel_rfl) (fun _ _ _ h => h) (Or.inl ⟨by rfl, ?_⟩) (by assumption) ?_
              rotate_left
              · intro w hSw; (try dsimp only at hSw); go_simp; (try with_reducible rfl)
              try simp only [Act.put, List.setIfInBounds_toArray, List.set_cons_zero, List.set_cons_succ]
              refine wpAnyH_ready (rs := [11]) (by kernel_rfl) (by simp) ?_
              refine AllReadyH.cons rfl (fun K hK => ?_) ?_
              · go_simp
                refine hK.out _ _ ?_ (fun hHeld => ?_)
                · (first | assumption | exact arr_keep HS2.out (((Below.refl _ W2).alloc (Nat.le_refl _) _).drew) | exact arr_keep HS2.out ((((Below.refl _ W2).alloc (Nat.le_refl _) _).alloc (by simp) _).drew))
                clear hK K
                try simp only [Act.put, List.setIfInBounds_toArray, List.set_cons_zero, List.set_cons_succ]
                refine wpAnyH_done (by kernel_rfl) ?_ _
                go_wp2_with fail
                go_meet
                first | exact HL1.out | exact HL2.out
              exact AllReadyH.nil
            exact AllReadyH.nil
          exact AllReadyH.nil
        exact AllReadyH.nil
      exact AllReadyH.nil
    refine AllReadyH.cons rfl (fun K hK => ?_) ?_
    · go_simp
      ((with_reducible refine (q0 _).mono ?_); rintro e w9 ⟨rfl, rfl⟩)
      (try go_wp2_with fail)
      refine hK.out _ _ ?_ (fun hHeld => ?_)
      · (first | assumption | exact arr_keep HS2.out (((Below.refl _ W2).alloc (Nat.le_refl _) _).drew) | exact arr_keep HS2.out ((((Below.refl _ W2).alloc (Nat.le_refl _) _).alloc (by simp) _).drew))
      clear hK K
      try simp only [Act.put, List.setIfInBounds_toArray, List.set_cons_zero, List.set_cons_succ]
      refine wpAnyH_ready (rs := [0, 8, 10]) (by kernel_rfl) (by simp) ?_
      refine AllReadyH.cons rfl (fun K hK => ?_) ?_
      · go_simp
        refine hK.out _ _ ?_ (fun hHeld => ?_)
        · (first | assumption | exact arr_keep HS2.out (((Below.refl _ W2).alloc (Nat.le_refl _) _).drew) | exact arr_keep HS2.out ((((Below.refl _ W2).alloc (Nat.le_refl _) _).alloc (by simp) _).drew))
        clear hK K
        try simp only [Act.put, List.setIfInBounds_toArray, List.set_cons_zero, List.set_cons_succ]
        refine wpAnyH_take (i := 4) (v := ?_) rfl (by kernel_rfl) (by kernel_rfl) (by kernel_rfl) (fun _ _ _ h => h) (Or.inl ⟨by rfl, ?_⟩) (by assumption) ?_
        rotate_left
        · intro w hSw; (try dsimp only at hSw); go_simp; (try with_reducible rfl)
        try simp only [Act.put, List.setIfInBounds_toArray, List.set_cons_zero, List.set_cons_succ]
        refine wpAnyH_ready (rs := [5, 8, 10]) (by kernel_rfl) (by simp) ?_
        refine AllReadyH.cons rfl (fun K hK => ?_) ?_
        · go_simp
          refine hK.out _ _ ?_ (fun hHeld => ?_)
          · (first | assumption | exact arr_keep HS2.out (((Below.refl _ W2).alloc (Nat.le_refl _) _).drew) | exact arr_keep HS2.out ((((Below.refl _ W2).alloc (Nat.le_refl _) _).alloc (by simp) _).drew))
          clear hK K
          try simp only [Act.put, List.setIfInBounds_toArray, List.set_cons_zero, List.set_cons_succ]
          refine wpAnyH_ready (rs := [8, 10]) (by kernel_rfl) (by simp) ?_
          refine AllReadyH.cons rfl (fun K hK => ?_) ?_
          · go_simp
            ((with_reducible refine (q2 _).mono ?_); rintro e w9 ⟨rfl, rfl⟩)
            (try go_wp2_with fail)
            refine hK.out _ _ ?_ (fun hHeld => ?_)
            · (first | assumption | exact arr_keep HS2.out (((Below.refl _ W2).alloc (Nat.le_refl _) _).drew) | exact arr_keep HS2.out ((((Below.refl _ W2).alloc (Nat.le_refl _) _).alloc (by simp) _).drew))
            clear hK K
            try simp only [Act.put, List.setIfInBounds_toArray, List.set_cons_zero, List.set_cons_succ]
            refine wpAnyH_take (i := 9) (v := ?_) rfl (by kernel_rfl) (by kernel_rfl) (by kernel_rfl) (fun _ _ _ h => h) (Or.inl ⟨by rfl, ?_⟩) (by assumption) ?_
            rotate_left
            · intro w hSw; (try dsimp only at hSw); go_simp; (try with_reducible rfl)
            try simp only [Act.put, List.setIfInBounds_toArray, List.set_cons_zero, List.set_cons_succ]
            refine wpAnyH_ready (rs := [10]) (by kernel_rfl) (by simp) ?_
            refine AllReadyH.cons rfl (fun K hK => ?_) ?_
            · go_simp
              refine hK.out _ _ ?_ (fun hHeld => ?_)
              · (first | assumption | exact arr_keep HS2.out (((Below.refl _ W2).alloc (Nat.le_refl _) _).drew) | exact arr_keep HS2.out ((((Below.refl _ W2).alloc (Nat.le_refl _) _).alloc (by simp) _).drew))
              clear hK K
              try simp only [Act.put, List.setIfInBounds_toArray, List.set_cons_zero, List.set_cons_succ]
              refine wpAnyH_ready (rs := [11]) (by kernel_rfl) (by simp) ?_
              refine AllReadyH.cons rfl (fun K hK => ?_) ?_
              · go_simp
                refine hK.out _ _ ?_ (fun hHeld => ?_)
                · (first | assumption | exact arr_keep HS2.out (((Below.refl _ W2).alloc (Nat.le_refl _) _).drew) | exact arr_keep HS2.out ((((Below.refl _ W2).alloc (Nat.le_refl _) _).alloc (by simp) _).drew))
                clear hK K
                try simp only [Act.put, List.setIfInBounds_toArray, List.set_cons_zero, List.set_cons_succ]
                refine wpAnyH_done (by kernel_rfl) ?_ _
                go_wp2_with fail
                go_meet
                first | exact HL1.out | exact HL2.out
              exact AllReadyH.nil
            exact AllReadyH.nil
          refine AllReadyH.cons rfl (fun K hK => ?_) ?_
          · go_simp
            refine hK.out _ _ ?_ (fun hHeld => ?_)
            · (first | assumption | exact arr_keep HS2.out (((Below.refl _ W2).alloc (Nat.le_refl _) _).drew) | exact arr_keep HS2.out ((((Below.refl _ W2).alloc (Nat.le_refl _) _).alloc (by simp) _).drew))
            clear hK K
            try simp only [Act.put, List.setIfInBounds_toArray, List.set_cons_zero, List.set_cons_succ]
            refine wpAnyH_ready (rs := [8]) (by kernel_rfl) (by simp) ?_
            refine AllReadyH.cons rfl (fun K hK => ?_) ?_
            · go_simp
              ((with_reducible refine (q2 _).mono ?_); rintro e w9 ⟨rfl, rfl⟩)
              (try go_wp2_with fail)
              refine hK.out _ _ ?_ (fun hHeld => ?_)
              · (first | assumption | exact arr_keep HS2.out (((Below.refl _ W2).alloc (Nat.le_refl _) _).drew) | exact arr_keep HS2.out ((((Below.refl _ W2).alloc (Nat.le_refl _) _).alloc (by simp) _).drew))
              clear hK K
              try simp only [Act.put, List.setIfInBounds_toArray, List.set_cons_zero, List.set_cons_succ]
              refine wpAnyH_take (i := 9) (v := ?_) rfl (by kernel_rfl) (by kernel_rfl) (by kernel_rfl) (fun _ _ _ h => h) (Or.inl ⟨by rfl, ?_⟩) (by assumption) ?_
              rotate_left
              · intro w hSw; (try dsimp only at hSw); go_simp; (try with_reducible rfl)
              try simp only [Act.put, List.setIfInBounds_toArray, List.set_cons_zero, List.set_cons_succ]
              refine wpAnyH_ready (rs := [11]) (by kernel_rfl) (by simp) ?_
              refine AllReadyH.cons rfl (fun K hK => ?_) ?_
              · go_simp
                refine hK.out _ _ ?_ (fun hHeld => ?_)
                · (first | assumption | exact arr_keep HS2.out (((Below.refl _ W2).alloc (Nat.le_refl _) _).drew) | exact arr_keep HS2.out ((((Below.refl _ W2).alloc (Nat.le_refl _) _).alloc (by simp) _).drew))
                clear hK K
                try simp only [Act.put, List.setIfInBounds_toArray, List.set_cons_zero, List.set_cons_succ]
                refine wpAnyH_done (by kernel_rfl) ?_ _
                go_wp2_with fail
                go_meet
                first | exact HL1.out | exact HL2.out
              exact AllReadyH.nil
            exact AllReadyH.nil
          exact AllReadyH.nil
        refine AllReadyH.cons rfl (fun K hK => ?_) ?_
        · go_simp
          ((with_reducible refine (q2 _).mono ?_); rintro e w9 ⟨rfl, rfl⟩)
          (try go_wp2_with fail)
          refine hK.out _ _ ?_ (fun hHeld => ?_)
          · (first | assumption | exact arr_keep HS2.out (((Below.refl _ W2).alloc (Nat.le_refl _) _).drew) | exact arr_keep HS2.out ((((Below.refl _ W2).alloc (Nat.le_refl _) _).alloc (by simp) _).drew))
          clear hK K
          try simp only [Act.put, List.setIfInBounds_toArray, List.set_cons_zero, List.set_cons_succ]
          refine wpAnyH_ready (rs := [5, 10]) (by kernel_rfl) (by simp) ?_
          refine AllReadyH.cons rfl (fun K hK => ?_) ?_
          · go_simp
            refine hK.out _ _ ?_ (fun hHeld => ?_)
            · (first | assumption | exact arr_keep HS2.out (((Below.refl _ W2).alloc (Nat.le_refl _) _).drew) | exact arr_keep HS2.out ((((Below.refl _ W2).alloc (Nat.le_refl _) _).alloc (by simp) _).drew))
            clear hK K
            try simp only [Act.put, List.setIfInBounds_toArray, List.set_cons_zero, List.set_cons_succ]
            refine wpAnyH_take (i := 9) (v := ?_) rfl (by kernel_rfl) (by kernel_rfl) (by kernel_rfl) (fun _ _ _ h => h) (Or.inl ⟨by rfl, ?_⟩) (by assumption) ?_
            rotate_left
            · intro w hSw; (try dsimp only at hSw); go_simp; (try with_reducible rfl)
            try simp only [Act.put, List.setIfInBounds_toArray, List.set_cons_zero, List.set_cons_succ]
            refine wpAnyH_ready (rs := [10]) (by kernel_rfl) (by simp) ?_
            refine AllReadyH.cons rfl (fun K hK => ?_) ?_
            · go_simp
              refine hK.out _ _ ?_ (fun hHeld => ?_)
              · (first | assumption | exact arr_keep HS2.out (((Below.refl _ W2).alloc (Nat.le_refl _) _).drew) | exact arr_keep HS2.out ((((Below.refl _ W2).alloc (Nat.le_refl _) _).alloc (by simp) _).drew))
              clear hK K
              try simp only [Act.put, List.setIfInBounds_toArray, List.set_cons_zero, List.set_cons_succ]
              refine wpAnyH_ready (rs := [11]) (by kernel_rfl) (by simp) ?_
              refine AllReadyH.cons rfl (fun K hK => ?_) ?_
              · go_simp
                refine hK.out _ _ ?_ (fun hHeld => ?_)
                · (first | assumption | exact arr_keep HS2.out (((Below.refl _ W2).alloc (Nat.le_refl _) _).drew) | exact arr_keep HS2.out ((((Below.refl _ W2).alloc (Nat.le_refl _) _).alloc (by simp) _).drew))
                clear hK K
                try simp only [Act.put, List.setIfInBounds_toArray, List.set_cons_zero, List.set_cons_succ]
                refine wpAnyH_done (by kernel_rfl) ?_ _
                go_wp2_with fail
                go_meet
                first | exact HL1.out | exact HL2.out
              exact AllReadyH.nil
            exact AllReadyH.nil
          refine AllReadyH.cons rfl (fun K hK => ?_) ?_
          · go_simp
            refine hK.out _ _ ?_ (fun hHeld => ?_)
            · (first | assumption | exact arr_keep HS2.out (((Below.refl _ W2).alloc (Nat.le_refl _) _).drew) | exact arr_keep HS2.out ((((Below.refl _ W2).alloc (Nat.le_refl _) _).alloc (by simp) _).drew))
            clear hK K
            try simp only [Act.put, List.setIfInBounds_toArray, List.set_cons_zero, List.set_cons_succ]
            refine wpAnyH_ready (rs := [5]) (by kernel_rfl) (by simp) ?_
            refine AllReadyH.cons rfl (fun K hK => ?_) ?_
            · go_simp
              refine hK.out _ _ ?_ (fun hHeld => ?_)
              · (first | assumption | exact arr_keep HS2.out (((Below.refl _ W2).alloc (Nat.le_refl _) _).drew) | exact arr_keep HS2.out ((((Below.refl _ W2).alloc (Nat.le_refl _) _).alloc (by simp) _).drew))
              clear hK K
              try simp only [Act.put, List.setIfInBounds_toArray, List.set_cons_zero, List.set_cons_succ]
              refine wpAnyH_take (i := 9) (v := ?_) rfl (by kernel_rfl) (by kernel_rfl) (by kernel_rfl) (fun _ _ _ h => h) (Or.inl ⟨by rfl, ?_⟩) (by assumption) ?_
              rotate_left
              · intro w hSw; (try dsimp only at hSw); go_simp; (try with_reducible rfl)
              try simp only [Act.put, List.setIfInBounds_toArray, List.set_cons_zero, List.set_cons_succ]
              refine wpAnyH_ready (rs := [11]) (by kernel_rfl) (by simp) ?_
              refine AllReadyH.cons rfl (fun K hK => ?_) ?_
              · go_simp
                refine hK.out _ _ ?_ (fun hHeld => ?_)
                · (first | assumption | exact arr_keep HS2.out (((Below.refl _ W2).alloc (Nat.le_refl _) _).drew) | exact arr_keep HS2.out ((((Below.refl _ W2).alloc (Nat.le_refl _) _).alloc (by simp) _).drew))
                clear hK K
                try simp only [Act.put, List.setIfInBounds_toArray, List.set_cons_zero, List.set_cons_succ]
                refine wpAnyH_done (by kernel_rfl) ?_ _
                go_wp2_with fail
                go_meet
                first | exact HL1.out | exact HL2.out
              exact AllReadyH.nil
            exact AllReadyH.nil
          exact AllReadyH.nil
        refine AllReadyH.cons rfl (fun K hK => ?_) ?_
        · go_simp
          refine hK.out _ _ ?_ (fun hHeld => ?_)
          · (first | assumption | exact arr_keep HS2.out (((Below.refl _ W2).alloc (Nat.le_refl _) _).drew) | exact arr_keep HS2.out ((((Below.refl _ W2).alloc (Nat.le_refl _) _).alloc (by simp) _).drew))
          clear hK K
          try simp only [Act.put, List.setIfInBounds_toArray, List.set_cons_zero, List.set_cons_succ]
          refine wpAnyH_ready (rs := [5, 8]) (by kernel_rfl) (by simp) ?_
          refine AllReadyH.cons rfl (fun K hK => ?_) ?_
          · go_simp
            refine hK.out _ _ ?_ (fun hHeld => ?_)
            · (first | assumption | exact arr_keep HS2.out (((Below.refl _ W2).alloc (Nat.le_refl _) _).drew) | exact arr_keep HS2.out ((((Below.refl _ W2).alloc (Nat.le_refl _) _).alloc (by simp) _).drew))
            clear hK K
            try simp only [Act.put, List.setIfInBounds_toArray, List.set_cons_zero, List.set_cons_succ]
            refine wpAnyH_ready (rs := [8]) (by kernel_rfl) (by simp) ?_
            refine AllReadyH.cons rfl (fun K hK => ?_) ?_
            · go_simp
              ((with_reducible refine (q2 _).mono ?_); rintro e w9 ⟨rfl, rfl⟩)
              (try go_wp2_with fail)
              refine hK.out _ _ ?_ (fun hHeld => ?_)
              · (first | assumption | exact arr_keep HS2.out (((Below.refl _ W2).alloc (Nat.le_refl _) _).drew) | exact arr_keep HS2.out ((((Below.refl _ W2).alloc (Nat.le_refl _) _).alloc (by simp) _).drew))
              clear hK K
              try simp only [Act.put, List.setIfInBounds_toArray, List.set_cons_zero, List.set_cons_succ]
              refine wpAnyH_take (i := 9) (v := ?_) rfl (by kernel_rfl) (by kernel_rfl) (by kernel_rfl) (fun _ _ _ h => h) (Or.inl ⟨by rfl, ?_⟩) (by assumption) ?_
              rotate_left
              · intro w hSw; (try dsimp only at hSw); go_simp; (try with_reducible rfl)
              try simp only [Act.put, List.setIfInBounds_toArray, List.set_cons_zero, List.set_cons_succ]
              refine wpAnyH_ready (rs := [11]) (by kernel_rfl) (by simp) ?_
              refine AllReadyH.cons rfl (fun K hK => ?_) ?_
              · go_simp
                refine hK.out _ _ ?_ (fun hHeld => ?_)
                · (first | assumption | exact arr_keep HS2.out (((Below.refl _ W2).alloc (Nat.le_refl _) _).drew) | exact arr_keep HS2.out ((((Below.refl _ W2).alloc (Nat.le_refl _) _).alloc (by simp) _).drew))
                clear hK K
                try simp only [Act.put, List.setIfInBounds_toArray, List.set_cons_zero, List.set_cons_succ]
                refine wpAnyH_done (by kernel_rfl) ?_ _
                go_wp2_with fail
                go_meet
                first | exact HL1.out | exact HL2.out
              exact AllReadyH.nil
            exact AllReadyH.nil
          refine AllReadyH.cons rfl (fun K hK => ?_) ?_
          · go_simp
            ((with_reducible refine (q2 _).mono ?_); rintro e w9 ⟨rfl, rfl⟩)
            (try go_wp2_with fail)
            refine hK.out _ _ ?_ (fun hHeld => ?_)
            · (first | assumption | exact arr_keep HS2.out (((Below.refl _ W2).alloc (Nat.le_refl _) _).drew) | exact arr_keep HS2.out ((((Below.refl _ W2).alloc (Nat.le_refl _) _).alloc (by simp) _).drew))
            clear hK K
            try simp only [Act.put, List.setIfInBounds_toArray, List.set_cons_zero, List.set_cons_succ]
            refine wpAnyH_ready (rs := [5]) (by kernel_rfl) (by simp) ?_
            refine AllReadyH.cons rfl (fun K hK => ?_) ?_
            · go_simp
              refine hK.out _ _ ?_ (fun hHeld => ?_)
              · (first | assumption | exact arr_keep HS2.out (((Below.refl _ W2).alloc (Nat.le_refl _) _).drew) | exact arr_keep HS2.out ((((Below.refl _ W2).alloc (Nat.le_refl _) _).alloc (by simp) _).drew))
              clear hK K
              try simp only [Act.put, List.setIfInBounds_toArray, List.set_cons_zero, List.set_cons_succ]
              refine wpAnyH_take (i := 9) (v := ?_) rfl (by kernel_rfl) (by kernel_rfl) (by kernel_rfl) (fun _ _ _ h => h) (Or.inl ⟨by rfl, ?_⟩) (by assumption) ?_
              rotate_left
              · intro w hSw; (try dsimp only at hSw); go_simp; (try with_reducible rfl)
              try simp only [Act.put, List.setIfInBounds_toArray, List.set_cons_zero, List.set_cons_succ]
              refine wpAnyH_ready (rs := [11]) (by kernel_rfl) (by simp) ?_
              refine AllReadyH.cons rfl (fun K hK => ?_) ?_
              · go_simp
                refine hK.out _ _ ?_ (fun hHeld => ?_)
                · (first | assumption | exact arr_keep HS2.out (((Below.refl _ W2).alloc (Nat.le_refl _) _).drew) | exact arr_keep HS2.out ((((Below.refl _ W2).alloc (Nat.le_refl _) _).alloc (by simp) _).drew))
                clear hK K
                try simp only [Act.put, List.setIfInBounds_toArray, List.set_cons_zero, List.set_cons_succ]
                refine wpAnyH_done (by kernel_rfl) ?_ _
                go_wp2_with fail
                go_meet
                first | exact HL1.out | exact HL2.out
              exact AllReadyH.nil
            exact AllReadyH.nil
          exact AllReadyH.nil
        exact AllReadyH.nil
      refine AllReadyH.cons rfl (fun K hK => ?_) ?_
      · go_simp
        ((with_reducible refine (q2 _).mono ?_); rintro e w9 ⟨rfl, rfl⟩)
        (try go_wp2_with fail)
        refine hK.out _ _ ?_ (fun hHeld => ?_)
        · (first | assumption | exact arr_keep HS2.out (((Below.refl _ W2).alloc (Nat.le_refl _) _).drew) | exact arr_keep HS2.out ((((Below.refl _ W2).alloc (Nat.le_refl _) _).alloc (by simp) _).drew))
        clear hK K
        try simp only [Act.put, List.setIfInBounds_toArray, List.set_cons_zero, List.set_cons_succ]
        refine wpAnyH_ready (rs := [0, 10]) (by kernel_rfl) (by simp) ?_
        refine AllReadyH.cons rfl (fun K hK => ?_) ?_
        · go_simp
          refine hK.out _ _ ?_ (fun hHeld => ?_)
          · (first | assumption | exact arr_keep HS2.out (((Below.refl _ W2).alloc (Nat.le_refl _) _).drew) | exact arr_keep HS2.out ((((Below.refl _ W2).alloc (Nat.le_refl _) _).alloc (by simp) _).drew))
          clear hK K
          try simp only [Act.put, List.setIfInBounds_toArray, List.set_cons_zero, List.set_cons_succ]
          refine wpAnyH_take (i := 4) (v := ?_) rfl (by kernel_rfl) (by kernel_rfl) (by kernel_rfl) (fun _ _ _ h => h) (Or.inl ⟨by rfl, ?_⟩) (by assumption) ?_
          rotate_left
          · intro w hSw; (try dsimp only at hSw); go_simp; (try with_reducible rfl)
          try simp only [Act.put, List.setIfInBounds_toArray, List.set_cons_zero, List.set_cons_succ]
          refine wpAnyH_ready (rs := [5, 10]) (by kernel_rfl) (by simp) ?_
          refine AllReadyH.cons rfl (fun K hK => ?_) ?_
          · go_simp
            refine hK.out _ _ ?_ (fun hHeld => ?_)
            · (first | assumption | exact arr_keep HS2.out (((Below.refl _ W2).alloc (Nat.le_refl _) _).drew) | exact arr_keep HS2.out ((((Below.refl _ W2).alloc (Nat.le_refl _) _).alloc (by simp) _).drew))
            clear hK K
            try simp only [Act.put, List.setIfInBounds_toArray, List.set_cons_zero, List.set_cons_succ]
            refine wpAnyH_take (i := 9) (v := ?_) rfl (by kernel_rfl) (by kernel_rfl) (by kernel_rfl) (fun _ _ _ h => h) (Or.inl ⟨by rfl, ?_⟩) (by assumption) ?_
            rotate_left
            · intro w hSw; (try dsimp only at hSw); go_simp; (try with_reducible rfl)
            try simp only [Act.put, List.setIfInBounds_toArray, List.set_cons_zero, List.set_cons_succ]
            refine wpAnyH_ready (rs := [10]) (by kernel_rfl) (by simp) ?_
            refine AllReadyH.cons rfl (fun K hK => ?_) ?_
            · go_simp
              refine hK.out _ _ ?_ (fun hHeld => ?_)
              · (first | assumption | exact arr_keep HS2.out (((Below.refl _ W2).alloc (Nat.le_refl _) _).drew) | exact arr_keep HS2.out ((((Below.refl _ W2).alloc (Nat.le_refl _) _).alloc (by simp) _).drew))
              clear hK K
              try simp only [Act.put, List.setIfInBounds_toArray, List.set_cons_zero, List.set_cons_succ]
              refine wpAnyH_ready (rs := [11]) (by kernel_rfl) (by simp) ?_
              refine AllReadyH.cons rfl (fun K hK => ?_) ?_
              · go_simp
                refine hK.out _ _ ?_ (fun hHeld => ?_)
                · (first | assumption | exact arr_keep HS2.out (((Below.refl _ W2).alloc (Nat.le_refl _) _).drew) | exact arr_keep HS2.out ((((Below.refl _ W2).alloc (Nat.le_refl _) _).alloc (by simp) _).drew))
                clear hK K
                try simp only [Act.put, List.setIfInBounds_toArray, List.set_cons_zero, List.set_cons_succ]
                refine wpAnyH_done (by kernel_rfl) ?_ _
                go_wp2_with fail
                go_meet
                first | exact HL1.out | exact HL2.out
              exact AllReadyH.nil
            exact AllReadyH.nil
          refine AllReadyH.cons rfl (fun K hK => ?_) ?_
          · go_simp
            refine hK.out _ _ ?_ (fun hHeld => ?_)
            · (first | assumption | exact arr_keep HS2.out (((Below.refl _ W2).alloc (Nat.le_refl _) _).drew) | exact arr_keep HS2.out ((((Below.refl _ W2).alloc (Nat.le_refl _) _).alloc (by simp) _).drew))
            clear hK K
            try simp only [Act.put, List.setIfInBounds_toArray, List.set_cons_zero, List.set_cons_succ]
            refine wpAnyH_ready (rs := [5]) (by kernel_rfl) (by simp) ?_
            refine AllReadyH.cons rfl (fun K hK => ?_) ?_
            · go_simp
              refine hK.out _ _ ?_ (fun hHeld => ?_)
              · (first | assumption | exact arr_keep HS2.out (((Below.refl _ W2).alloc (Nat.le_refl _) _).drew) | exact arr_keep HS2.out ((((Below.refl _ W2).alloc (Nat.le_refl _) _).alloc (by simp) _).drew))
              clear hK K
              try simp only [Act.put, List.setIfInBounds_toArray, List.set_cons_zero, List.set_cons_succ]
              refine wpAnyH_take (i := 9) (v := ?_) rfl (by kernel_rfl) (by kernel_rfl) (by kernel_rfl) (fun _ _ _ h => h) (Or.inl ⟨by rfl, ?_⟩) (by assumption) ?_
              rotate_left
              · intro w hSw; (try dsimp only at hSw); go_simp; (try with_reducible rfl)
              try simp only [Act.put, List.setIfInBounds_toArray, List.set_cons_zero, List.set_cons_succ]
              refine wpAnyH_ready (rs := [11]) (by kernel_rfl) (by simp) ?_
              refine AllReadyH.cons rfl (fun K hK => ?_) ?_
              · go_simp
                refine hK.out _ _ ?_ (fun hHeld => ?_)
                · (first | assumption | exact arr_keep HS2.out (((Below.refl _ W2).alloc (Nat.le_refl _) _).drew) | exact arr_keep HS2.out ((((Below.refl _ W2).alloc (Nat.le_refl _) _).alloc (by simp) _).drew))
                clear hK K
                try simp only [Act.put, List.setIfInBounds_toArray, List.set_cons_zero, List.set_cons_succ]
                refine wpAnyH_done (by kernel_rfl) ?_ _
                go_wp2_with fail
                go_meet
                first | exact HL1.out | exact HL2.out
              exact AllReadyH.nil
            exact AllReadyH.nil
          exact AllReadyH.nil
        refine AllReadyH.cons rfl (fun K hK => ?_) ?_
        · go_simp
          refine hK.out _ _ ?_ (fun hHeld => ?_)
          · (first | assumption | exact arr_keep HS2.out (((Below.refl _ W2).alloc (Nat.le_refl _) _).drew) | exact arr_keep HS2.out ((((Below.refl _ W2).alloc (Nat.le_refl _) _).alloc (by simp) _).drew))
          clear hK K
          try simp only [Act.put, List.setIfInBounds_toArray, List.set_cons_zero, List.set_cons_succ]
          refine wpAnyH_ready (rs := [0]) (by kernel_rfl) (by simp) ?_
          refine AllReadyH.cons rfl (fun K hK => ?_) ?_
          · go_simp
            refine hK.out _ _ ?_ (fun hHeld => ?_)
            · (first | assumption | exact arr_keep HS2.out (((Below.refl _ W2).alloc (Nat.le_refl _) _).drew) | exact arr_keep HS2.out ((((Below.refl _ W2).alloc (Nat.le_refl _) _).alloc (by simp) _).drew))
            clear hK K
            try simp only [Act.put, List.setIfInBounds_toArray, List.set_cons_zero, List.set_cons_succ]
            refine wpAnyH_take (i := 4) (v := ?_) rfl (by kernel_rfl) (by kernel_rfl) (by kernel_rfl) (fun _ _ _ h => h) (Or.inl ⟨by rfl, ?_⟩) (by assumption) ?_
            rotate_left
            · intro w hSw; (try dsimp only at hSw); go_simp; (try with_reducible rfl)
            try simp only [Act.put, List.setIfInBounds_toArray, List.set_cons_zero, List.set_cons_succ]
            refine wpAnyH_ready (rs := [5]) (by kernel_rfl) (by simp) ?_
            refine AllReadyH.cons rfl (fun K hK => ?_) ?_
            · go_simp
              refine hK.out _ _ ?_ (fun hHeld => ?_)
              · (first | assumption | exact arr_keep HS2.out (((Below.refl _ W2).alloc (Nat.le_refl _) _).drew) | exact arr_keep HS2.out ((((Below.refl _ W2).alloc (Nat.le_refl _) _).alloc (by simp) _).drew))
              clear hK K
              try simp only [Act.put, List.setIfInBounds_toArray, List.set_cons_zero, List.set_cons_succ]
              refine wpAnyH_take (i := 9) (v := ?_) rfl (by kernel_rfl) (by kernel_rfl) (by kernel_rfl) (fun _ _ _ h => h) (Or.inl ⟨by rfl, ?_⟩) (by assumption) ?_
              rotate_left
              · intro w hSw; (try dsimp only at hSw); go_simp; (try with_reducible rfl)
              try simp only [Act.put, List.setIfInBounds_toArray, List.set_cons_zero, List.set_cons_succ]
              refine wpAnyH_ready (rs := [11]) (by kernel_rfl) (by simp) ?_
              refine AllReadyH.cons rfl (fun K hK => ?_) ?_
              · go_simp
                refine hK.out _ _ ?_ (fun hHeld => ?_)
                · (first | assumption | exact arr_keep HS2.out (((Below.refl _ W2).alloc (Nat.le_refl _) _).drew) | exact arr_keep HS2.out ((((Below.refl _ W2).alloc (Nat.le_refl _) _).alloc (by simp) _).drew))
                clear hK K
                try simp only [Act.put, List.setIfInBounds_toArray, List.set_cons_zero, List.set_cons_succ]
                refine wpAnyH_done (by kernel_rfl) ?_ _
                go_wp2_with fail
                go_meet
                first | exact HL1.out | exact HL2.out
              exact AllReadyH.nil
            exact AllReadyH.nil
          exact AllReadyH.nil
        exact AllReadyH.nil
      refine AllReadyH.cons rfl (fun K hK => ?_) ?_
      · go_simp
        refine hK.out _ _ ?_ (fun hHeld => ?_)
        · (first | assumption | exact arr_keep HS2.out (((Below.refl _ W2).alloc (Nat.le_refl _) _).drew) | exact arr_keep HS2.out ((((Below.refl _ W2).alloc (Nat.le_refl _) _).alloc (by simp) _).drew))
        clear hK K
        try simp only [Act.put, List.setIfInBounds_toArray, List.set_cons_zero, List.set_cons_succ]
        refine wpAnyH_ready (rs := [0, 8]) (by kernel_rfl) (by simp) ?_
        refine AllReadyH.cons rfl (fun K hK => ?_) ?_
        · go_simp
          refine hK.out _ _ ?_ (fun hHeld => ?_)
          · (first | assumption | exact arr_keep HS2.out (((Below.refl _ W2).alloc (Nat.le_refl _) _).drew) | exact arr_keep HS2.out ((((Below.refl _ W2).alloc (Nat.le_refl _) _).alloc (by simp) _).drew))
          clear hK K
          try simp only [Act.put, List.setIfInBounds_toArray, List.set_cons_zero, List.set_cons_succ]
          refine wpAnyH_take (i := 4) (v := ?_) rfl (by kernel_rfl) (by kernel_rfl) (by kernel_rfl) (fun _ _ _ h => h) (Or.inl ⟨by rfl, ?_⟩) (by assumption) ?_
          rotate_left
          · intro w hSw; (try dsimp only at hSw); go_simp; (try with_reducible rfl)
          try simp only [Act.put, List.setIfInBounds_toArray, List.set_cons_zero, List.set_cons_succ]
          refine wpAnyH_ready (rs := [5, 8]) (by kernel_rfl) (by simp) ?_
          refine AllReadyH.cons rfl (fun K hK => ?_) ?_
          · go_simp
            refine hK.out _ _ ?_ (fun hHeld => ?_)
            · (first | assumption | exact arr_keep HS2.out (((Below.refl _ W2).alloc (Nat.le_refl _) _).drew) | exact arr_keep HS2.out ((((Below.refl _ W2).alloc (Nat.le_refl _) _).alloc (by simp) _).drew))
            clear hK K
            try simp only [Act.put, List.setIfInBounds_toArray, List.set_cons_zero, List.set_cons_succ]
            refine wpAnyH_ready (rs := [8]) (by kernel_rfl) (by simp) ?_
            refine AllReadyH.cons rfl (fun K hK => ?_) ?_
            · go_simp
              ((with_reducible refine (q2 _).mono ?_); rintro e w9 ⟨rfl, rfl⟩)
              (try go_wp2_with fail)
              refine hK.out _ _ ?_ (fun hHeld => ?_)
              · (first | assumption | exact arr_keep HS2.out (((Below.refl _ W2).alloc (Nat.le_refl _) _).drew) | exact arr_keep HS2.out ((((Below.refl _ W2).alloc (Nat.le_refl _) _).alloc (by simp) _).drew))
              clear hK K
              try simp only [Act.put, List.setIfInBounds_toArray, List.set_cons_zero, List.set_cons_succ]
              refine wpAnyH_take (i := 9) (v := ?_) rfl (by kernel_rfl) (by kernel_rfl) (by kernel_rfl) (fun _ _ _ h => h) (Or.inl ⟨by rfl, ?_⟩) (by assumption) ?_
              rotate_left
              · intro w hSw; (try dsimp only at hSw); go_simp; (try with_reducible rfl)
              try simp only [Act.put, List.setIfInBounds_toArray, List.set_cons_zero, List.set_cons_succ]
              refine wpAnyH_ready (rs := [11]) (by kernel_rfl) (by simp) ?_
              refine AllReadyH.cons rfl (fun K hK => ?_) ?_
              · go_simp
                refine hK.out _ _ ?_ (fun hHeld => ?_)
                · (first | assumption | exact arr_keep HS2.out (((Below.refl _ W2).alloc (Nat.le_refl _) _).drew) | exact arr_keep HS2.out ((((Below.refl _ W2).alloc (Nat.le_refl _) _).alloc (by simp) _).drew))
                clear hK K
                try simp only [Act.put, List.setIfInBounds_toArray, List.set_cons_zero, List.set_cons_succ]
                refine wpAnyH_done (by kernel_rfl) ?_ _
                go_wp2_with fail
                go_meet
                first | exact HL1.out | exact HL2.out
              exact AllReadyH.nil
            exact AllReadyH.nil
          refine AllReadyH.cons rfl (fun K hK => ?_) ?_
          · go_simp
            ((with_reducible refine (q2 _).mono ?_); rintro e w9 ⟨rfl, rfl⟩)
            (try go_wp2_with fail)
            refine hK.out _ _ ?_ (fun hHeld => ?_)
            · (first | assumption | exact arr_keep HS2.out (((Below.refl _ W2).alloc (Nat.le_refl _) _).drew) | exact arr_keep HS2.out ((((Below.refl _ W2).alloc (Nat.le_refl _) _).alloc (by simp) _).drew))
            clear hK K
            try simp only [Act.put, List.setIfInBounds_toArray, List.set_cons_zero, List.set_cons_succ]
            refine wpAnyH_ready (rs := [5]) (by kernel_rfl) (by simp) ?_
            refine AllReadyH.cons rfl (fun K hK => ?_) ?_
            · go_simp
              refine hK.out _ _ ?_ (fun hHeld => ?_)
              · (first | assumption | exact arr_keep HS2.out (((Below.refl _ W2).alloc (Nat.le_refl _) _).drew) | exact arr_keep HS2.out ((((Below.refl _ W2).alloc (Nat.le_refl _) _).alloc (by simp) _).drew))
              clear hK K
              try simp only [Act.put, List.setIfInBounds_toArray, List.set_cons_zero, List.set_cons_succ]
              refine wpAnyH_take (i := 9) (v := ?_) rfl (by kernel_rfl) (by kernel_rfl) (by kernel_rfl) (fun _ _ _ h => h) (Or.inl ⟨by rfl, ?_⟩) (by assumption) ?_
              rotate_left
              · intro w hSw; (try dsimp only at hSw); go_simp; (try with_reducible rfl)
              try simp only [Act.put, List.setIfInBounds_toArray, List.set_cons_zero, List.set_cons_succ]
              refine wpAnyH_ready (rs := [11]) (by kernel_rfl) (by simp) ?_
              refine AllReadyH.cons rfl (fun K hK => ?_) ?_
              · go_simp
                refine hK.out _ _ ?_ (fun hHeld => ?_)
                · (first | assumption | exact arr_keep HS2.out (((Below.refl _ W2).alloc (Nat.le_refl _) _).drew) | exact arr_keep HS2.out ((((Below.refl _ W2).alloc (Nat.le_refl _) _).alloc (by simp) _).drew))
                clear hK K
                try simp only [Act.put, List.setIfInBounds_toArray, List.set_cons_zero, List.set_cons_succ]
                refine wpAnyH_done (by kernel_rfl) ?_ _
                go_wp2_with fail
                go_meet
                first | exact HL1.out | exact HL2.out
              exact AllReadyH.nil
            exact AllReadyH.nil
          exact AllReadyH.nil
        refine AllReadyH.cons rfl (fun K hK => ?_) ?_
        · go_simp
          ((with_reducible refine (q2 _).mono ?_); rintro e w9 ⟨rfl, rfl⟩)
          (try go_wp2_with fail)
          refine hK.out _ _ ?_ (fun hHeld => ?_)
          · (first | assumption | exact arr_keep HS2.out (((Below.refl _ W2).alloc (Nat.le_refl _) _).drew) | exact arr_keep HS2.out ((((Below.refl _ W2).alloc (Nat.le_refl _) _).alloc (by simp) _).drew))
          clear hK K
          try simp only [Act.put, List.setIfInBounds_toArray, List.set_cons_zero, List.set_cons_succ]
          refine wpAnyH_ready (rs := [0]) (by kernel_rfl) (by simp) ?_
          refine AllReadyH.cons rfl (fun K hK => ?_) ?_
          · go_simp
            refine hK.out _ _ ?_ (fun hHeld => ?_)
            · (first | assumption | exact arr_keep HS2.out (((Below.refl _ W2).alloc (Nat.le_refl _) _).drew) | exact arr_keep HS2.out ((((Below.refl _ W2).alloc (Nat.le_refl _) _).alloc (by simp) _).drew))
            clear hK K
            try simp only [Act.put, List.setIfInBounds_toArray, List.set_cons_zero, List.set_cons_succ]
            refine wpAnyH_take (i := 4) (v := ?_) rfl (by kernel_rfl) (by kernel_rfl) (by kernel_rfl) (fun _ _ _ h => h) (Or.inl ⟨by rfl, ?_⟩) (by assumption) ?_
            rotate_left
            · intro w hSw; (try dsimp only at hSw); go_simp; (try with_reducible rfl)
            try simp only [Act.put, List.setIfInBounds_toArray, List.set_cons_zero, List.set_cons_succ]
            refine wpAnyH_ready (rs := [5]) (by kernel_rfl) (by simp) ?_
            refine AllReadyH.cons rfl (fun K hK => ?_) ?_
            · go_simp
              refine hK.out _ _ ?_ (fun hHeld => ?_)
              · (first | assumption | exact arr_keep HS2.out (((Below.refl _ W2).alloc (Nat.le_refl _) _).drew) | exact arr_keep HS2.out ((((Below.refl _ W2).alloc (Nat.le_refl _) _).alloc (by simp) _).drew))
              clear hK K
              try simp only [Act.put, List.setIfInBounds_toArray, List.set_cons_zero, List.set_cons_succ]
              refine wpAnyH_take (i := 9) (v := ?_) rfl (by kernel_rfl) (by kernel_rfl) (by kernel_rfl) (fun _ _ _ h => h) (Or.inl ⟨by rfl, ?_⟩) (by assumption) ?_
              rotate_left
              · intro w hSw; (try dsimp only at hSw); go_simp; (try with_reducible rfl)
              try simp only [Act.put, List.setIfInBounds_toArray, List.set_cons_zero, List.set_cons_succ]
              refine wpAnyH_ready (rs := [11]) (by kernel_rfl) (by simp) ?_
              refine AllReadyH.cons rfl (fun K hK => ?_) ?_
              · go_simp
                refine hK.out _ _ ?_ (fun hHeld => ?_)
                · (first | assumption | exact arr_keep HS2.out (((Below.refl _ W2).alloc (Nat.le_refl _) _).drew) | exact arr_keep HS2.out ((((Below.refl _ W2).alloc (Nat.le_refl _) _).alloc (by simp) _).drew))
                clear hK K
                try simp only [Act.put, List.setIfInBounds_toArray, List.set_cons_zero, List.set_cons_succ]
                refine wpAnyH_done (by kernel_rfl) ?_ _
                go_wp2_with fail
                go_meet
                first | exact HL1.out | exact HL2.out
              exact AllReadyH.nil
            exact AllReadyH.nil
          exact AllReadyH.nil
        exact AllReadyH.nil
      exact AllReadyH.nil
    refine AllReadyH.cons rfl (fun K hK => ?_) ?_
    · go_simp
      refine hK.out _ _ ?_ (fun hHeld => ?_)
      · (first | assumption | exact arr_keep HS2.out (((Below.refl _ W2).alloc (Nat.le_refl _) _).drew) | exact arr_keep HS2.out ((((Below.refl _ W2).alloc (Nat.le_refl _) _).alloc (by simp) _).drew))
      clear hK K
      try simp only [Act.put, List.setIfInBounds_toArray, List.set_cons_zero, List.set_cons_succ]
      refine wpAnyH_ready (rs := [0, 3]) (by kernel_rfl) (by simp) ?_
      refine AllReadyH.cons rfl (fun K hK => ?_) ?_
      · go_simp
        refine hK.out _ _ ?_ (fun hHeld => ?_)
        · (first | assumption | exact arr_keep HS2.out (((Below.refl _ W2).alloc (Nat.le_refl _) _).drew) | exact arr_keep HS2.out ((((Below.refl _ W2).alloc (Nat.le_refl _) _).alloc (by simp) _).drew))
        clear hK K
        try simp only [Act.put, List.setIfInBounds_toArray, List.set_cons_zero, List.set_cons_succ]
        refine wpAnyH_ready (rs := [3]) (by kernel_rfl) (by simp) ?_
        refine AllReadyH.cons rfl (fun K hK => ?_) ?_
        · go_simp
          ((with_reducible refine (q0 _).mono ?_); rintro e w9 ⟨rfl, rfl⟩)
          (try go_wp2_with fail)
          refine hK.out _ _ ?_ (fun hHeld => ?_)
          · (first | assumption | exact arr_keep HS2.out (((Below.refl _ W2).alloc (Nat.le_refl _) _).drew) | exact arr_keep HS2.out ((((Below.refl _ W2).alloc (Nat.le_refl _) _).alloc (by simp) _).drew))
          clear hK K
          try simp only [Act.put, List.setIfInBounds_toArray, List.set_cons_zero, List.set_cons_succ]
          refine wpAnyH_take (i := 4) (v := ?_) rfl (by kernel_rfl) (by kernel_rfl) (by kernel_rfl) (fun _ _ _ h => h) (Or.inl ⟨by rfl, ?_⟩) (by assumption) ?_
          rotate_left
          · intro w hSw; (try dsimp only at hSw); go_simp; (try with_reducible rfl)
          try simp only [Act.put, List.setIfInBounds_toArray, List.set_cons_zero, List.set_cons_succ]
          refine wpAnyH_ready (rs := [5, 8]) (by kernel_rfl) (by simp) ?_
          refine AllReadyH.cons rfl (fun K hK => ?_) ?_
          · go_simp
            refine hK.out _ _ ?_ (fun hHeld => ?_)
            · (first | assumption | exact arr_keep HS2.out (((Below.refl _ W2).alloc (Nat.le_refl _) _).drew) | exact arr_keep HS2.out ((((Below.refl _ W2).alloc (Nat.le_refl _) _).alloc (by simp) _).drew))
            clear hK K
            try simp only [Act.put, List.setIfInBounds_toArray, List.set_cons_zero, List.set_cons_succ]
            refine wpAnyH_ready (rs := [8]) (by kernel_rfl) (by simp) ?_
            refine AllReadyH.cons rfl (fun K hK => ?_) ?_
            · go_simp
              ((with_reducible refine (q2 _).mono ?_); rintro e w9 ⟨rfl, rfl⟩)
              (try go_wp2_with fail)
              refine hK.out _ _ ?_ (fun hHeld => ?_)
              · (first | assumption | exact arr_keep HS2.out (((Below.refl _ W2).alloc (Nat.le_refl _) _).drew) | exact arr_keep HS2.out ((((Below.refl _ W2).alloc (Nat.le_refl _) _).alloc (by simp) _).drew))
              clear hK K
              try simp only [Act.put, List.setIfInBounds_toArray, List.set_cons_zero, List.set_cons_succ]
              refine wpAnyH_take (i := 9) (v := ?_) rfl (by kernel_rfl) (by kernel_rfl) (by kernel_rfl) (fun _ _ _ h => h) (Or.inl ⟨by rfl, ?_⟩) (by assumption) ?_
              rotate_left
              · intro w hSw; (try dsimp only at hSw); go_simp; (try with_reducible rfl)
              try simp only [Act.put, List.setIfInBounds_toArray, List.set_cons_zero, List.set_cons_succ]
              refine wpAnyH_ready (rs := [11]) (by kernel_rfl) (by simp) ?_
              refine AllReadyH.cons rfl (fun K hK => ?_) ?_
              · go_simp
                refine hK.out _ _ ?_ (fun hHeld => ?_)
                · (first | assumption | exact arr_keep HS2.out (((Below.refl _ W2).alloc (Nat.le_refl _) _).drew) | exact arr_keep HS2.out ((((Below.refl _ W2).alloc (Nat.le_refl _) _).alloc (by simp) _).drew))
                clear hK K
                try simp only [Act.put, List.setIfInBounds_toArray, List.set_cons_zero, List.set_cons_succ]
                refine wpAnyH_done (by kernel_rfl) ?_ _
                go_wp2_with fail
                go_meet
                first | exact HL1.out | exact HL2.out
              exact AllReadyH.nil
            exact AllReadyH.nil
          refine AllReadyH.cons rfl (fun K hK => ?_) ?_
          · go_simp
            ((with_reducible refine (q2 _).mono ?_); rintro e w9 ⟨rfl, rfl⟩)
            (try go_wp2_with fail)
            refine hK.out _ _ ?_ (fun hHeld => ?_)
            · (first | assumption | exact arr_keep HS2.out (((Below.refl _ W2).alloc (Nat.le_refl _) _).drew) | exact arr_keep HS2.out ((((Below.refl _ W2).alloc (Nat.le_refl _) _).alloc (by simp) _).drew))
            clear hK K
            try simp only [Act.put, List.setIfInBounds_toArray, List.set_cons_zero, List.set_cons_succ]
            refine wpAnyH_ready (rs := [5]) (by kernel_rfl) (by simp) ?_
            refine AllReadyH.cons rfl (fun K hK => ?_) ?_
            · go_simp
              refine hK.out _ _ ?_ (fun hHeld => ?_)
              · (first | assumption | exact arr_keep HS2.out (((Below.refl _ W2).alloc (Nat.le_refl _) _).drew) | exact arr_keep HS2.out ((((Below.refl _ W2).alloc (Nat.le_refl _) _).alloc (by simp) _).drew))
              clear hK K
              try simp only [Act.put, List.setIfInBounds_toArray, List.set_cons_zero, List.set_cons_succ]
              refine wpAnyH_take (i := 9) (v := ?_) rfl (by kernel_rfl) (by kernel_rfl) (by kernel_rfl) (fun _ _ _ h => h) (Or.inl ⟨by rfl, ?_⟩) (by assumption) ?_
              rotate_left
              · intro w hSw; (try dsimp only at hSw); go_simp; (try with_reducible rfl)
              try simp only [Act.put, List.setIfInBounds_toArray, List.set_cons_zero, List.set_cons_succ]
              refine wpAnyH_ready (rs := [11]) (by kernel_rfl) (by simp) ?_
              refine AllReadyH.cons rfl (fun K hK => ?_) ?_
              · go_simp
                refine hK.out _ _ ?_ (fun hHeld => ?_)
                · (first | assumption | exact arr_keep HS2.out (((Below.refl _ W2).alloc (Nat.le_refl _) _).drew) | exact arr_keep HS2.out ((((Below.refl _ W2).alloc (Nat.le_refl _) _).alloc (by simp) _).drew))
                clear hK K
                try simp only [Act.put, List.setIfInBounds_toArray, List.set_cons_zero, List.set_cons_succ]
                refine wpAnyH_done (by kernel_rfl) ?_ _
                go_wp2_with fail
                go_meet
                first | exact HL1.out | exact HL2.out
              exact AllReadyH.nil
            exact AllReadyH.nil
          exact AllReadyH.nil
        exact AllReadyH.nil
      refine AllReadyH.cons rfl (fun K hK => ?_) ?_
      · go_simp
        ((with_reducible refine (q0 _).mono ?_); rintro e w9 ⟨rfl, rfl⟩)
        (try go_wp2_with fail)
        refine hK.out _ _ ?_ (fun hHeld => ?_)
        · (first | assumption | exact arr_keep HS2.out (((Below.refl _ W2).alloc (Nat.le_refl _) _).drew) | exact arr_keep HS2.out ((((Below.refl _ W2).alloc (Nat.le_refl _) _).alloc (by simp) _).drew))
        clear hK K
        try simp only [Act.put, List.setIfInBounds_toArray, List.set_cons_zero, List.set_cons_succ]
        refine wpAnyH_ready (rs := [0, 8]) (by kernel_rfl) (by simp) ?_
        refine AllReadyH.cons rfl (fun K hK => ?_) ?_
        · go_simp
          refine hK.out _ _ ?_ (fun hHeld => ?_)
          · (first | assumption | exact arr_keep HS2.out (((Below.refl _ W2).alloc (Nat.le_refl _) _).drew) | exact arr_keep HS2.out ((((Below.refl _ W2).alloc (Nat.le_refl _) _).alloc (by simp) _).drew))
          clear hK K
          try simp only [Act.put, List.setIfInBounds_toArray, List.set_cons_zero, List.set_cons_succ]
          refine wpAnyH_take (i := 4) (v := ?_) rfl (by kernel_rfl) (by kernel_rfl) (by kernel_rfl) (fun _ _ _ h => h) (Or.inl ⟨by rfl, ?_⟩) (by assumption) ?_
          rotate_left
          · intro w hSw; (try dsimp only at hSw); go_simp; (try with_reducible rfl)
          try simp only [Act.put, List.setIfInBounds_toArray, List.set_cons_zero, List.set_cons_succ]
          refine wpAnyH_ready (rs := [5, 8]) (by kernel_rfl) (by simp) ?_
          refine AllReadyH.cons rfl (fun K hK => ?_) ?_
          · go_simp
            refine hK.out _ _ ?_ (fun hHeld => ?_)
            · (first | assumption | exact arr_keep HS2.out (((Below.refl _ W2).alloc (Nat.le_refl _) _).drew) | exact arr_keep HS2.out ((((Below.refl _ W2).alloc (Nat.le_refl _) _).alloc (by simp) _).drew))
            clear hK K
            try simp only [Act.put, List.setIfInBounds_toArray, List.set_cons_zero, List.set_cons_succ]
            refine wpAnyH_ready (rs := [8]) (by kernel_rfl) (by simp) ?_
            refine AllReadyH.cons rfl (fun K hK => ?_) ?_
            · go_simp
              ((with_reducible refine (q2 _).mono ?_); rintro e w9 ⟨rfl, rfl⟩)
              (try go_wp2_with fail)
              refine hK.out _ _ ?_ (fun hHeld => ?_)
              · (first | assumption | exact arr_keep HS2.out (((Below.refl _ W2).alloc (Nat.le_refl _) _).drew) | exact arr_keep HS2.out ((((Below.refl _ W2).alloc (Nat.le_refl _) _).alloc (by simp) _).drew))
              clear hK K
              try simp only [Act.put, List.setIfInBounds_toArray, List.set_cons_zero, List.set_cons_succ]
              refine wpAnyH_take (i := 9) (v := ?_) rfl (by kernel_rfl) (by kernel_rfl) (by kernel_rfl) (fun _ _ _ h => h) (Or.inl ⟨by rfl, ?_⟩) (by assumption) ?_
              rotate_left
              · intro w hSw; (try dsimp only at hSw); go_simp; (try with_reducible rfl)
              try simp only [Act.put, List.setIfInBounds_toArray, List.set_cons_zero, List.set_cons_succ]
              refine wpAnyH_ready (rs := [11]) (by kernel_rfl) (by simp) ?_
              refine AllReadyH.cons rfl (fun K hK => ?_) ?_
              · go_simp
                refine hK.out _ _ ?_ (fun hHeld => ?_)
                · (first | assumption | exact arr_keep HS2.out (((Below.refl _ W2).alloc (Nat.le_refl _) _).drew) | exact arr_keep HS2.out ((((Below.refl _ W2).alloc (Nat.le_refl _) _).alloc (by simp) _).drew))
                clear hK K
                try simp only [Act.put, List.setIfInBounds_toArray, List.set_cons_zero, List.set_cons_succ]
                refine wpAnyH_done (by kernel_rfl) ?_ _
                go_wp2_with fail
                go_meet
                first | exact HL1.out | exact HL2.out
              exact AllReadyH.nil
            exact AllReadyH.nil
          refine AllReadyH.cons rfl (fun K hK => ?_) ?_
          · go_simp
            ((with_reducible refine (q2 _).mono ?_); rintro e w9 ⟨rfl, rfl⟩)
            (try go_wp2_with fail)
            refine hK.out _ _ ?_ (fun hHeld => ?_)
            · (first | assumption | exact arr_keep HS2.out (((Below.refl _ W2).alloc (Nat.le_refl _) _).drew) | exact arr_keep HS2.out ((((Below.refl _ W2).alloc (Nat.le_refl _) _).alloc (by simp) _).drew))
            clear hK K
            try simp only [Act.put, List.setIfInBounds_toArray, List.set_cons_zero, List.set_cons_succ]
            refine wpAnyH_ready (rs := [5]) (by kernel_rfl) (by simp) ?_
            refine AllReadyH.cons rfl (fun K hK => ?_) ?_
            · go_simp
              refine hK.out _ _ ?_ (fun hHeld => ?_)
              · (first | assumption | exact arr_keep HS2.out (((Below.refl _ W2).alloc (Nat.le_refl _) _).drew) | exact arr_keep HS2.out ((((Below.refl _ W2).alloc (Nat.le_refl _) _).alloc (by simp) _).drew))
              clear hK K
              try simp only [Act.put, List.setIfInBounds_toArray, List.set_cons_zero, List.set_cons_succ]
              refine wpAnyH_take (i := 9) (v := ?_) rfl (by kernel_rfl) (by kernel_rfl) (by kernel_rfl) (fun _ _ _ h => h) (Or.inl ⟨by rfl, ?_⟩) (by assumption) ?_
              rotate_left
              · intro w hSw; (try dsimp only at hSw); go_simp; (try with_reducible rfl)
              try simp only [Act.put, List.setIfInBounds_toArray, List.set_cons_zero, List.set_cons_succ]
              refine wpAnyH_ready (rs := [11]) (by kernel_rfl) (by simp) ?_
              refine AllReadyH.cons rfl (fun K hK => ?_) ?_
              · go_simp
                refine hK.out _ _ ?_ (fun hHeld => ?_)
                · (first | assumption | exact arr_keep HS2.out (((Below.refl _ W2).alloc (Nat.le_refl _) _).drew) | exact arr_keep HS2.out ((((Below.refl _ W2).alloc (Nat.le_refl _) _).alloc (by simp) _).drew))
                clear hK K
                try simp only [Act.put, List.setIfInBounds_toArray, List.set_cons_zero, List.set_cons_succ]
                refine wpAnyH_done (by kernel_rfl) ?_ _
                go_wp2_with fail
                go_meet
                first | exact HL1.out | exact HL2.out
              exact AllReadyH.nil
            exact AllReadyH.nil
          exact AllReadyH.nil
        refine AllReadyH.cons rfl (fun K hK => ?_) ?_
        · go_simp
          ((with_reducible refine (q2 _).mono ?_); rintro e w9 ⟨rfl, rfl⟩)
          (try go_wp2_with fail)
          refine hK.out _ _ ?_ (fun hHeld => ?_)
          · (first | assumption | exact arr_keep HS2.out (((Below.refl _ W2).alloc (Nat.le_refl _) _).drew) | exact arr_keep HS2.out ((((Below.refl _ W2).alloc (Nat.le_refl _) _).alloc (by simp) _).drew))
          clear hK K
          try simp only [Act.put, List.setIfInBounds_toArray, List.set_cons_zero, List.set_cons_succ]
          refine wpAnyH_ready (rs := [0]) (by kernel_rfl) (by simp) ?_
          refine AllReadyH.cons rfl (fun K hK => ?_) ?_
          · go_simp
            refine hK.out _ _ ?_ (fun hHeld => ?_)
            · (first | assumption | exact arr_keep HS2.out (((Below.refl _ W2).alloc (Nat.le_refl _) _).drew) | exact arr_keep HS2.out ((((Below.refl _ W2).alloc (Nat.le_refl _) _).alloc (by simp) _).drew))
            clear hK K
            try simp only [Act.put, List.setIfInBounds_toArray, List.set_cons_zero, List.set_cons_succ]
            refine wpAnyH_take (i := 4) (v := ?_) rfl (by kernel_rfl) (by kernel_rfl) (by kernel_rfl) (fun _ _ _ h => h) (Or.inl ⟨by rfl, ?_⟩) (by assumption) ?_
            rotate_left
            · intro w hSw; (try dsimp only at hSw); go_simp; (try with_reducible rfl)
            try simp only [Act.put, List.setIfInBounds_toArray, List.set_cons_zero, List.set_cons_succ]
            refine wpAnyH_ready (rs := [5]) (by kernel_rfl) (by simp) ?_
            refine AllReadyH.cons rfl (fun K hK => ?_) ?_
            · go_simp
              refine hK.out _ _ ?_ (fun hHeld => ?_)
              · (first | assumption | exact arr_keep HS2.out (((Below.refl _ W2).alloc (Nat.le_refl _) _).drew) | exact arr_keep HS2.out ((((Below.refl _ W2).alloc (Nat.le_refl _) _).alloc (by simp) _).drew))
              clear hK K
              try simp only [Act.put, List.setIfInBounds_toArray, List.set_cons_zero, List.set_cons_succ]
              refine wpAnyH_take (i := 9) (v := ?_) rfl (by kernel_rfl) (by kernel_rfl) (by kernel_rfl) (fun _ _ _ h => h) (Or.inl ⟨by rfl, ?_⟩) (by assumption) ?_
              rotate_left
              · intro w hSw; (try dsimp only at hSw); go_simp; (try with_reducible rfl)
              try simp only [Act.put, List.setIfInBounds_toArray, List.set_cons_zero, List.set_cons_succ]
              refine wpAnyH_ready (rs := [11]) (by kernel_rfl) (by simp) ?_
              refine AllReadyH.cons rfl (fun K hK => ?_) ?_
              · go_simp
                refine hK.out _ _ ?_ (fun hHeld => ?_)
                · (first | assumption | exact arr_keep HS2.out (((Below.refl _ W2).alloc (Nat.le_refl _) _).drew) | exact arr_keep HS2.out ((((Below.refl _ W2).alloc (Nat.le_refl _) _).alloc (by simp) _).drew))
                clear hK K
                try simp only [Act.put, List.setIfInBounds_toArray, List.set_cons_zero, List.set_cons_succ]
                refine wpAnyH_done (by kernel_rfl) ?_ _
                go_wp2_with fail
                go_meet
                first | exact HL1.out | exact HL2.out
              exact AllReadyH.nil
            exact AllReadyH.nil
          exact AllReadyH.nil
        exact AllReadyH.nil
      exact AllReadyH.nil
    exact AllReadyH.nil

  case rest =>
    clear harr hres hb0 q0 q2 k0 k2 HS
    obtain ⟨g1, r, rfl, hr, hp, harr, hres, hbw, hg1⟩ := hcut
    have HR := Lib.hid hr
    have HA := Lib.hid harr
    have HZ := Lib.hid hres
    obtain ⟨c0, c1, c2, c3, c4⟩ := harr.cells
    have y2 := hr.cells.2.2.1
    have g2 := hr.frozen 2
    clear hr harr hres
    have hb7 : (a2.tmod 7 == 0) = true ∨ (a2.tmod 7 == 0) = false := by cases (a2.tmod 7 == 0); exact .inr rfl; exact .inl rfl
    go_upto_if 26 with fail
    go_cut [9] (fun s9 wx => MidR a0 a1 a2 a3 a4 w wx s9 PartK)
    case first =>
      rcases hb7 with h7 | h7
      · go_wp2_with fail
        go_meet
        obtain ⟨p1, p2, p3, p4, p5, p6⟩ := hp
        refine ⟨g1, { r with rev := 9007199254740992 }, rfl, heap_setCell_same wc g1 2 _ _ _ HR.out, ⟨p1, p2, by show (0 : Int) ≤ 9007199254740992 ∧ (9007199254740992 : Int) ≤ 9007199254740992; omega, p4, p5, p6⟩, ?_, ?_, hbw.setCell (p := ⟨g1, 2, none⟩) (by show w.heap.size ≤ g1; omega) _, hg1⟩
        · exact Eq.trans (heap_setCell_other wc ⟨g1, 2, none⟩ w.heap.size _ (by show w.heap.size ≠ g1; omega)) HA.out
        · exact Eq.trans (heap_setCell_other wc ⟨g1, 2, none⟩ (w.heap.size + 1) _ (by show w.heap.size + 1 ≠ g1; omega)) HZ.out
      · go_wp2_with fail
        go_meet
        exact ⟨g1, r, rfl, HR.out, hp, HA.out, HZ.out, hbw, hg1⟩
    case rest =>
      clear c0 c1 c2 c3 c4 y2 g2 HR HA HZ hp hbw hg1 hb7
      obtain ⟨g1, r, rfl, hr, hp, harr, hres, hbw, hg1⟩ := hcut
      have HR := Lib.hid hr
      have HA := Lib.hid harr
      have HZ := Lib.hid hres
      obtain ⟨c0, c1, c2, c3, c4⟩ := harr.cells
      have y1 := hr.cells.2.1
      have g2 := hr.frozen 1
      have hst1 := hst.below hbw
      clear hr harr hres
      go_upto_if 30 with fail
      go_cut [9] (fun s9 wx => MidR a0 a1 a2 a3 a4 w wx s9 PartV)
      case first =>
        obtain ⟨hm, hcs⟩ := hst1
        obtain ⟨p1, p2, p3, p4, p5, p6⟩ := hp
        by_cases hm0 : 0 < m
        · obtain ⟨b2, off2, hA2, hb2, hat2⟩ := hcs hm0
          subst hA2
          have q1 := pickL_nat a1 m (by omega) (by omega) h1
          have k1 := pickN_lt a1 m (by omega)
          generalize pickN a1 m = z1 at q1 k1
          obtain ⟨ct, hszt⟩ := hat2 z1 (by omega)
          clear hat2 hcs
          generalize g z1 = T at ct hszt
          have hmin0 : 0 ≤ min (T.size : Int) 200 := by omega
          have hmin1 : min (T.size : Int) 200 ≤ (T.size : Int) := by omega
          have HT : Hid ((T.extract 0 (min (T.size : Int) 200).toNat).size ≤ 200) := by show _ ≤ _; rw [ByteArray.size_extract]; omega
          go_wp2_with fail
          refine (q1 _).mono ?_; rintro e V1 ⟨rfl, rfl⟩
          go_wp2_with fail
          go_meet
          refine ⟨g1, { r with value := T.extract 0 (min (T.size : Int) 200).toNat }, rfl, heap_setCell_same wc g1 1 _ _ _ HR.out, ⟨p1, HT.out, p3, p4, p5, p6⟩, ?_, ?_, hbw.setCell (p := ⟨g1, 1, none⟩) (by show w.heap.size ≤ g1; omega) _, hg1⟩
          · exact Eq.trans (heap_setCell_other wc ⟨g1, 1, none⟩ w.heap.size _ (by show w.heap.size ≠ g1; omega)) HA.out
          · exact Eq.trans (heap_setCell_other wc ⟨g1, 1, none⟩ (w.heap.size + 1) _ (by show w.heap.size + 1 ≠ g1; omega)) HZ.out
        · have hm1 : m = 0 := by omega
          subst hm1
          go_wp2_with fail
          go_meet
          exact ⟨g1, r, rfl, HR.out, ⟨p1, by rw [p2]; decide, p3, p4, p5, p6⟩, HA.out, HZ.out, hbw, hg1⟩
      case rest =>
        clear c0 c1 c2 c3 c4 y1 g2 HR HA HZ hp hbw hg1 hst1
        obtain ⟨g1, r, rfl, hr, hp, harr, hres, hbw, hg1⟩ := hcut
        have HR := Lib.hid hr
        have HA := Lib.hid harr
        have HZ := Lib.hid hres
        obtain ⟨c0, c1, c2, c3, c4⟩ := harr.cells
        have y3 := hr.cells.2.2.2.1
        have y4 := hr.cells.2.2.2.2.1
        have f3 := hr.frozen 3
        have f4 := hr.frozen 4
        have hx1 := lt_of_blk hr
        have hx2 := lt_of_blk harr
        clear hr harr hres
        go_upto_if 46 with fail
        go_cut [9] (fun s9 wx => MidR a0 a1 a2 a3 a4 w wx s9 (PartR v))
        case first =>
          obtain ⟨p1, p2, p3, p4, p5, p6⟩ := hp
          rcases hv with rfl | rfl
          · go_wp2_with fail
            go_meet
            exact ⟨g1, r, rfl, HR.out, ⟨p1, p2, p3, by unfold LaterP; rw [if_pos rfl, p4, p5]; exact ⟨rfl, rfl⟩, p6⟩, HA.out, HZ.out, hbw, hg1⟩
          · obtain ⟨N, hN1, hN2⟩ : ∃ N : ByteArray, [Value.string ⟨#[]⟩, .string ⟨#[120]⟩, .string ⟨#[97, 32, 110, 111, 116, 101]⟩, .string ⟨#[0, 128]⟩][z4]? = some (.string N) ∧ N.size ≤ 40 := by
              rcases (by omega : z4 = 0 ∨ z4 = 1 ∨ z4 = 2 ∨ z4 = 3) with rfl | rfl | rfl | rfl
              · exact ⟨_, rfl, by decide⟩
              · exact ⟨_, rfl, by decide⟩
              · exact ⟨_, rfl, by decide⟩
              · exact ⟨_, rfl, by decide⟩
            have HN2 := Lib.hid hN2; clear hN2
            have hN3 : (#[Value.string ⟨#[]⟩, .string ⟨#[120]⟩, .string ⟨#[97, 32, 110, 111, 116, 101]⟩, .string ⟨#[0, 128]⟩] : Array Value)[z4]? = some (.string N) := by simpa using hN1
            go_wp2_with fail
            refine (q3 _).mono ?_; rintro e V1 ⟨rfl, rfl⟩
            go_wp2_with fail
            refine (q4 _).mono ?_; rintro e V1 ⟨rfl, rfl⟩
            go_wp2_with fail
            go_meet
            have hset : RcBlk ((wc.setCell ⟨g1, 3, none⟩ (.int .i64 (z3 : Int))).setCell ⟨g1, 4, none⟩ (.string N)) g1 { r with life := (z3 : Int), note := N } (.slice none 0 0) := heap_setCell_same (wc.setCell ⟨g1, 3, none⟩ (.int .i64 (z3 : Int))) g1 4 _ _ _ (heap_setCell_same wc g1 3 _ _ _ HR.out)
            refine ⟨g1, { r with life := (z3 : Int), note := N }, rfl, hset.alloc _, ⟨p1, p2, p3, ?_, p6⟩, Arr5.alloc ?_ _, RcBlk.alloc ?_ _, ((hbw.setCell (p := ⟨g1, 3, none⟩) (by show w.heap.size ≤ g1; omega) _).setCell (p := ⟨g1, 4, none⟩) (by show w.heap.size ≤ g1; omega) _).alloc (by simp; omega) _, hg1⟩
            · unfold LaterP; rw [if_neg (by decide)]; have := HN2.out; simp only; omega
            · exact Eq.trans (heap_setCell_other _ ⟨g1, 4, none⟩ w.heap.size _ (by show w.heap.size ≠ g1; omega)) (Eq.trans (heap_setCell_other wc ⟨g1, 3, none⟩ w.heap.size _ (by show w.heap.size ≠ g1; omega)) HA.out)
            · exact Eq.trans (heap_setCell_other _ ⟨g1, 4, none⟩ (w.heap.size + 1) _ (by show w.heap.size + 1 ≠ g1; omega)) (Eq.trans (heap_setCell_other wc ⟨g1, 3, none⟩ (w.heap.size + 1) _ (by show w.heap.size + 1 ≠ g1; omega)) HZ.out)
        case rest =>
          clear c0 c1 c2 c3 c4 y3 y4 f3 f4 hx1 hx2 HR HA HZ hp hbw hg1 q3 q4 k3 k4 h0 h1 h2 h3 h4
          obtain ⟨g1, r, rfl, hr, hp, harr, hres, hbw, hg1⟩ := hcut
          have p0 := fields_own A n cap f B m cap2 g wc (hra.below hbw) (hst.below hbw)
          clear harr
          have hg2 := lt_of_blk hr
          go_wp2_with fail
          ((with_reducible refine p0.mono ?_); rintro e w3 ⟨AF, nf, capf, fs, rfl, hcf, hcfm, hff, hN, b3, hownf⟩)
          clear p0
          have hr3 := hr.below b3
          have hz3' := hres.below b3
          have hb3 := bch hbw b3
          have hs3 := b3.size
          have hnf : nf = fs.length := hff.1
          subst hnf
          have h20 := hN.1
          clear hr hres hbw b3 hff
          have hpx := hp.2.2.2.2
          have hmade : Hid (∀ k, k ≤ 6 → RecNice v { r with extra := (fs.map (shf (3 + 2 * (v - 1)))).take k }) := fun k hk => nice_made hv hN hp k hk
          clear hp
          have hvb : 1 ≤ v ∧ v ≤ 2 := by rcases hv with rfl | rfl <;> omega
          clear hv
          have hgl : ∀ gl, AF = some ⟨gl, 0, none⟩ → wc.heap.size ≤ gl ∧ gl < w3.heap.size := fun gl h => by
            subst h; exact hownf.lt gl rfl
          have HGL := Lib.hid hgl
          have hownf0 : w3.ownsRow wc.heap.size 44 2 (.slice AF fs.length capf) fs.length (cellsF (mixed (3 + 2 * (v - 1)) fs 0)) := by rw [mixed_zero]; exact hownf
          have hbt : ∀ k, k < fs.length → 0 ≤ tg fs k ∧ tg fs k ≤ 4000 := fun k hk => by
            have h1 := hN.2 k hk
            have h2 := hN.hd_le (Nat.le_of_lt hk)
            have h3 := hN.1
            omega
          have HBT := Lib.hid hbt
          have hwfF := hN.wf
          clear hgl hownf hbt hN
          have hbd : Below w3.heap.size w3 w3 := Below.refl _ _
          go_wp2_with fail
          go_loopw [12] (fun i wr => ∃ (k : Nat) (x : Value), k ≤ fs.length ∧ k ≤ 6 ∧ i = .int .i64 k ∧ RcBlk wr g1 r x ∧ wr.ownsRow w3.heap.size 44 2 x k (cellsF ((fs.map (shf (3 + 2 * (v - 1)))).take k)) ∧ wr.ownsRow wc.heap.size 44 2 (.slice AF fs.length capf) fs.length (cellsF (mixed (3 + 2 * (v - 1)) fs k)) ∧ RcBlk wr (w.heap.size + 1) zeroR (.slice none 0 0) ∧ w3.heap.size ≤ wr.heap.size ∧ Below w.heap.size w wr) (fun i _ => 6 - (intOf i).toNat)
          case atStart => exact ⟨0, .slice none 0 0, by omega, by omega, rfl, hr3, World.ownsRow_nil _ _ _ _, hownf0, hz3', Nat.le_refl _, hb3⟩
          case round =>
            clear hr3 hownf0 hz3' hb3 hbd
            obtain ⟨k, x, hk, hk6, rfl, hrb, hownx, hownl, hzb, hsz, hbw⟩ := hrel
            obtain ⟨A1, cap1, hvv⟩ := own_form hownx
            subst hvv
            by_cases hlt : k < fs.length ∧ k < 6
            · obtain ⟨hl1, hl2⟩ := hlt
              obtain ⟨gl, capl, hvl, hgl1, hgl2⟩ := hownl.form (by omega)
              have hA := slice_addr hvl
              subst hA
              clear hvl
              obtain ⟨hgl3, hgl4⟩ := HGL.out gl rfl
              obtain ⟨d1, d2⟩ := cellsF_at (mixed (3 + 2 * (v - 1)) fs k) k (by rw [mixed_len _ _ _ hk]; exact hl1)
              obtain ⟨e1, e2⟩ := mixed_at (3 + 2 * (v - 1)) fs hl1
              rw [e1] at d1
              rw [e2] at d2
              have c1 : wr.cell? ⟨gl, k * 2, none⟩ = some (.int .i64 (tg fs k)) := by rw [hownl.cellAt (k * 2) (by omega)]; exact d1
              have c2 : wr.cell? ⟨gl, k * 2 + 1, none⟩ = some (.string (dt fs k)) := by rw [hownl.cellAt (k * 2 + 1) (by omega)]; exact d2
              have f1 := hownl.frozenAt (k * 2)
              obtain ⟨hst1, hst2⟩ := hownl.stored (k * 2) (.int .i64 (tg fs k + (3 + 2 * (v - 1))))
              rw [mixed_step _ _ hl1] at hst1
              have hbtk := HBT.out k hl1
              have hsd := dt_sz hwfF hl1
              have hsn := map_take_snoc (3 + 2 * (v - 1)) fs hl1
              have hlk : ((fs.map (shf (3 + 2 * (v - 1)))).take k).length = k := by rw [List.length_take, List.length_map]; omega
              have HSN := Lib.hid hsn
              have HLK := Lib.hid hlk
              clear d1 d2 e1 e2 hsn hlk
              generalize hLk : (fs.map (shf (3 + 2 * (v - 1)))).take k = Lk at *
              clear hLk
              generalize tg fs k = t at *
              generalize dt fs k = d at *
              have hb1 : Below w.heap.size w (wr.setCell ⟨gl, k * 2, none⟩ (.int .i64 (t + (3 + 2 * (v - 1))))) := hbw.setCell (p := ⟨gl, k * 2, none⟩) (by show w.heap.size ≤ gl; omega) _
              have hr1 : RcBlk (wr.setCell ⟨gl, k * 2, none⟩ (.int .i64 (t + (3 + 2 * (v - 1))))) g1 r (.slice A1 k cap1) := hrb.kept hst2 (by simp; omega)
              have hz1 : RcBlk (wr.setCell ⟨gl, k * 2, none⟩ (.int .i64 (t + (3 + 2 * (v - 1))))) (w.heap.size + 1) zeroR (.slice none 0 0) := hzb.kept hst2 (by simp; omega)
              have hx1 := ownsRow_setCell_below (a := ⟨gl, k * 2, none⟩) hownx hgl4 (.int .i64 (t + (3 + 2 * (v - 1))))
              have n1 : (wr.setCell ⟨gl, k * 2, none⟩ (.int .i64 (t + (3 + 2 * (v - 1))))).cell? ⟨gl, k * 2, none⟩ = some (.int .i64 (t + (3 + 2 * (v - 1)))) := World.cell?_setCell_same' wr ⟨gl, k * 2, none⟩ _ (by rw [c1]; rfl)
              have n2 : (wr.setCell ⟨gl, k * 2, none⟩ (.int .i64 (t + (3 + 2 * (v - 1))))).cell? ⟨gl, k * 2 + 1, none⟩ = some (.string d) := (World.cell?_setCell_other wr ⟨gl, k * 2, none⟩ ⟨gl, k * 2 + 1, none⟩ _ (by simp)).trans c2
              have hsz1 : w3.heap.size ≤ (wr.setCell ⟨gl, k * 2, none⟩ (.int .i64 (t + (3 + 2 * (v - 1))))).heap.size := by simpa using hsz
              obtain ⟨u, hu⟩ : ∃ u, t + (3 + 2 * (v - 1)) = u := ⟨_, rfl⟩
              have hu2 : t + 3 + 2 * (v - 1) = u := by omega
              rw [hu] at hb1 hr1 hz1 hx1 n1 n2 hst1 hsz1
              have hwu : (Lit.int .i64 u).wf = true := by
                have := wf_of (t := u.toNat) (by omega)
                rwa [Int.toNat_of_nonneg (by omega)] at this
              have HU := Lib.hid hu
              obtain ⟨W1, hW1⟩ : ∃ W, wr.setCell ⟨gl, k * 2, none⟩ (.int .i64 u) = W := ⟨_, rfl⟩
              rw [hW1] at hb1 hr1 hz1 hx1 n1 n2 hst1 hsz1
              clear hu hst2 hrb hzb hownx hownl hbw hsz
              go_upto_region 15 with fail
              clear hW1
              have hown3 : ∀ W, W = (W1.alloc (.cells #[.int .i64 u, .string d] 44)).drew → W.ownsRow w3.heap.size 44 2 (.slice A1 k cap1) Lk.length (cellsF Lk) := by
                rintro W rfl; rw [HLK.out]; exact hx1.alloc _
              have hone : ∀ W, W = (W1.alloc (.cells #[.int .i64 u, .string d] 44)).drew → IsFs W (some ⟨W1.heap.size, 0, none⟩) 1 [(u, d)] := by
                rintro W rfl
                have hx := World.alloc_heap_new W1 (.cells #[.int .i64 u, .string d] 44)
                exact isFs_one (cell_blk hx 0) (cell_blk hx 1) hwu hsd
              have hrb3 : ∀ W, W = (W1.alloc (.cells #[.int .i64 u, .string d] 44)).drew → RcBlk W g1 r (.slice A1 k cap1) := by
                rintro W rfl; exact hr1.alloc _
              have hzb3 : ∀ W, W = (W1.alloc (.cells #[.int .i64 u, .string d] 44)).drew → RcBlk W (w.heap.size + 1) zeroR (.slice none 0 0) := by
                rintro W rfl; exact hz1.alloc _
              have hol3 : ∀ W, W = (W1.alloc (.cells #[.int .i64 u, .string d] 44)).drew → W.ownsRow wc.heap.size 44 2 (.slice (some ⟨gl, 0, none⟩) fs.length capf) fs.length (cellsF (mixed (3 + 2 * (v - 1)) fs (k + 1))) := by
                rintro W rfl; exact hst1.alloc _
              have hbw3 : ∀ W, W = (W1.alloc (.cells #[.int .i64 u, .string d] 44)).drew → Below w.heap.size w W ∧ w3.heap.size ≤ W.heap.size := by
                rintro W rfl; exact ⟨(hb1.alloc hb1.size _).drew, by simp; omega⟩
              have hne1 : ∀ q : Nat, q < w3.heap.size → some q ≠ (Value.slice A1 k cap1).ownBlock := fun q hq he => by
                have := (hx1.lt q he.symm).1; omega
              have hge1 : ∀ g : Nat, (Value.slice A1 k cap1).ownBlock = some g → w3.heap.size ≤ g := fun g hg => (hx1.lt g hg).1
              have HNE := Lib.hid hne1
              have HGE := Lib.hid hge1
              have c5 := hr1.cells.2.2.2.2.2
              have hxr := lt_of_blk hr1
              have hLk2 : Lk.length ≤ 6 := by rw [HLK.out]; exact hk6
              have hgl5 : gl < W1.heap.size := by omega
              have hws : w.heap.size < w3.heap.size := by omega
              clear hne1 hge1 hr1 hz1 hst1 hx1 hb1 c1 c2 f1
              go_region_law (first | (refine step_append_fs rfl _ _ rfl w3.heap.size _ Lk rfl (hown3 _ rfl) W1.heap.size 1 u d rfl (hone _ rfl) (by omega) (by simp; omega) ?_; intro A2 cap2 V2 hown4 hgrow; have hrb4 := (hrb3 _ rfl).kept hgrow (HNE.out _ (by omega)); have hzb4 := (hzb3 _ rfl).kept hgrow (HNE.out _ (by omega)); have hol4 := (hol3 _ rfl).kept hgrow (.inr (fun he => HNE.out gl hgl4 he)); have hbw4 := (hbw3 _ rfl).1.grown hgrow (by simp; omega) (fun g hg => by have := HGE.out g hg; omega); have hsz4 := Nat.le_trans (hbw3 _ rfl).2 hgrow.size; have c5' := hrb4.cells.2.2.2.2.2; have f5' := hrb4.frozen 5; clear hgrow))
              all_goals
                go_wp2_with fail
                go_roundw
                case rel =>
                  refine ⟨k + 1, .slice A2 (Lk.length + 1) cap2, by omega, by omega, by go_num, heap_setCell_same V2 g1 5 _ _ _ hrb4, ?_, ?_, ?_, by simp; omega, hbw4.setCell (p := ⟨g1, 5, none⟩) (by show w.heap.size ≤ g1; omega) _⟩
                  · rw [HSN.out, HU.out, ← HLK.out]; exact ownsRow_setCell_below (a := ⟨g1, 5, none⟩) hown4 (by show g1 < _; omega) _
                  · exact ownsRow_setCell_other hol4 (a := ⟨g1, 5, none⟩) (by show (some gl) ≠ some g1; simp; omega) _
                  · exact Eq.trans (heap_setCell_other V2 ⟨g1, 5, none⟩ (w.heap.size + 1) _ (by show w.heap.size + 1 ≠ g1; omega)) hzb4
                case measure => simp [intOf]; omega
            · have HX := Lib.hid hownx
              have hk6' : k = fs.length ∨ k = 6 := by omega
              obtain ⟨q, hq⟩ : ∃ q, { r with extra := (fs.map (shf (3 + 2 * (v - 1)))).take k } = q := ⟨_, rfl⟩
              have hnice : RecNice v q := by rw [← hq]; exact hmade.out k hk6
              have hqe : q.extra = (fs.map (shf (3 + 2 * (v - 1)))).take k := by rw [← hq]
              have hq1 : q.key = r.key ∧ q.value = r.value ∧ q.rev = r.rev ∧ q.life = r.life ∧ q.note = r.note := by rw [← hq]; exact ⟨rfl, rfl, rfl, rfl, rfl⟩
              have hlen : k = q.extra.length := by rw [hqe, List.length_take, List.length_map]; omega
              have hwq : FsWf q.extra := by
                obtain ⟨hRR, _, _⟩ := extraB_iff.1 hnice.1.2.2.2.2.2
                intro f hf
                obtain ⟨i, hi, rfl⟩ := List.mem_iff_getElem.1 hf
                have h1 := okAt_iff.1 ((rightB_iff.1 hRR).2 i hi)
                have h2 := hd_nonneg i (Nat.le_of_lt hi) (fun j hj => (rightB_iff.1 hRR).2 j (by omega))
                rw [tg_at hi, dt_at hi] at h1
                refine ⟨?_, by omega⟩
                have h3 := wf_of (t := (q.extra[i].1).toNat) (by omega)
                rwa [Int.toNat_of_nonneg (by omega)] at h3
              have hqv : Hid (rcV q (.slice A1 k cap1) = rcV r (.slice A1 k cap1)) := by show _ = _; rw [← hq]
              have hx' : wr.ownsRow w3.heap.size 44 2 (.slice A1 k cap1) q.extra.length (cellsF q.extra) := by rw [← hlen, hqe]; exact HX.out
              obtain ⟨A9, cap9, hv9, hcap9, hf9⟩ := isFs_own hx' hwq
              have e1 := slice_addr hv9
              subst e1
              have hnew := newAt_own hx' (Nat.le_refl _)
              have HF9 := Lib.hid hf9
              have hcapk : k ≤ cap1 := by
                have : cap1 = cap9 := slice_cap hv9
                omega
              have HNI := Lib.hid hnice
              have HLE := Lib.hid hlen
              have hw13 : w.heap.size + 1 < w3.heap.size := by omega
              obtain ⟨y0, y1, y2, y3, y4, y5⟩ := hrb.cells
              obtain ⟨z0, z1, z2, z3, z4, z5⟩ := hzb.cells
              have f0 := hzb.frozen 0
              have f1 := hzb.frozen 1
              have f2 := hzb.frozen 2
              have f3 := hzb.frozen 3
              have f4 := hzb.frozen 4
              have f5 := hzb.frozen 5
              have hxz := lt_of_blk hzb
              simp only [zeroR] at z0 z1 z2 z3 z4
              have HBW := Lib.hid hbw
              clear hq hq1 hqe hlen hwq hx' hv9 hcap9 hf9 hnice hrb hzb hownx hownl hbw hlt
              rcases hk6' with hkl | hkl
              · have hkl' : decide ((k : Int) < (fs.length : Int)) = false := by simp; omega
                have hkl'' : decide (k < fs.length) = false := by simp; omega
                clear hkl
                go_wp2_with fail
                refine bodyPost_ret (v := rcV r (.slice A1 k cap1)) (by simp [results, Try.results9, go_sem, z0, z1, z2, z3, z4, z5]) rfl ⟨A1, k, cap1, q, by rw [hqv.out], hcapk, ?_, HNI.out, ?_⟩
                · have h := isFs_set6 HF9.out hnew hw13 (.string r.key) (.string r.value) (.int .i64 r.rev) (.int .i64 r.life) (.string r.note) (.slice A1 k cap1)
                  rw [← HLE.out] at h
                  exact h
                · exact (((((HBW.out.setCell (p := ⟨w.heap.size + 1, 0, none⟩) (by simp) _).setCell (p := ⟨w.heap.size + 1, 1, none⟩) (by simp) _).setCell (p := ⟨w.heap.size + 1, 2, none⟩) (by simp) _).setCell (p := ⟨w.heap.size + 1, 3, none⟩) (by simp) _).setCell (p := ⟨w.heap.size + 1, 4, none⟩) (by simp) _).setCell (p := ⟨w.heap.size + 1, 5, none⟩) (by simp) _
              · subst hkl
                by_cases h6 : 6 < fs.length
                · go_wp2_with fail
                  refine bodyPost_ret (v := rcV r (.slice A1 6 cap1)) (by simp [results, Try.results9, go_sem, z0, z1, z2, z3, z4, z5]) rfl ⟨A1, 6, cap1, q, by rw [hqv.out], hcapk, ?_, HNI.out, ?_⟩
                  · have h := isFs_set6 HF9.out hnew hw13 (.string r.key) (.string r.value) (.int .i64 r.rev) (.int .i64 r.life) (.string r.note) (.slice A1 6 cap1)
                    rw [← HLE.out] at h
                    exact h
                  · exact (((((HBW.out.setCell (p := ⟨w.heap.size + 1, 0, none⟩) (by simp) _).setCell (p := ⟨w.heap.size + 1, 1, none⟩) (by simp) _).setCell (p := ⟨w.heap.size + 1, 2, none⟩) (by simp) _).setCell (p := ⟨w.heap.size + 1, 3, none⟩) (by simp) _).setCell (p := ⟨w.heap.size + 1, 4, none⟩) (by simp) _).setCell (p := ⟨w.heap.size + 1, 5, none⟩) (by simp) _
                · have h6' : fs.length = 6 := by omega
                  have hkl' : decide ((6 : Int) < (fs.length : Int)) = false := by simp; omega
                  have hkl'' : decide (6 < fs.length) = false := by simp; omega
                  clear h6 h6'
                  go_wp2_with fail
                  refine bodyPost_ret (v := rcV r (.slice A1 6 cap1)) (by simp [results, Try.results9, go_sem, z0, z1, z2, z3, z4, z5]) rfl ⟨A1, 6, cap1, q, by rw [hqv.out], hcapk, ?_, HNI.out, ?_⟩
                  · have h := isFs_set6 HF9.out hnew hw13 (.string r.key) (.string r.value) (.int .i64 r.rev) (.int .i64 r.life) (.string r.note) (.slice A1 6 cap1)
                    rw [← HLE.out] at h
                    exact h
                  · exact (((((HBW.out.setCell (p := ⟨w.heap.size + 1, 0, none⟩) (by simp) _).setCell (p := ⟨w.heap.size + 1, 1, none⟩) (by simp) _).setCell (p := ⟨w.heap.size + 1, 2, none⟩) (by simp) _).setCell (p := ⟨w.heap.size + 1, 3, none⟩) (by simp) _).setCell (p := ⟨w.heap.size + 1, 4, none⟩) (by simp) _).setCell (p := ⟨w.heap.size + 1, 5, none⟩) (by simp) _
end Go.Proofs.Ytkcmjhpbjgjebaa
