import Derived.Test.YtljjbpgbddaekaaMailRef
import Derived.Deep.LoopGhost
import Derived.Lib.Walk
import Derived.Lib.SliceRun
import Derived.Lib.AppendZerosOnto
/-
  The contracts of the library's functions that package mail calls: slices.Grow and Concat at letters; the program's own has, Post, Copy.
-/
namespace Go.Proofs.Ytljjbpgbddaekaa
open Go.RowKit Go.Lib
set_option linter.unusedVariables false
set_option linter.unusedSimpArgs false

set_option maxHeartbeats 4000000 in
set_option maxRecDepth 100000 in
theorem growL_nil (n : Nat) (w : World) (h1 : n * 32 ≤ 140737488355328) :
    Calls Try.prog 28 #[.slice none 0 0, .int .i64 n] w fun e w' => ∃ v, e = .returned v ∧ RowL w' w.heap.size v [] ∧ Below w.heap.size w w' := by
  rcases Nat.eq_zero_or_pos n with rfl | h0
  · go_enter Try.func28, Try.ntmps28
    go_wp2_with fail
    go_ret
    exact ⟨_, rfl, rowL_nil _ _, Below.refl _ _⟩
  obtain ⟨i0, hi0, hz0, hs0, hb8⟩ := info_parts infoL
  have hold : (Builtin.firstCells i0.size 0 (.slice none 0 0)).run Try.prog w.drew = .ok #[] w.drew := run_firstCells_none w.drew i0.size 0 0 0
  have hrz : ∀ ty, (Builtin.append_ #[23, 3] ty #[.slice none 0 0, .int .i64 (n : Int)]).run Try.prog w =
      .ok (.slice (some ⟨w.heap.size, 0, none⟩) n (grownCap w n 0 25)) (w.drew.alloc (.cells (#[] ++ Builtin.zeroCells (Value.agg #[.int .i64 0, .int .i64 0, .string ⟨#[]⟩]).cells n ++ Builtin.zeroCells (Value.agg #[.int .i64 0, .int .i64 0, .string ⟨#[]⟩]).cells (grownCap w n 0 25 - n)) 25)) := fun ty => by
    have h := Lib.run_append_grow_zeros w 23 3 ty 25 i0 (.agg #[.int .i64 0, .int .i64 0, .string ⟨#[]⟩]) .i64 .i64 Try.underlying23 Try.underlying3 hi0 hz0 none 0 0 [] hold n (by omega) (by rw [hs0]; omega) (by omega) (by omega)
      (by rw [hb8]; omega)
      (by rw [Nat.zero_add]; exact growslice_fits (by omega) (by rw [hb8]; omega))
    rw [Nat.zero_add] at h
    exact h
  have hGn : n ≤ grownCap w n 0 25 := grownCap_ge w _ _ _
  have hG63 : grownCap w n 0 25 ≤ maxLen := grownCap_le_maxLen w n 0 25 (by unfold maxLen; omega)
  have hsz : (#[] ++ Builtin.zeroCells (Value.agg #[.int .i64 0, .int .i64 0, .string ⟨#[]⟩]).cells n ++ Builtin.zeroCells (Value.agg #[.int .i64 0, .int .i64 0, .string ⟨#[]⟩]).cells (grownCap w n 0 25 - n)).size = grownCap w n 0 25 * 3 := by
    rw [Array.size_append, Array.size_append, size_zeroCells, size_zeroCells, show (Value.agg #[.int .i64 0, .int .i64 0, .string ⟨#[]⟩]).cells.size = 3 from rfl]
    simp; omega
  obtain ⟨G, hG⟩ : ∃ G, G = grownCap w n 0 25 := ⟨_, rfl⟩
  rw [← hG] at hrz hGn hG63 hsz
  obtain ⟨Z, hZ⟩ : ∃ Z, Z = #[] ++ Builtin.zeroCells (Value.agg #[.int .i64 0, .int .i64 0, .string ⟨#[]⟩]).cells n ++ Builtin.zeroCells (Value.agg #[.int .i64 0, .int .i64 0, .string ⟨#[]⟩]).cells (G - n) := ⟨_, rfl⟩
  rw [← hZ] at hrz hsz
  have hown := World.ownsRow_made (base := w.heap.size) (e := 25) (size := 3) w.drew Z G (Nat.le_refl _) hG63 hsz
  have hbw : Below w.heap.size w (w.drew.alloc (.cells Z 25)) := ((Below.refl _ w).drew).alloc (Nat.le_refl _) _
  have HO := Lib.hid hown; clear hown
  have HB := Lib.hid hbw; clear hbw
  have HG : Hid (G ≤ 9223372036854775807) := by show G ≤ _; unfold maxLen at hG63; omega
  have hg63 := HG.out
  have hn0 : (0 : Int) < (n : Int) := by omega
  have hn1 : ¬ ((n : Int) < 0) := by omega
  clear hold hG hZ hsz hz0 hG63
  go_enter Try.func28, Try.ntmps28
  go_wp2_with (at_builtin; refine Lib.wpList_append_run _ rfl _ _ _ _ rfl _ _ rfl rfl _ _ (hrz _) ?_)
  all_goals (go_ret; exact ⟨_, rfl, HO.out, HB.out⟩)

theorem ownsL_base {w : World} {a b : Nat} {v : Value} {l : List Lt} (h : b ≤ a) (hr : RowL w a v l) : RowL w b v l := by
  refine ⟨hr.1, ?_⟩
  rcases hr.2 with h2 | ⟨g, cap, cur, h1, h2, h3⟩
  · exact .inl h2
  · exact .inr ⟨g, cap, cur, h1, Nat.le_trans h h2, h3⟩
/-- What 'slices.Concat' leaves: these letters, in new memory. -/
def LsOut (w : World) (l : List Lt) (e : Ending) (w' : World) : Prop :=
  ∃ A n cap, e = .returned (.slice A n cap) ∧ n ≤ cap ∧ IsLs w' A n l ∧ NewN w.heap.size A n ∧ Below w.heap.size w w'
def flatM (f : Nat → List Lt) : Nat → List Lt
  | 0 => []
  | k + 1 => flatM f k ++ f k
set_option maxHeartbeats 4000000 in
set_option maxRecDepth 100000 in
theorem concatL2 (g : Nat) (AA : Nat → Option Addr) (nn cc : Nat → Nat) (ll : Nat → List Lt) (w : World) (hg : Blk w g (.cells #[.slice (AA 0) (nn 0) (cc 0), .slice (AA 1) (nn 1) (cc 1)] 23 (0, 0)))
    (hl : ∀ k, k < 2 → IsLs w (AA k) (nn k) (ll k)) (hn : (flatM ll 2).length * 32 ≤ 140737488355328) :
    Calls Try.prog 24 #[.slice (some ⟨g, 0, none⟩) 2 2] w (LsOut w (flatM ll 2)) := by
  have HC : Hid (∀ k, k < 2 → w.cell? ⟨g, k, none⟩ = some (.slice (AA k) (nn k) (cc k))) := fun k hk => by
    rcases (by omega : k = 0 ∨ k = 1) with rfl | rfl
    · exact hg.cell 0
    · exact hg.cell 1
  have hgl := Blk.lt hg
  have HG := Lib.hid hg; clear hg
  have HL := Lib.hid hl; clear hl
  have HW : Hid (∀ k, k ≤ 2 → LtsWf (flatM ll k)) := fun k => by
    induction k with
    | zero => intro _ z hz; simp [flatM] at hz
    | succ k ih =>
      intro hk z hz
      rw [flatM, List.mem_append] at hz
      rcases hz with h | h
      · exact ih (by omega) z h
      · exact (HL.out k (by omega)).2.2.1 z h
  have HS : Hid (∀ k, k < 2 → (flatM ll (k + 1)).length = (flatM ll k).length + nn k) := fun k hk => by rw [flatM, List.length_append, (HL.out k hk).1]
  have HM : Hid (∀ k, k ≤ 2 → (flatM ll k).length ≤ (flatM ll 2).length) := fun k hk => by
    have h0 := HS.out 0 (by omega)
    have h1 := HS.out 1 (by omega)
    rcases (by omega : k = 0 ∨ k = 1 ∨ k = 2) with rfl | rfl | rfl
    · simp only [flatM, List.length_nil]; omega
    · simp only [Nat.zero_add, Nat.reduceAdd] at h0 h1; omega
    · omega
  have HZ := Lib.hid hn; clear hn
  go_enter Try.func24, Try.ntmps24
  go_wp2_with fail
  go_loopw [3, 11] (fun s i wr => ∃ k : Nat, k ≤ 2 ∧ s = .int .i64 ((flatM ll k).length : Nat) ∧ i = .int .i64 k ∧ Below w.heap.size w wr) (fun _ i _ => 2 - (Lib.intOf i).toNat)
  case atStart => exact ⟨0, by omega, rfl, rfl, Below.refl _ _⟩
  case round =>
    obtain ⟨k, hk, rfl, rfl, hb⟩ := hrel
    have HB := Lib.hid hb; clear hb
    by_cases hlt : k < 2
    · have c0 := (HB.out.cell (p := ⟨g, k, none⟩) hgl).trans (HC.out k hlt)
      have h1 := HS.out k hlt
      have h2 := HM.out (k + 1) (by omega)
      have h3 := HZ.out
      generalize (flatM ll k).length = a at *
      obtain ⟨b, hb⟩ : ∃ b, (flatM ll (k + 1)).length = b := ⟨_, rfl⟩
      rw [hb] at h1 h2
      have hwr : IntKind.i64.wrap ((a : Int) + (nn k : Int)) = (b : Int) := by rw [IntWalk.i64_in _ (by omega)]; omega
      have HBB := Lib.hid hb; clear hb
      have h4 : ¬ ((b : Int) < 0) := by omega
      generalize nn k = m at *
      generalize AA k = A at *
      generalize cc k = c at *
      clear h1 h2 h3
      go_wp2_with fail
      go_roundw
      case rel => exact ⟨k + 1, by omega, by rw [HBB.out], by go_num, by first | exact HB.out | exact HB.out.drew | exact bdn HB.out _⟩
      case measure => simp [Lib.intOf]; omega
    · have hke : k = 2 := by omega
      subst hke
      have qg := fun W => growL_nil (flatM ll 2).length W HZ.out
      generalize (flatM ll 2).length = a at *
      go_wp2_with fail
      ((with_reducible refine (qg _).mono ?_); rintro e W1 ⟨v, rfl, hrow, b1⟩)
      clear qg
      have HB1 := Lib.hid (bch HB.out b1); clear b1
      have HRO : Hid (RowL W1 w.heap.size v (flatM ll 0)) := ownsL_base HB.out.size hrow
      clear hrow HB
      go_wp2_with fail
      go_loopw [6, 27] (fun s i wr => ∃ k : Nat, k ≤ 2 ∧ RowL wr w.heap.size s (flatM ll k) ∧ i = .int .i64 k ∧ Below w.heap.size w wr) (fun _ i _ => 2 - (Lib.intOf i).toNat)
      case atStart => exact ⟨0, by omega, HRO.out, rfl, HB1.out⟩
      case round =>
        obtain ⟨k, hk, hrow, rfl, hb⟩ := hrel
        clear HB1 HRO
        have HB := Lib.hid hb; clear hb
        have HRO := Lib.hid hrow; clear hrow
        by_cases hlt : k < 2
        · have c0 := (HB.out.cell (p := ⟨g, k, none⟩) hgl).trans (HC.out k hlt)
          go_wp2_with (at_builtin; refine wpList_append_lets rfl _ _ rfl w.heap.size _ (flatM ll k) rfl (by first | exact HRO.out | exact HRO.out.drew) (AA k) (nn k) (cc k) (ll k) rfl ((HL.out k hlt).below (by first | exact HB.out | exact HB.out.drew)) (by have := HS.out k hlt; have := HM.out (k + 1) (by omega); have := HZ.out; omega) HB.out.size ?_)
          intro v' w1 hrow1 hgrow
          have hb1 : Below w.heap.size w w1 := HB.out.grown hgrow HB.out.size (fun x hx => (HRO.out.lt x hx).1)
          have HR1 := Lib.hid hrow1; clear hrow1
          have HB1 := Lib.hid hb1; clear hb1
          go_wp2_with fail
          go_roundw
          case rel => exact ⟨k + 1, by omega, HR1.out, by go_num, HB1.out⟩
          case measure => simp [Lib.intOf]; omega
        · have hke : k = 2 := by omega
          subst hke
          obtain ⟨A2, cap2, hv, hcap, hns⟩ := HRO.out.isLs (HW.out 2 (by omega))
          subst hv
          go_wp2_with fail
          go_ret
          exact ⟨A2, _, cap2, rfl, hcap, hns, HRO.out.new, HB.out⟩
def twoA (A B : Option Addr) (k : Nat) : Option Addr := if k = 0 then A else B
def twoN (a b k : Nat) : Nat := if k = 0 then a else b
def twoL (a b : List Lt) (k : Nat) : List Lt := if k = 0 then a else b
theorem flat_two (a b : List Lt) : flatM (twoL a b) 2 = a ++ b := by simp [flatM, twoL]
theorem concatL_any (g : Nat) (A B : Option Addr) (n1 n2 c1 c2 : Nat) (l1 l2 : List Lt) (w : World) (hg : Blk w g (.cells #[.slice A n1 c1, .slice B n2 c2] 23 (0, 0)))
    (h1 : IsLs w A n1 l1) (h2 : IsLs w B n2 l2) (m1 : (n1 + n2) * 32 ≤ 140737488355328) :
    Calls Try.prog 24 #[.slice (some ⟨g, 0, none⟩) 2 2] w (LsOut w (l1 ++ l2)) := by
  have h := concatL2 g (twoA A B) (twoN n1 n2) (twoN c1 c2) (twoL l1 l2) w hg ?_ ?_
  · rw [flat_two] at h; exact h
  · intro k hk
    rcases (by omega : k = 0 ∨ k = 1) with rfl | rfl
    · exact h1
    · exact h2
  · rw [flat_two, List.length_append, ← h1.1, ← h2.1]; exact m1

set_option maxRecDepth 100000 in
set_option maxHeartbeats 4000000 in
theorem has_any (A : Option Addr) (n cap : Nat) (l : List Lt) (i : Int) (w : World) (hn : n = l.length) (hm : n ≤ 9223372036854775807) :
    Calls Try.prog 25 #[.slice A n cap, .int .i64 i] w fun e w' => e = .returned (.bool (thereL l i)) ∧ w = w' := by
  have HN := Lib.hid hn; clear hn
  by_cases h0 : 0 ≤ i
  · by_cases h1 : i < (n : Int)
    · have E : Hid (thereL l i = true) := thereL_iff.2 ⟨h0, by have := HN.out; omega⟩
      go_enter Try.func25, Try.ntmps25
      go_wp2_with fail
      go_ret
      exact ⟨ret_bool E.out.symm, rfl⟩
    · have E : Hid (thereL l i = false) := thereL_no (fun h => by have := HN.out; omega)
      go_enter Try.func25, Try.ntmps25
      go_wp2_with fail
      go_ret
      exact ⟨ret_bool E.out.symm, rfl⟩
  · have E : Hid (thereL l i = false) := thereL_no (fun h => h0 h.1)
    go_enter Try.func25, Try.ntmps25
    go_wp2_with fail
    go_ret
    exact ⟨ret_bool E.out.symm, rfl⟩

set_option maxRecDepth 100000 in
set_option maxHeartbeats 4000000 in
theorem postC : PostQ := fun l m A n cap w hm hcap h h32 => by
  obtain ⟨R, hR⟩ : ∃ R, postL l m = R := ⟨_, rfl⟩
  rw [hR]
  unfold postL at hR
  have HN : Hid (n = l.length) := h.1
  by_cases g : 200 ≤ n
  · rw [if_pos (by have := HN.out; omega)] at hR
    have HR := Lib.hid hR.symm; clear hR
    have HB : Hid (Below w.heap.size w (w.alloc (.cells #[.int .i64 m.frm, .int .i64 m.to, .string m.bytes] 25))) := (Below.refl _ _).alloc (Nat.le_refl _) _
    have HL := Lib.hid (h.below HB.out); clear h
    have d1 : (200 : Int) ≤ (n : Int) := by omega
    go_enter Try.func11, Try.ntmps11
    go_wp2_with fail
    go_ret2
    exact ⟨A, n, cap, by rw [HR.out]; rfl, hcap, by rw [HR.out]; exact HL.out, .inr ⟨rfl, rfl⟩, HB.out⟩
  · rw [if_neg (by have := HN.out; omega)] at hR
    have HR := Lib.hid hR.symm; clear hR
    have d1 : ¬ ((200 : Int) ≤ (n : Int)) := by omega
    have HL := Lib.hid h; clear h
    have HM := Lib.hid hm; clear hm
    have hb0 : Below w.heap.size w (w.alloc (.cells #[.int .i64 m.frm, .int .i64 m.to, .string m.bytes] 25)) := (Below.refl _ _).alloc (Nat.le_refl _) _
    have hm0 := LtBlk.new w m
    obtain ⟨W0, hW0⟩ : ∃ W, w.alloc (.cells #[.int .i64 m.frm, .int .i64 m.to, .string m.bytes] 25) = W := ⟨_, rfl⟩
    rw [hW0] at hb0 hm0
    obtain ⟨c0, c1, c2⟩ := hm0.cells
    have hb1 : Below W0.heap.size W0 (W0.alloc (.cells #[.int .i64 m.frm, .int .i64 m.to, .string m.bytes] 25)) := (Below.refl _ _).alloc (Nat.le_refl _) _
    have ho1 := isLs_one W0 m HM.out
    have HL1 := Lib.hid ((HL.out.below hb0).below hb1)
    have HB1 := Lib.hid (bch hb0 hb1); clear hb0 hb1
    obtain ⟨W1, hW1⟩ : ∃ W, W0.alloc (.cells #[.int .i64 m.frm, .int .i64 m.to, .string m.bytes] 25) = W := ⟨_, rfl⟩
    rw [hW1] at ho1 HL1 HB1
    have hb2 : Below W1.heap.size W1 (W1.alloc (.cells #[.slice A n cap, .slice (some ⟨W0.heap.size, 0, none⟩) 1 1] 23)) := (Below.refl _ _).alloc (Nat.le_refl _) _
    have hg2 := Blk.new W1 (.cells #[.slice A n cap, .slice (some ⟨W0.heap.size, 0, none⟩) 1 1] 23)
    have HL2 := Lib.hid (HL1.out.below hb2)
    have HO2 := Lib.hid (ho1.below hb2)
    have HB2 := Lib.hid (bch HB1.out hb2); clear hb2 ho1 HL1 HB1
    have qc := concatL_any W1.heap.size A (some ⟨W0.heap.size, 0, none⟩) n 1 cap 1 l [m] _ hg2 HL2.out HO2.out (by omega)
    go_enter Try.func11, Try.ntmps11
    go_wp2_with fail
    ((with_reducible refine qc.mono ?_); rintro e W3 ⟨A3, n3, cap3, rfl, hcap3, hls3, hnw3, b3⟩)
    have HLS := Lib.hid hls3; clear hls3
    have HB3 := Lib.hid (bch HB2.out b3)
    have HNW := Lib.hid (hnw3.mono HB2.out.size)
    clear b3 hnw3 hg2 hm0
    go_wp2_with fail
    go_ret2
    exact ⟨A3, n3, cap3, by rw [HR.out]; rfl, hcap3, by rw [HR.out]; exact HLS.out, .inl HNW.out, HB3.out⟩

set_option maxRecDepth 100000 in
set_option maxHeartbeats 4000000 in
theorem copyC : CopyQ := fun l i A n cap w hi hcap h h32 => by
  obtain ⟨R, hR⟩ : ∃ R, copyL l i = R := ⟨_, rfl⟩
  rw [hR]
  unfold copyL at hR
  have q := has_any A n cap l i w h.1 (by omega)
  have HL := Lib.hid h
  have HN : Hid (n = l.length) := h.1
  clear h
  cases ht : thereL l i with
  | false =>
    rw [if_neg (by rw [ht]; simp)] at hR
    have HR := Lib.hid hR.symm
    rw [ht] at q
    clear hR ht
    go_enter Try.func15, Try.ntmps15
    go_wp2_with fail
    ((with_reducible refine q.mono ?_); rintro e W_ ⟨rfl, rfl⟩)
    go_wp2_with fail
    go_ret2
    exact ⟨A, n, cap, by rw [HR.out]; rfl, hcap, by rw [HR.out]; exact HL.out, .inr ⟨rfl, rfl⟩, Below.refl _ _⟩
  | true =>
    rw [if_pos ht] at hR
    have hti := thereL_iff.1 ht
    obtain ⟨j, rfl⟩ : ∃ j : Nat, i = (j : Int) := ⟨i.toNat, by omega⟩
    rw [show ((j : Int)).toNat = j from rfl] at hR
    have HJ : Hid (j < l.length) := by show j < l.length; omega
    have hjn : j < n := by have := HN.out; omega
    obtain ⟨b, off, hA, hb, hc⟩ := HL.out.2.2.2 (by omega)
    subst hA
    obtain ⟨x0, x1, x2⟩ := hc j HJ.out
    have qp := postC l (atL l j) (some ⟨b, off, none⟩) n cap w (HL.out.2.2.1.at HJ.out) hcap HL.out h32
    rw [hR] at qp
    rw [ht] at q
    clear hc ht hti hR
    generalize atL l j = m at *
    have hj0 : (0 : Int) ≤ (j : Int) := by omega
    have hj1 : (j : Int) < (n : Int) := by omega
    go_enter Try.func15, Try.ntmps15
    go_wp2_with fail
    ((with_reducible refine q.mono ?_); rintro e W_ ⟨rfl, rfl⟩)
    go_wp2_with fail
    ((with_reducible refine qp.mono ?_); rintro e W4 ⟨A4, n4, cap4, rfl, hcap4, hls4, hnw4, b4⟩)
    have HLS := Lib.hid hls4; clear hls4
    go_wp2_with fail
    go_ret2
    exact ⟨A4, n4, cap4, rfl, hcap4, HLS.out, hnw4, b4⟩
end Go.Proofs.Ytljjbpgbddaekaa
