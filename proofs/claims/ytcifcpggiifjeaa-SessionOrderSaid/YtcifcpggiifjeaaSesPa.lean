import Derived.Test.YtcifcpggiifjeaaSes
import Derived.Test.YtcifcpggiifjeaaSesRef
import Derived.Test.YtcifcpggiifjeaaSesProgMath
import Derived.Deep.LoopGhost
import Derived.Lib.Walk
import Derived.Lib.SliceRun
import Derived.Lib.AppendZerosOnto
/-
  The contracts of the library's functions that package session calls: cmp.Less, slices.BinarySearch, Clone, Grow, Concat, at integers.
-/
namespace Go.Proofs.Ytcifcpggiifjeaa
open Go.RowKit Go.Lib
set_option linter.unusedVariables false
set_option linter.unusedSimpArgs false

theorem cmpIsNaN_any (x : Int) (w : World) : Calls Try.prog 28 #[.int .i64 x] w fun e w' => e = .returned (.bool false) ∧ w' = w := by
  go_enter Try.func28, Try.ntmps28
  go_wp2
  go_ret
  exact ⟨by simp, rfl⟩
theorem slicesIsNaN_any (x : Int) (w : World) : Calls Try.prog 26 #[.int .i64 x] w fun e w' => e = .returned (.bool false) ∧ w' = w := by
  go_enter Try.func26, Try.ntmps26
  go_wp2
  go_ret
  exact ⟨by simp, rfl⟩
theorem cmpLess_any (x y : Int) (w : World) : Calls Try.prog 25 #[.int .i64 x, .int .i64 y] w fun e w' => e = .returned (.bool (decide (x < y))) ∧ w' = w := by
  go_enter Try.func25, Try.ntmps25
  go_wp2_with (go_at_call 28; refine (cmpIsNaN_any _ _).mono ?_; rintro e w' ⟨rfl, rfl⟩)
  go_ret
  exact ⟨rfl, rfl⟩

theorem rise_getD {l : List Int} (h : l.Pairwise (· < ·)) {a b : Nat} (hab : a ≤ b) (hb : b < l.length) : l.getD a 0 ≤ l.getD b 0 := by
  have e : ∀ j (hj : j < l.length), l.getD j 0 = l[j] := fun j hj => by rw [List.getD_eq_getElem?_getD, List.getElem?_eq_getElem hj]; rfl
  rcases Nat.lt_or_eq_of_le hab with h1 | rfl
  · rw [e a (by omega), e b hb]
    have := (List.pairwise_iff_getElem.1 h) a b (by omega) hb h1
    omega
  · exact Int.le_refl _

set_option maxHeartbeats 4000000 in
set_option maxRecDepth 1000000 in
theorem search_any (A : Option Addr) (n c : Nat) (l : List Int) (x : Int) (w : World) (h : IsNs w A n l) (hr : l.Pairwise (· < ·)) (h100 : n ≤ 100) :
    Calls Try.prog 18 #[.slice A n c, .int .i64 x] w fun e w' => (∃ i : Nat, PlaceS l x i ∧ e = .returned (.tuple #[.int .i64 i, .bool (decide (x ∈ l))])) ∧ Below w.heap.size w w' := by
  have hn : n = l.length := h.1
  have hat := h.2.2.2
  clear h
  have S : Hid (∀ a b, a ≤ b → b < n → l.getD a 0 ≤ l.getD b 0) := fun a b h1 h2 => rise_getD hr h1 (by omega)
  have HM : Hid (∀ i, PlaceS l x i → (x ∈ l ↔ i < l.length ∧ l.getD i 0 = x)) := fun i hi => place_mem hr hi
  have HN : Hid (n = l.length) := hn; clear hn
  have HAT := Lib.hid hat; clear hat hr
  go_enter Try.func18, Try.ntmps18
  go_wp2_with fail
  go_loopg [7, 8] n (fun g s7 s8 wr => ∃ lo hi : Nat, s7 = .int .i64 lo ∧ s8 = .int .i64 hi ∧ lo ≤ hi ∧ hi ≤ n ∧ hi - lo ≤ g ∧ Below w.heap.size w wr ∧ (∀ t, t < lo → l.getD t 0 < x) ∧ (∀ t, hi ≤ t → t < n → x ≤ l.getD t 0))
  case atStart => exact ⟨0, n, rfl, rfl, Nat.zero_le _, Nat.le_refl _, by omega, Below.refl _ _, fun t ht => absurd ht (Nat.not_lt_zero _), fun t h1 h2 => by omega⟩
  case round =>
    obtain ⟨lo, hi, rfl, rfl, hlh, hin, hg, hb, h1, h2⟩ := hrel
    have I : Hid ((∀ t, t < lo → l.getD t 0 < x) ∧ (∀ t, hi ≤ t → t < n → x ≤ l.getD t 0)) := ⟨h1, h2⟩
    clear h1 h2
    by_cases hlt : lo < hi
    · obtain ⟨b, off, hA, hbl, hcc⟩ := HAT.out (by omega)
      subst hA
      have cm : wr.cell? ⟨b, off + (lo + hi) / 2, none⟩ = some (.int .i64 (l.getD ((lo + hi) / 2) 0)) := (hb.cell (p := ⟨b, off + (lo + hi) / 2, none⟩) hbl).trans (hcc _ (by have := HN.out; omega))
      have HB := Lib.hid hb; clear hb
      clear hcc
      generalize hy : l.getD ((lo + hi) / 2) 0 = y at cm
      have Y : Hid (l.getD ((lo + hi) / 2) 0 = y) := hy
      clear hy
      by_cases hyx : y < x
      · go_wp2_with (first | (go_at_call 25; refine (cmpLess_any _ _ _).mono ?_; rintro e w' ⟨rfl, rfl⟩) | (go_at_call 26; refine (slicesIsNaN_any _ _).mono ?_; rintro e w' ⟨rfl, rfl⟩))
        go_roundg (hi - ((lo + hi) / 2 + 1))
        case measure => omega
        case rel =>
          refine ⟨(lo + hi) / 2 + 1, hi, by rw [show ((lo : Int) + (hi : Int)) / 2 + 1 = (((lo + hi) / 2 + 1 : Nat) : Int) by omega], rfl, by omega, hin, Nat.le_refl _, HB.out, fun t ht => ?_, I.out.2⟩
          have := S.out t ((lo + hi) / 2) (by omega) (by omega)
          rw [Y.out] at this
          omega
      · go_wp2_with (first | (go_at_call 25; refine (cmpLess_any _ _ _).mono ?_; rintro e w' ⟨rfl, rfl⟩) | (go_at_call 26; refine (slicesIsNaN_any _ _).mono ?_; rintro e w' ⟨rfl, rfl⟩))
        go_roundg ((lo + hi) / 2 - lo)
        case measure => omega
        case rel =>
          refine ⟨lo, (lo + hi) / 2, rfl, by rw [show ((lo : Int) + (hi : Int)) / 2 = (((lo + hi) / 2 : Nat) : Int) by omega], by omega, by omega, Nat.le_refl _, HB.out, I.out.1, fun t ht htn => ?_⟩
          have := S.out ((lo + hi) / 2) t ht htn
          rw [Y.out] at this
          omega
    · have : hi = lo := by omega
      subst this
      have HP : Hid (PlaceS l x hi) := ⟨by have := HN.out; omega, I.out.1, fun j h1 h2 => I.out.2 j h1 (by have := HN.out; omega)⟩
      have HX := Lib.hid (HM.out hi HP.out)
      have HB := Lib.hid hb; clear hb
      by_cases hn2 : hi < n
      · obtain ⟨b, off, hA, hbl, hcc⟩ := HAT.out (by omega)
        subst hA
        have cl : wr.cell? ⟨b, off + hi, none⟩ = some (.int .i64 (l.getD hi 0)) := (HB.out.cell (p := ⟨b, off + hi, none⟩) hbl).trans (hcc _ (by have := HN.out; omega))
        clear hcc
        generalize hy : l.getD hi 0 = y at cl
        have Y : Hid (l.getD hi 0 = y) := hy
        clear hy
        by_cases hyx : y = x
        · have hm : decide (x ∈ l) = true := decide_eq_true (HX.out.2 ⟨by have := HN.out; omega, Y.out.trans hyx⟩)
          have HMM := Lib.hid hm; clear hm
          go_wp2_with (first | (go_at_call 25; refine (cmpLess_any _ _ _).mono ?_; rintro e w' ⟨rfl, rfl⟩) | (go_at_call 26; refine (slicesIsNaN_any _ _).mono ?_; rintro e w' ⟨rfl, rfl⟩))
          go_ret2
          exact ⟨⟨hi, HP.out, by rw [HMM.out]; first | rfl | simp [*]⟩, by first | exact HB.out | exact HB.out.drew | exact bdn HB.out _⟩
        · have hm : decide (x ∈ l) = false := decide_eq_false (fun h => hyx (Y.out.symm.trans (HX.out.1 h).2))
          have HMM := Lib.hid hm; clear hm
          go_wp2_with (first | (go_at_call 25; refine (cmpLess_any _ _ _).mono ?_; rintro e w' ⟨rfl, rfl⟩) | (go_at_call 26; refine (slicesIsNaN_any _ _).mono ?_; rintro e w' ⟨rfl, rfl⟩))
          go_ret2
          exact ⟨⟨hi, HP.out, by rw [HMM.out]; first | rfl | simp [*]⟩, by first | exact HB.out | exact HB.out.drew | exact bdn HB.out _⟩
      · have hm : decide (x ∈ l) = false := decide_eq_false (fun h => hn2 (by have := HN.out; have := (HX.out.1 h).1; omega))
        have HMM := Lib.hid hm; clear hm
        go_wp2_with (first | (go_at_call 25; refine (cmpLess_any _ _ _).mono ?_; rintro e w' ⟨rfl, rfl⟩) | (go_at_call 26; refine (slicesIsNaN_any _ _).mono ?_; rintro e w' ⟨rfl, rfl⟩))
        go_ret2
        exact ⟨⟨hi, HP.out, by rw [HMM.out]; first | rfl | simp [*]⟩, by first | exact HB.out | exact HB.out.drew | exact bdn HB.out _⟩

/-- What 'slices.Clone' leaves: the same integers, in new memory. -/
def NsPost (w : World) (l : List Int) (e : Ending) (w' : World) : Prop :=
  ∃ A n cap, e = .returned (.slice A n cap) ∧ n ≤ cap ∧ IsNs w' A n l ∧ NewN w.heap.size A n ∧ Below w.heap.size w w'
set_option maxHeartbeats 2000000 in
set_option maxRecDepth 100000 in
theorem clone_any (A : Option Addr) (n cap : Nat) (l : List Int) (w : World) (h : IsNs w A n l) (h100 : n ≤ 1000) :
    Calls Try.prog 23 #[.slice A n cap] w (NsPost w l) := by
  have q22 : ∀ (w : World) (a : Option Addr) (n c n' c' : Nat), (binOp .eql 22 (.slice a n c) (.slice none n' c')).run Try.prog w = .ok (.bool a.isNone) w := fun w a n c n' c' => Lib.run_eql_slice_nil w _ _ a n c n' c' Try.underlying22
  have HN := Lib.hid h.1
  have HWF := Lib.hid h.2.2.1
  have HNS := Lib.hid h; clear h
  go_enter Try.func23, Try.ntmps23
  cases A with
  | none =>
    have hn0 : n = 0 := by
      rcases Nat.eq_zero_or_pos n with h | h
      · exact h
      · obtain ⟨b, off, e, _⟩ := HNS.out.2.2.2 h; cases e
    have hl : l = [] := List.eq_nil_of_length_eq_zero (by rw [← HN.out, hn0])
    subst hl
    clear hn0
    go_wp2_with fail
    go_ret
    exact ⟨none, 0, 0, rfl, Nat.le_refl _, isNs_nil _ _, fun h => by omega, Below.refl _ _⟩
  | some a =>
    go_wp2_with (at_builtin; refine wpList_append_ints rfl _ _ rfl w.heap.size _ [] rfl (World.ownsRow_made w #[] 0 (Nat.le_refl _) (Nat.zero_le _) rfl) (some a) n cap l rfl (HNS.out.below ((Below.refl _ w).alloc (Nat.le_refl _) _)) (by simp; omega) (by simp) ?_)
    intro v' w1 hrow hgrow
    obtain ⟨A2, cap2, hv, hcap, hns⟩ := hrow.isNs HWF.out
    subst hv
    have hb : Below w.heap.size w w1 := ((Below.refl _ w).alloc (Nat.le_refl _) _).grown hgrow (by simp) (by intro k hk; simp [Value.ownBlock] at hk; omega)
    have hw := hrow.new
    go_wp2_with fail
    go_ret
    exact ⟨A2, l.length, cap2, rfl, hcap, hns, hw, hb⟩

set_option maxHeartbeats 4000000 in
set_option maxRecDepth 100000 in
theorem grow_nil (n : Nat) (w : World) (h0 : 0 < n) (h1 : n ≤ 100000) :
    Calls Try.prog 27 #[.slice none 0 0, .int .i64 n] w fun e w' => ∃ v, e = .returned v ∧ RowI w' w.heap.size v [] ∧ Below w.heap.size w w' := by
  obtain ⟨i0, hi0, hz0, hs0, hb8⟩ := info_parts infoI
  have hold : (Builtin.firstCells i0.size 0 (.slice none 0 0)).run Try.prog w.drew = .ok #[] w.drew := run_firstCells_none w.drew i0.size 0 0 0
  have hrz : ∀ ty, (Builtin.append_ #[22, 3] ty #[.slice none 0 0, .int .i64 (n : Int)]).run Try.prog w =
      .ok (.slice (some ⟨w.heap.size, 0, none⟩) n (grownCap w n 0 3)) (w.drew.alloc (.cells (#[] ++ Builtin.zeroCells (Value.int .i64 0).cells n ++ Builtin.zeroCells (Value.int .i64 0).cells (grownCap w n 0 3 - n)) 3)) := fun ty => by
    have h := Lib.run_append_grow_zeros w 22 3 ty 3 i0 (.int .i64 0) .i64 .i64 Try.underlying22 Try.underlying3 hi0 hz0 none 0 0 [] hold n (by omega) (by rw [hs0]; omega) (by omega) (by omega)
      (by rw [hb8]; omega)
      (by rw [Nat.zero_add]; exact growslice_fits (by omega) (by rw [hb8]; omega))
    rw [Nat.zero_add] at h
    exact h
  have hGn : n ≤ grownCap w n 0 3 := grownCap_ge w _ _ _
  have hG63 : grownCap w n 0 3 ≤ maxLen := grownCap_le_maxLen w n 0 3 (by unfold maxLen; omega)
  have hz : Builtin.zeroCells (Value.int .i64 0).cells n ++ Builtin.zeroCells (Value.int .i64 0).cells (grownCap w n 0 3 - n) = Builtin.zeroCells (Value.int .i64 0).cells n ++ Builtin.zeroCells (Value.int .i64 0).cells (grownCap w n 0 3 - n) := rfl
  have hsz : (#[] ++ Builtin.zeroCells (Value.int .i64 0).cells n ++ Builtin.zeroCells (Value.int .i64 0).cells (grownCap w n 0 3 - n)).size = grownCap w n 0 3 * 1 := by
    simp [size_zeroCells, Value.cells]; omega
  obtain ⟨G, hG⟩ : ∃ G, G = grownCap w n 0 3 := ⟨_, rfl⟩
  rw [← hG] at hrz hGn hG63 hsz
  obtain ⟨Z, hZ⟩ : ∃ Z, Z = #[] ++ Builtin.zeroCells (Value.int .i64 0).cells n ++ Builtin.zeroCells (Value.int .i64 0).cells (G - n) := ⟨_, rfl⟩
  rw [← hZ] at hrz hsz
  have hown := World.ownsRow_made (base := w.heap.size) (e := 3) (size := 1) w.drew Z G (Nat.le_refl _) hG63 hsz
  have hbw : Below w.heap.size w (w.drew.alloc (.cells Z 3)) := ((Below.refl _ w).drew).alloc (Nat.le_refl _) _
  have HO := Lib.hid hown; clear hown
  have HB := Lib.hid hbw; clear hbw
  have HG : Hid (G ≤ 9223372036854775807) := by show G ≤ _; unfold maxLen at hG63; omega
  have hg63 := HG.out
  have hn0 : (0 : Int) < (n : Int) := by omega
  have hn1 : ¬ ((n : Int) < 0) := by omega
  clear hold hG hZ hsz hz hG63
  go_enter Try.func27, Try.ntmps27
  go_wp2_with (at_builtin; refine Lib.wpList_append_run _ rfl _ _ _ _ rfl _ _ rfl rfl _ _ (hrz _) ?_)
  all_goals (go_ret; exact ⟨_, rfl, HO.out, HB.out⟩)

theorem ownsI_base {w : World} {a b : Nat} {v : Value} {l : List Int} (h : b ≤ a) (hr : RowI w a v l) : RowI w b v l := by
  refine ⟨hr.1, ?_⟩
  rcases hr.2 with h2 | ⟨g, cap, cur, h1, h2, h3⟩
  · exact .inl h2
  · exact .inr ⟨g, cap, cur, h1, Nat.le_trans h h2, h3⟩
def flatL (f : Nat → List Int) : Nat → List Int
  | 0 => []
  | k + 1 => flatL f k ++ f k
set_option maxHeartbeats 4000000 in
set_option maxRecDepth 100000 in
theorem concat3 (g : Nat) (AA : Nat → Option Addr) (nn cc : Nat → Nat) (ll : Nat → List Int) (w : World) (hg : Blk w g (.cells #[.slice (AA 0) (nn 0) (cc 0), .slice (AA 1) (nn 1) (cc 1), .slice (AA 2) (nn 2) (cc 2)] 22 (0, 0)))
    (hl : ∀ k, k < 3 → IsNs w (AA k) (nn k) (ll k)) (hn : ∀ k, k < 3 → nn k ≤ 1000) (h0 : 0 < (flatL ll 3).length) :
    Calls Try.prog 20 #[.slice (some ⟨g, 0, none⟩) 3 3] w (NsPost w (flatL ll 3)) := by
  have HC : Hid (∀ k, k < 3 → w.cell? ⟨g, k, none⟩ = some (.slice (AA k) (nn k) (cc k))) := fun k hk => by
    rcases (by omega : k = 0 ∨ k = 1 ∨ k = 2) with rfl | rfl | rfl
    · exact hg.cell 0
    · exact hg.cell 1
    · exact hg.cell 2
  have hgl := Blk.lt hg
  have HG := Lib.hid hg; clear hg
  have HL := Lib.hid hl; clear hl
  have HK := Lib.hid hn; clear hn
  have HW : Hid (∀ k, k ≤ 3 → IntsWf (flatL ll k)) := fun k => by
    induction k with
    | zero => intro _ z hz; simp [flatL] at hz
    | succ k ih =>
      intro hk z hz
      rw [flatL, List.mem_append] at hz
      rcases hz with h | h
      · exact ih (by omega) z h
      · exact (HL.out k (by omega)).2.2.1 z h
  have HS : Hid (∀ k, k < 3 → (flatL ll (k + 1)).length = (flatL ll k).length + nn k) := fun k hk => by rw [flatL, List.length_append, (HL.out k hk).1]
  have HM : Hid (∀ k, k ≤ 3 → (flatL ll k).length ≤ 1000 * k) := fun k => by
    induction k with
    | zero => intro _; simp [flatL]
    | succ k ih => intro hk; have := HS.out k (by omega); have := HK.out k (by omega); have := ih (by omega); omega
  have HZ := Lib.hid h0; clear h0
  go_enter Try.func20, Try.ntmps20
  go_wp2_with fail
  go_loopw [3, 11] (fun s i wr => ∃ k : Nat, k ≤ 3 ∧ s = .int .i64 ((flatL ll k).length : Nat) ∧ i = .int .i64 k ∧ Below w.heap.size w wr) (fun _ i _ => 3 - (Lib.intOf i).toNat)
  case atStart => exact ⟨0, by omega, rfl, rfl, Below.refl _ _⟩
  case round =>
    obtain ⟨k, hk, rfl, rfl, hb⟩ := hrel
    have HB := Lib.hid hb; clear hb
    by_cases hlt : k < 3
    · have c0 := (HB.out.cell (p := ⟨g, k, none⟩) hgl).trans (HC.out k hlt)
      have h1 := HS.out k hlt
      have h2 := HM.out (k + 1) (by omega)
      have h3 := HK.out k hlt
      generalize (flatL ll k).length = a at *
      obtain ⟨b, hb⟩ : ∃ b, (flatL ll (k + 1)).length = b := ⟨_, rfl⟩
      rw [hb] at h1 h2
      have hwr : IntKind.i64.wrap ((a : Int) + (nn k : Int)) = (b : Int) := by rw [IntWalk.i64_in _ (by omega)]; omega
      have HBB := Lib.hid hb; clear hb
      have h4 : ¬ ((b : Int) < 0) := by omega
      generalize nn k = m at *
      generalize AA k = A at *
      generalize cc k = c at *
      clear h1 h2 h3
      go_wp2_with fail
      go_roundw
      case rel => exact ⟨k + 1, by omega, by rw [HBB.out], by go_num, by first | exact HB.out | exact HB.out.drew | exact bdn HB.out _⟩
      case measure => simp [Lib.intOf]; omega
    · have hke : k = 3 := by omega
      subst hke
      have hm := HM.out 3 (by omega)
      have hz := HZ.out
      have qg := fun W => grow_nil (flatL ll 3).length W hz (by omega)
      generalize (flatL ll 3).length = a at *
      go_wp2_with fail
      ((with_reducible refine (qg _).mono ?_); rintro e W1 ⟨v, rfl, hrow, b1⟩)
      clear qg
      have HB1 := Lib.hid (bch HB.out b1); clear b1
      have HRO : Hid (RowI W1 w.heap.size v (flatL ll 0)) := ownsI_base HB.out.size hrow
      clear hrow HB
      go_wp2_with fail
      go_loopw [6, 27] (fun s i wr => ∃ k : Nat, k ≤ 3 ∧ RowI wr w.heap.size s (flatL ll k) ∧ i = .int .i64 k ∧ Below w.heap.size w wr) (fun _ i _ => 3 - (Lib.intOf i).toNat)
      case atStart => exact ⟨0, by omega, HRO.out, rfl, HB1.out⟩
      case round =>
        obtain ⟨k, hk, hrow, rfl, hb⟩ := hrel
        clear HB1 HRO
        have HB := Lib.hid hb; clear hb
        have HRO := Lib.hid hrow; clear hrow
        by_cases hlt : k < 3
        · have c0 := (HB.out.cell (p := ⟨g, k, none⟩) hgl).trans (HC.out k hlt)
          go_wp2_with (at_builtin; refine wpList_append_ints rfl _ _ rfl w.heap.size _ (flatL ll k) rfl (by first | exact HRO.out | exact HRO.out.drew) (AA k) (nn k) (cc k) (ll k) rfl ((HL.out k hlt).below (by first | exact HB.out | exact HB.out.drew)) (by have := HM.out k (by omega); have := HK.out k hlt; omega) HB.out.size ?_)
          intro v' w1 hrow1 hgrow
          have hb1 : Below w.heap.size w w1 := HB.out.grown hgrow HB.out.size (fun x hx => (HRO.out.lt x hx).1)
          have HR1 := Lib.hid hrow1; clear hrow1
          have HB1 := Lib.hid hb1; clear hb1
          go_wp2_with fail
          go_roundw
          case rel => exact ⟨k + 1, by omega, HR1.out, by go_num, HB1.out⟩
          case measure => simp [Lib.intOf]; omega
        · have hke : k = 3 := by omega
          subst hke
          obtain ⟨A2, cap2, hv, hcap, hns⟩ := HRO.out.isNs (HW.out 3 (by omega))
          subst hv
          go_wp2_with fail
          go_ret
          exact ⟨A2, _, cap2, rfl, hcap, hns, HRO.out.new, HB.out⟩
end Go.Proofs.Ytcifcpggiifjeaa
