import Derived.Test.YtnfpfcbbbabckaaSumAwake
import Derived.Test.YtnfpfcbbbabckaaGPick
import Derived.IntWalk
import Derived.BigRegion
import Derived.Deep.DeepCutAuto
/-
  The walk of the law SumChanged.
-/
namespace Go.Proofs.Ytnfpfcbbbabckaa
open Go.RowKit
set_option linter.unusedVariables false

/-- A block whose first cells are these bytes. -/
def RowB (W : World) (B : Nat) (l : List UInt8) : Prop :=
  ∃ (cs : Array Value) (t : TypeId) (fr : Nat × Nat), W.heap[B]? = some (.cells cs t fr) ∧ l.length ≤ fr.1 ∧ ∀ p (h : p < l.length), cs[p]? = some (.int .u8 (l[p].toNat : Int))
theorem RowB.cell {W : World} {B : Nat} {l : List UInt8} (h : RowB W B l) (p : Nat) (hp : p < l.length) : W.cell? ⟨B, p, none⟩ = some (.int .u8 (l[p].toNat : Int)) := by
  obtain ⟨cs, t, fr, hb, _, hc⟩ := h
  rw [cell_blk hb]; exact hc p hp
theorem RowB.frozen {W : World} {B : Nat} {l : List UInt8} (h : RowB W B l) (p : Nat) (hp : p < l.length) : W.frozen? ⟨B, p, none⟩ = false := by
  obtain ⟨cs, t, ⟨f1, f2⟩, hb, hf, hc⟩ := h
  have hf' : l.length ≤ f1 := hf
  simp [World.frozen?, hb]
  omega
theorem RowB.put {W : World} {B : Nat} {l : List UInt8} (h : RowB W B l) (p : Nat) (hp : p < l.length) (b : UInt8) : RowB (W.setCell ⟨B, p, none⟩ (.int .u8 (b.toNat : Int))) B (l.set p b) := by
  obtain ⟨cs, t, fr, hb, hf, hc⟩ := h
  refine ⟨cs.setIfInBounds p (.int .u8 (b.toNat : Int)), t, fr, by simp [World.setCell, Array.getElem?_modify, hb], by simpa using hf, fun q hq => ?_⟩
  have hq' : q < l.length := by simpa using hq
  have hps : p < cs.size := by
    have h1 := hc p hp
    exact (Array.getElem?_eq_some_iff.1 h1).1
  by_cases e : p = q
  · subst e
    simp [Array.getElem?_setIfInBounds_self_of_lt hps]
  · rw [Array.getElem?_setIfInBounds_ne e, hc q hq', List.getElem_set_ne e]
theorem RowB.drew {W : World} {B : Nat} {l : List UInt8} (h : RowB W B l) : RowB W.drew B l := h
theorem rowB_new (w : World) (T : ByteArray) (cap : Nat) (e : TypeId) : RowB (w.drew.alloc (.cells (bytesRow T cap) e ((bytesRow T cap).size, (bytesRow T cap).size + 1))) w.heap.size T.data.toList := by
  refine ⟨bytesRow T cap, e, ((bytesRow T cap).size, (bytesRow T cap).size + 1), ?_, ?_, fun p hp => ?_⟩
  · show (w.heap.push _)[w.heap.size]? = _
    simp
  · show T.data.toList.length ≤ (bytesRow T cap).size
    simp [bytesRow]
  · have hp' : p < T.data.size := by simpa using hp
    have hs : p < T.size := hp'
    simp [bytesRow, Array.getElem?_append, hs]
theorem rowB_text {W : World} {B cap n : Nat} {l : List UInt8} (h : RowB W B l) (hn : n = l.length) :
    (convert 27 9 (.slice (some ⟨B, 0, none⟩) n cap)).run Try.prog W = .ok (.string (bs l)) W := by
  subst hn
  exact run_convert_bytes_back W _ _ 5 ⟨B, 0, none⟩ cap l Try.underlying27 Try.underlying5 Try.underlying9 (fun j hj => by
    rw [show (⟨B, 0, none⟩ : Addr).add j = ⟨B, j, none⟩ from by by_cases hz : j = 0 <;> simp [Addr.add, hz]]; exact h.cell j hj)
theorem text_bytes (T : ByteArray) (w : World) : (convert 9 27 (.string T)).run Try.prog w = .ok (.slice (some ⟨w.heap.size, 0, none⟩) T.size (grownCap w T.size 0 5))
      (w.drew.alloc (.cells (bytesRow T (grownCap w T.size 0 5)) 5 ((bytesRow T (grownCap w T.size 0 5)).size, (bytesRow T (grownCap w T.size 0 5)).size + 1))) :=
  run_bytes_of_string w _ _ _ T Try.underlying9 Try.underlying27 Try.underlying5

/-- What is put to the j-th of four bytes. -/
def byX (x j : Nat) : UInt8 := (x / 256 ^ j % 256).toUInt8
/-- A text's bytes from k on, the first j of four changed. -/
def chg (l : List UInt8) (k x : Nat) : Nat → List UInt8
  | 0 => l
  | j + 1 => (chg l k x j).set (k + j) ((chg l k x j).getD (k + j) 0 ^^^ byX x j)
theorem chg_len (l : List UInt8) (k x : Nat) : ∀ j, (chg l k x j).length = l.length
  | 0 => rfl
  | j + 1 => by rw [chg, List.length_set]; exact chg_len l k x j
theorem chg_four (u v : List UInt8) (c0 c1 c2 c3 : UInt8) (x : Nat) :
    chg (u ++ ([c0, c1, c2, c3] ++ v)) u.length x 4 = u ++ ([c0 ^^^ (x % 256).toUInt8, c1 ^^^ (x / 256 % 256).toUInt8, c2 ^^^ (x / 65536 % 256).toUInt8, c3 ^^^ (x / 16777216 % 256).toUInt8] ++ v) := by
  simp [chg, byX, List.getD_eq_getElem?_getD]
theorem four_at (l : List UInt8) (k : Nat) (h : k + 4 ≤ l.length) : ∃ u v c0 c1 c2 c3, l = u ++ ([c0, c1, c2, c3] ++ v) ∧ u.length = k := by
  obtain ⟨r, hr⟩ : ∃ r, l.drop k = r := ⟨_, rfl⟩
  have hl : 4 ≤ r.length := by rw [← hr, List.length_drop]; omega
  match r, hl with
  | c0 :: c1 :: c2 :: c3 :: v, _ => exact ⟨l.take k, v, c0, c1, c2, c3, by
      have := List.take_append_drop k l
      rw [hr] at this
      exact this.symm, by rw [List.length_take]; omega⟩
theorem sum_chg (l : List UInt8) (k x : Nat) (h : k + 4 ≤ l.length) (hx : x < 4294967296) : sumR (chg l k x 4) = sumR l ↔ x = 0 := by
  obtain ⟨u, v, c0, c1, c2, c3, rfl, rfl⟩ := four_at l k h
  rw [chg_four]
  exact sum_changed u v c0 c1 c2 c3 hx

theorem chg_step {W : World} {B k x j q c : Nat} {L : List UInt8} (h : RowB W B (chg L k x j)) (hk : k + j = q) (hq : q < (chg L k x j).length) (hc : (chg L k x j)[q].toNat = c) {D : Int} (hD : D = ((x / 256 ^ j % 256 : Nat) : Int)) :
    RowB (W.setCell ⟨B, q, none⟩ (.int .u8 (bits .xor .u8 (c : Int) D))).drew B (chg L k x (j + 1)) := by
  subst hk
  subst hc
  subst hD
  have h1 := h.put (k + j) hq ((chg L k x j)[k + j] ^^^ byX x j)
  have h2 : bits .xor .u8 (((chg L k x j)[k + j].toNat : Nat) : Int) ((x / 256 ^ j % 256 : Nat) : Int) = ((((chg L k x j)[k + j] ^^^ byX x j).toNat : Nat) : Int) := by
    rw [u8_xor_nat _ _ (UInt8.toNat_lt _) (by omega), UInt8.toNat_xor]
    unfold byX
    rw [toU8]
  rw [← h2] at h1
  have h3 : chg L k x (j + 1) = (chg L k x j).set (k + j) ((chg L k x j)[k + j] ^^^ byX x j) := by
    show (chg L k x j).set (k + j) ((chg L k x j).getD (k + j) 0 ^^^ byX x j) = _
    rw [List.getD_eq_getElem?_getD, List.getElem?_eq_getElem hq]
    rfl
  rw [h3]
  exact h1.drew

set_option maxRecDepth 100000 in
set_option maxHeartbeats 4000000 in
theorem changed_long (s : ByteArray) (a1 a2 : Int) (w : World) (hs : s.size ≤ 140737488351232) (w1 : (Lit.int .i64 a1).wf = true) (w2 : (Lit.int .i64 a2).wf = true) (hl : 3000 < s.size) :
    Calls Try.prog 4 #[.string s, .int .i64 a1, .int .i64 a2] w fun e w' => e = .returned (.bool true) ∧ Below w.heap.size w w' := by
  obtain ⟨A, hA⟩ : ∃ A, s.extract 0 3000 = A := ⟨_, rfl⟩
  have hAs : A.size ≤ 3000 := by rw [← hA, ByteArray.size_extract]; omega
  have hsl : ∀ W : World, (Instr.slice 9 (.string s) none (some (.int .i64 3000)) none).run Try.prog W = .ok (.string A) W := fun W => slice_to hA (by omega) W
  clear hA
  obtain ⟨T, hT⟩ : ∃ T, A ++ ⟨#[97, 98, 99, 100]⟩ = T := ⟨_, rfl⟩
  have hTs : T.size = A.size + 4 := by rw [← hT]; exact ByteArray.size_append
  have hadd : ∀ W : World, (Op.stringOp .add A ⟨#[97, 98, 99, 100]⟩).run Try.prog W = .ok (.string T) W := fun W => by rw [str_add (by show A.size + 4 ≤ _; omega), hT]
  have htb := text_bytes T
  have hT4 : 4 ≤ T.size := by omega
  have hT9 : T.size ≤ 3004 := by omega
  have hw3 : IntKind.i64.wrap ((T.size : Int) - 3) = (T.size : Int) - 3 := IntWalk.i64_in _ (by omega)
  have p1 := pickS_nat a1 ((T.size : Int) - 3) (by omega) (by omega) w1
  have p2 := pickS_nat a2 4294967296 (by omega) (by omega) w2
  have k1 := pickN_lt a1 ((T.size : Int) - 3) (by omega)
  have k2 := pickN_lt a2 4294967296 (by omega)
  generalize pickN a1 ((T.size : Int) - 3) = k at p1 k1
  generalize pickN a2 4294967296 = x at p2 k2
  have hx : x < 4294967296 := by omega
  obtain ⟨L, hL⟩ : ∃ L, T.data.toList = L := ⟨_, rfl⟩
  have hTl : L.length = T.size := by rw [← hL]; simp
  have hk4 : k + 4 ≤ L.length := by omega
  have hsc := sum_chg L k x hk4 hx
  obtain ⟨u1, hu1⟩ : ∃ u, sumR (chg L k x 4) = u := ⟨_, rfl⟩
  obtain ⟨u2, hu2⟩ : ∃ u, sumR L = u := ⟨_, rfl⟩
  have o1 := of_list (S := bs (chg L k x 4)) (bs_data _) hu1 (by rw [bs_size, chg_len]; omega)
  have o2 := of_list hL hu2 (by omega)
  rw [hu1, hu2] at hsc
  have g1 := beqI (c := x) (d := 0) hsc
  replace g1 : ((u1 : Int) == (u2 : Int)) = ((x : Int) == 0) := g1
  obtain ⟨b, hb⟩ : ∃ b, ((x : Int) == 0) = b := ⟨_, rfl⟩
  rw [hb] at g1
  have hz4 : L.length = T.size := hTl
  have HX := Lib.hid hx; clear hx k2
  have HT := Lib.hid hTl; clear hTl
  have HK := Lib.hid hk4; clear hk4
  have HZ := Lib.hid hz4; clear hz4
  have HL := Lib.hid hL; clear hL
  clear hT hTs hAs hsc hu1 hu2
  go_enter Try.func4, Try.ntmps4
  go_wp2_with fail
  ((with_reducible refine (awake5_any _).mono ?_); rintro e W1 ⟨rfl, b1⟩)
  go_wp2_with fail
  ((with_reducible refine (p1 _).mono ?_); rintro e W ⟨rfl, rfl⟩)
  go_wp2_with fail
  ((with_reducible refine (p2 _).mono ?_); rintro e W ⟨rfl, rfl⟩)
  go_wp2_with fail
  have hrow0 := rowB_new W1 T (grownCap W1 T.size 0 5) 5
  have hB0 : Below w.heap.size w (W1.alloc (.cells (bytesRow T (grownCap W1 T.size 0 5)) 5 ((bytesRow T (grownCap W1 T.size 0 5)).size, (bytesRow T (grownCap W1 T.size 0 5)).size + 1))).drew := (b1.alloc b1.size _).drew
  have hBs : w.heap.size ≤ W1.heap.size := b1.size
  obtain ⟨W2, hW2⟩ : ∃ W, (W1.alloc (.cells (bytesRow T (grownCap W1 T.size 0 5)) 5 ((bytesRow T (grownCap W1 T.size 0 5)).size, (bytesRow T (grownCap W1 T.size 0 5)).size + 1))).drew = W := ⟨_, rfl⟩
  rw [hW2] at hB0
  rw [HL.out] at hrow0
  replace hrow0 : RowB W2 W1.heap.size L := by rw [← hW2]; exact hrow0
  rw [hW2]
  clear hW2 b1 hsl htb p1 p2
  generalize grownCap W1 T.size 0 5 = cap
  generalize W1.heap.size = B at *
  have HBS := Lib.hid hBs; clear hBs
  have HR := Lib.hid hrow0; clear hrow0
  have HB := Lib.hid hB0; clear hB0
  go_loopw [11] (fun i wr => ∃ j : Nat, j ≤ 4 ∧ i = .int .i64 j ∧ RowB wr B (chg L k x j) ∧ Below w.heap.size w wr) (fun i _ => 4 - (intOf i).toNat)
  case atStart => exact ⟨0, by omega, rfl, HR.out, HB.out⟩
  case round =>
    obtain ⟨j, hj, rfl, hrow, hB⟩ := hrel
    rcases (show j = 4 ∨ j = 0 ∨ j = 1 ∨ j = 2 ∨ j = 3 by omega) with rfl | rfl | rfl | rfl | rfl
    · have hcv := rowB_text (cap := cap) (n := T.size) hrow (by rw [chg_len]; exact HT.out.symm)
      clear hrow
      go_wp2_with fail
      ((with_reducible refine (o1 _).mono ?_); rintro e W ⟨rfl, rfl⟩)
      go_wp2_with fail
      ((with_reducible refine (o2 _).mono ?_); rintro e W ⟨rfl, rfl⟩)
      go_wp2_with fail
      go_ret
      exact ⟨rfl, hB⟩
    · have hq : k + 0 < (chg L k x 0).length := by rw [chg_len]; have := HK.out; omega
      obtain ⟨q, hqq⟩ : ∃ q, k + 0 = q := ⟨_, rfl⟩
      have HQ := Lib.hid hqq
      rw [hqq] at hq
      have hc := hrow.cell _ hq
      have hf := hrow.frozen _ hq
      have hsum : (k : Int) + 0 = (q : Int) := by omega
      have hwrap : IntKind.i64.wrap ((k : Int) + 0) = (q : Int) := by rw [hsum]; exact IntWalk.i64_in _ (by omega)
      have hqs : (q : Int) < (T.size : Int) := by omega
      obtain ⟨c, hcc⟩ : ∃ c, (chg L k x 0)[q].toNat = c := ⟨_, rfl⟩
      rw [hcc] at hc
      have hst := chg_step (D := (x : Int) % 256) hrow hqq hq hcc (by omega)
      have HS := Lib.hid hst; clear hst hqq hcc hrow
      go_wp2_with fail
      go_region
      go_wp2_with fail
      go_roundw
      case rel => exact ⟨1, by omega, rfl, HS.out, (hB.setCell (p := ⟨B, q, none⟩) HBS.out _).drew⟩
      case measure => simp [intOf]
    · have hq : k + 1 < (chg L k x 1).length := by rw [chg_len]; have := HK.out; omega
      obtain ⟨q, hqq⟩ : ∃ q, k + 1 = q := ⟨_, rfl⟩
      have HQ := Lib.hid hqq
      rw [hqq] at hq
      have hc := hrow.cell _ hq
      have hf := hrow.frozen _ hq
      have hsum : (k : Int) + 1 = (q : Int) := by omega
      have hwrap : IntKind.i64.wrap ((k : Int) + 1) = (q : Int) := by rw [hsum]; exact IntWalk.i64_in _ (by omega)
      have hqs : (q : Int) < (T.size : Int) := by omega
      obtain ⟨c, hcc⟩ : ∃ c, (chg L k x 1)[q].toNat = c := ⟨_, rfl⟩
      rw [hcc] at hc
      have hst := chg_step (D := (x : Int) / 256 % 256) hrow hqq hq hcc (by omega)
      have HS := Lib.hid hst; clear hst hqq hcc hrow
      go_wp2_with fail
      go_region
      go_wp2_with fail
      go_roundw
      case rel => exact ⟨2, by omega, rfl, HS.out, (hB.setCell (p := ⟨B, q, none⟩) HBS.out _).drew⟩
      case measure => simp [intOf]
    · have hq : k + 2 < (chg L k x 2).length := by rw [chg_len]; have := HK.out; omega
      obtain ⟨q, hqq⟩ : ∃ q, k + 2 = q := ⟨_, rfl⟩
      have HQ := Lib.hid hqq
      rw [hqq] at hq
      have hc := hrow.cell _ hq
      have hf := hrow.frozen _ hq
      have hsum : (k : Int) + 2 = (q : Int) := by omega
      have hwrap : IntKind.i64.wrap ((k : Int) + 2) = (q : Int) := by rw [hsum]; exact IntWalk.i64_in _ (by omega)
      have hqs : (q : Int) < (T.size : Int) := by omega
      obtain ⟨c, hcc⟩ : ∃ c, (chg L k x 2)[q].toNat = c := ⟨_, rfl⟩
      rw [hcc] at hc
      have hst := chg_step (D := (x : Int) / 65536 % 256) hrow hqq hq hcc (by omega)
      have HS := Lib.hid hst; clear hst hqq hcc hrow
      go_wp2_with fail
      go_region
      go_wp2_with fail
      go_roundw
      case rel => exact ⟨3, by omega, rfl, HS.out, (hB.setCell (p := ⟨B, q, none⟩) HBS.out _).drew⟩
      case measure => simp [intOf]
    · have hq : k + 3 < (chg L k x 3).length := by rw [chg_len]; have := HK.out; omega
      obtain ⟨q, hqq⟩ : ∃ q, k + 3 = q := ⟨_, rfl⟩
      have HQ := Lib.hid hqq
      rw [hqq] at hq
      have hc := hrow.cell _ hq
      have hf := hrow.frozen _ hq
      have hsum : (k : Int) + 3 = (q : Int) := by omega
      have hwrap : IntKind.i64.wrap ((k : Int) + 3) = (q : Int) := by rw [hsum]; exact IntWalk.i64_in _ (by omega)
      have hqs : (q : Int) < (T.size : Int) := by omega
      obtain ⟨c, hcc⟩ : ∃ c, (chg L k x 3)[q].toNat = c := ⟨_, rfl⟩
      rw [hcc] at hc
      have hst := chg_step (D := (x : Int) / 16777216 % 256) hrow hqq hq hcc (by omega)
      have HS := Lib.hid hst; clear hst hqq hcc hrow
      go_wp2_with fail
      go_region
      go_wp2_with fail
      go_roundw
      case rel => exact ⟨4, by omega, rfl, HS.out, (hB.setCell (p := ⟨B, q, none⟩) HBS.out _).drew⟩
      case measure => simp [intOf]

set_option maxRecDepth 100000 in
set_option maxHeartbeats 4000000 in
theorem changed_short (s : ByteArray) (a1 a2 : Int) (w : World) (hs : s.size ≤ 140737488351232) (w1 : (Lit.int .i64 a1).wf = true) (w2 : (Lit.int .i64 a2).wf = true) (hl : s.size ≤ 3000) :
    Calls Try.prog 4 #[.string s, .int .i64 a1, .int .i64 a2] w fun e w' => e = .returned (.bool true) ∧ Below w.heap.size w w' := by
  have hAs : s.size ≤ 3000 := hl
  obtain ⟨T, hT⟩ : ∃ T, s ++ ⟨#[97, 98, 99, 100]⟩ = T := ⟨_, rfl⟩
  have hTs : T.size = s.size + 4 := by rw [← hT]; exact ByteArray.size_append
  have hadd : ∀ W : World, (Op.stringOp .add s ⟨#[97, 98, 99, 100]⟩).run Try.prog W = .ok (.string T) W := fun W => by rw [str_add (by show s.size + 4 ≤ _; omega), hT]
  have htb := text_bytes T
  have hT4 : 4 ≤ T.size := by omega
  have hT9 : T.size ≤ 3004 := by omega
  have hw3 : IntKind.i64.wrap ((T.size : Int) - 3) = (T.size : Int) - 3 := IntWalk.i64_in _ (by omega)
  have p1 := pickS_nat a1 ((T.size : Int) - 3) (by omega) (by omega) w1
  have p2 := pickS_nat a2 4294967296 (by omega) (by omega) w2
  have k1 := pickN_lt a1 ((T.size : Int) - 3) (by omega)
  have k2 := pickN_lt a2 4294967296 (by omega)
  generalize pickN a1 ((T.size : Int) - 3) = k at p1 k1
  generalize pickN a2 4294967296 = x at p2 k2
  have hx : x < 4294967296 := by omega
  obtain ⟨L, hL⟩ : ∃ L, T.data.toList = L := ⟨_, rfl⟩
  have hTl : L.length = T.size := by rw [← hL]; simp
  have hk4 : k + 4 ≤ L.length := by omega
  have hsc := sum_chg L k x hk4 hx
  obtain ⟨u1, hu1⟩ : ∃ u, sumR (chg L k x 4) = u := ⟨_, rfl⟩
  obtain ⟨u2, hu2⟩ : ∃ u, sumR L = u := ⟨_, rfl⟩
  have o1 := of_list (S := bs (chg L k x 4)) (bs_data _) hu1 (by rw [bs_size, chg_len]; omega)
  have o2 := of_list hL hu2 (by omega)
  rw [hu1, hu2] at hsc
  have g1 := beqI (c := x) (d := 0) hsc
  replace g1 : ((u1 : Int) == (u2 : Int)) = ((x : Int) == 0) := g1
  obtain ⟨b, hb⟩ : ∃ b, ((x : Int) == 0) = b := ⟨_, rfl⟩
  rw [hb] at g1
  have hz4 : L.length = T.size := hTl
  have HX := Lib.hid hx; clear hx k2
  have HT := Lib.hid hTl; clear hTl
  have HK := Lib.hid hk4; clear hk4
  have HZ := Lib.hid hz4; clear hz4
  have HL := Lib.hid hL; clear hL
  clear hT hTs hAs hsc hu1 hu2
  go_enter Try.func4, Try.ntmps4
  go_wp2_with fail
  ((with_reducible refine (awake5_any _).mono ?_); rintro e W1 ⟨rfl, b1⟩)
  go_wp2_with fail
  ((with_reducible refine (p1 _).mono ?_); rintro e W ⟨rfl, rfl⟩)
  go_wp2_with fail
  ((with_reducible refine (p2 _).mono ?_); rintro e W ⟨rfl, rfl⟩)
  go_wp2_with fail
  have hrow0 := rowB_new W1 T (grownCap W1 T.size 0 5) 5
  have hB0 : Below w.heap.size w (W1.alloc (.cells (bytesRow T (grownCap W1 T.size 0 5)) 5 ((bytesRow T (grownCap W1 T.size 0 5)).size, (bytesRow T (grownCap W1 T.size 0 5)).size + 1))).drew := (b1.alloc b1.size _).drew
  have hBs : w.heap.size ≤ W1.heap.size := b1.size
  obtain ⟨W2, hW2⟩ : ∃ W, (W1.alloc (.cells (bytesRow T (grownCap W1 T.size 0 5)) 5 ((bytesRow T (grownCap W1 T.size 0 5)).size, (bytesRow T (grownCap W1 T.size 0 5)).size + 1))).drew = W := ⟨_, rfl⟩
  rw [hW2] at hB0
  rw [HL.out] at hrow0
  replace hrow0 : RowB W2 W1.heap.size L := by rw [← hW2]; exact hrow0
  rw [hW2]
  clear hW2 b1 htb p1 p2
  generalize grownCap W1 T.size 0 5 = cap
  generalize W1.heap.size = B at *
  have HBS := Lib.hid hBs; clear hBs
  have HR := Lib.hid hrow0; clear hrow0
  have HB := Lib.hid hB0; clear hB0
  go_loopw [11] (fun i wr => ∃ j : Nat, j ≤ 4 ∧ i = .int .i64 j ∧ RowB wr B (chg L k x j) ∧ Below w.heap.size w wr) (fun i _ => 4 - (intOf i).toNat)
  case atStart => exact ⟨0, by omega, rfl, HR.out, HB.out⟩
  case round =>
    obtain ⟨j, hj, rfl, hrow, hB⟩ := hrel
    rcases (show j = 4 ∨ j = 0 ∨ j = 1 ∨ j = 2 ∨ j = 3 by omega) with rfl | rfl | rfl | rfl | rfl
    · have hcv := rowB_text (cap := cap) (n := T.size) hrow (by rw [chg_len]; exact HT.out.symm)
      clear hrow
      go_wp2_with fail
      ((with_reducible refine (o1 _).mono ?_); rintro e W ⟨rfl, rfl⟩)
      go_wp2_with fail
      ((with_reducible refine (o2 _).mono ?_); rintro e W ⟨rfl, rfl⟩)
      go_wp2_with fail
      go_ret
      exact ⟨rfl, hB⟩
    · have hq : k + 0 < (chg L k x 0).length := by rw [chg_len]; have := HK.out; omega
      obtain ⟨q, hqq⟩ : ∃ q, k + 0 = q := ⟨_, rfl⟩
      have HQ := Lib.hid hqq
      rw [hqq] at hq
      have hc := hrow.cell _ hq
      have hf := hrow.frozen _ hq
      have hsum : (k : Int) + 0 = (q : Int) := by omega
      have hwrap : IntKind.i64.wrap ((k : Int) + 0) = (q : Int) := by rw [hsum]; exact IntWalk.i64_in _ (by omega)
      have hqs : (q : Int) < (T.size : Int) := by omega
      obtain ⟨c, hcc⟩ : ∃ c, (chg L k x 0)[q].toNat = c := ⟨_, rfl⟩
      rw [hcc] at hc
      have hst := chg_step (D := (x : Int) % 256) hrow hqq hq hcc (by omega)
      have HS := Lib.hid hst; clear hst hqq hcc hrow
      go_wp2_with fail
      go_region
      go_wp2_with fail
      go_roundw
      case rel => exact ⟨1, by omega, rfl, HS.out, (hB.setCell (p := ⟨B, q, none⟩) HBS.out _).drew⟩
      case measure => simp [intOf]
    · have hq : k + 1 < (chg L k x 1).length := by rw [chg_len]; have := HK.out; omega
      obtain ⟨q, hqq⟩ : ∃ q, k + 1 = q := ⟨_, rfl⟩
      have HQ := Lib.hid hqq
      rw [hqq] at hq
      have hc := hrow.cell _ hq
      have hf := hrow.frozen _ hq
      have hsum : (k : Int) + 1 = (q : Int) := by omega
      have hwrap : IntKind.i64.wrap ((k : Int) + 1) = (q : Int) := by rw [hsum]; exact IntWalk.i64_in _ (by omega)
      have hqs : (q : Int) < (T.size : Int) := by omega
      obtain ⟨c, hcc⟩ : ∃ c, (chg L k x 1)[q].toNat = c := ⟨_, rfl⟩
      rw [hcc] at hc
      have hst := chg_step (D := (x : Int) / 256 % 256) hrow hqq hq hcc (by omega)
      have HS := Lib.hid hst; clear hst hqq hcc hrow
      go_wp2_with fail
      go_region
      go_wp2_with fail
      go_roundw
      case rel => exact ⟨2, by omega, rfl, HS.out, (hB.setCell (p := ⟨B, q, none⟩) HBS.out _).drew⟩
      case measure => simp [intOf]
    · have hq : k + 2 < (chg L k x 2).length := by rw [chg_len]; have := HK.out; omega
      obtain ⟨q, hqq⟩ : ∃ q, k + 2 = q := ⟨_, rfl⟩
      have HQ := Lib.hid hqq
      rw [hqq] at hq
      have hc := hrow.cell _ hq
      have hf := hrow.frozen _ hq
      have hsum : (k : Int) + 2 = (q : Int) := by omega
      have hwrap : IntKind.i64.wrap ((k : Int) + 2) = (q : Int) := by rw [hsum]; exact IntWalk.i64_in _ (by omega)
      have hqs : (q : Int) < (T.size : Int) := by omega
      obtain ⟨c, hcc⟩ : ∃ c, (chg L k x 2)[q].toNat = c := ⟨_, rfl⟩
      rw [hcc] at hc
      have hst := chg_step (D := (x : Int) / 65536 % 256) hrow hqq hq hcc (by omega)
      have HS := Lib.hid hst; clear hst hqq hcc hrow
      go_wp2_with fail
      go_region
      go_wp2_with fail
      go_roundw
      case rel => exact ⟨3, by omega, rfl, HS.out, (hB.setCell (p := ⟨B, q, none⟩) HBS.out _).drew⟩
      case measure => simp [intOf]
    · have hq : k + 3 < (chg L k x 3).length := by rw [chg_len]; have := HK.out; omega
      obtain ⟨q, hqq⟩ : ∃ q, k + 3 = q := ⟨_, rfl⟩
      have HQ := Lib.hid hqq
      rw [hqq] at hq
      have hc := hrow.cell _ hq
      have hf := hrow.frozen _ hq
      have hsum : (k : Int) + 3 = (q : Int) := by omega
      have hwrap : IntKind.i64.wrap ((k : Int) + 3) = (q : Int) := by rw [hsum]; exact IntWalk.i64_in _ (by omega)
      have hqs : (q : Int) < (T.size : Int) := by omega
      obtain ⟨c, hcc⟩ : ∃ c, (chg L k x 3)[q].toNat = c := ⟨_, rfl⟩
      rw [hcc] at hc
      have hst := chg_step (D := (x : Int) / 16777216 % 256) hrow hqq hq hcc (by omega)
      have HS := Lib.hid hst; clear hst hqq hcc hrow
      go_wp2_with fail
      go_region
      go_wp2_with fail
      go_roundw
      case rel => exact ⟨4, by omega, rfl, HS.out, (hB.setCell (p := ⟨B, q, none⟩) HBS.out _).drew⟩
      case measure => simp [intOf]

theorem sumChanged_walk (s : ByteArray) (a1 a2 : Int) (w : World) (hs : s.size ≤ 140737488351232) (w1 : (Lit.int .i64 a1).wf = true) (w2 : (Lit.int .i64 a2).wf = true) :
    Calls Try.prog 4 #[.string s, .int .i64 a1, .int .i64 a2] w fun e w' => e = .returned (.bool true) ∧ Below w.heap.size w w' := by
  by_cases hl : 3000 < s.size
  · exact changed_long s a1 a2 w hs w1 w2 hl
  · exact changed_short s a1 a2 w hs w1 w2 (by omega)
end Go.Proofs.Ytnfpfcbbbabckaa
