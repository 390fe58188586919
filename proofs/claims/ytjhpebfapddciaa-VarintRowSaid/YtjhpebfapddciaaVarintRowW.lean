/-
  The walk of the law VarintRow: for every slice of integers it returns true, and nothing that was in memory changes.
-/
import Derived.Test.YtjhpebfapddciaaStr
namespace Go.Proofs.Ytjhpebfapddciaa
open Go.RowKit
set_option linter.unusedVariables false

/-- The bytes of c numbers, from the i-th on. -/
def catR (f : Nat → Nat) (i : Nat) : Nat → List UInt8
  | 0 => []
  | c + 1 => vb (f i) ++ catR f (i + 1) c
theorem catR_snoc (f : Nat → Nat) (i c : Nat) : catR f i (c + 1) = catR f i c ++ vb (f (i + c)) := by
  induction c generalizing i with
  | zero => simp [catR]
  | succ c ih => rw [catR, ih (i + 1), ← List.append_assoc, catR]; congr 3; omega
theorem catR_len (f : Nat → Nat) (hf : ∀ k, f k ≤ 9007199254740992) (i c : Nat) : (catR f i c).length ≤ 8 * c := by
  induction c generalizing i with
  | zero => simp [catR]
  | succ c ih => rw [catR, List.length_append]; have := ih (i + 1); have := vb_len8 (hf i); omega

set_option maxRecDepth 100000 in
set_option maxHeartbeats 2000000 in
theorem varintRow_small (b off len0 cap0 : Nat) (g : Nat → Int) (w : World) (hN : len0 ≤ 20) (hl : len0 ≤ 9223372036854775807) (hc : ∀ k, k < len0 → w.cell? ⟨b, off + k, none⟩ = some (.int .i64 (g k))) (hw : ∀ k, k < len0 → (Lit.int .i64 (g k)).wf = true) (hb : 0 < len0 → b < w.heap.size) :
    Calls Try.prog 7 #[.slice (some ⟨b, off, none⟩) len0 cap0] w fun e w' => e = .returned (.bool true) ∧ Below w.heap.size w w' := by
  have HC := Lib.hid hc; clear hc
  have HW := Lib.hid hw; clear hw
  obtain ⟨f, hf⟩ : ∃ f : Nat → Nat, f = fun k => pickN (g k) 9007199254740993 := ⟨_, rfl⟩
  have HFX : Hid (∀ k, f k ≤ 9007199254740992) := by
    show ∀ k, f k ≤ 9007199254740992
    intro k; have := pickN_lt (g k) 9007199254740993 (by omega); rw [hf]; show pickN (g k) 9007199254740993 ≤ _; omega
  have HFE : Hid (∀ k, pickN (g k) 9007199254740993 = f k) := by
    show ∀ k, pickN (g k) 9007199254740993 = f k
    intro k; rw [hf]
  clear hf
  go_enter Try.func7, Try.ntmps7
  go_wp2_with fail
  refine (awake_any _).mono ?_; rintro e wa ⟨rfl, ba⟩
  go_wp2_with fail
  go_loopw [4, 6] (fun s i wr => ∃ k : Nat, k ≤ len0 ∧ i = .int .i64 k ∧ s = .string (bs (catR f 0 k)) ∧ Below w.heap.size w wr) (fun _ i _ => len0 - (intOf i).toNat)
  case atStart => exact ⟨0, by omega, rfl, rfl, ba⟩
  case round =>
    obtain ⟨k, hk, rfl, rfl, hbw⟩ := hrel
    by_cases hlt : k < len0
    · have hcell : wr.cell? ⟨b, off + k, none⟩ = some (.int .i64 (g k)) := (hbw.cell (p := ⟨b, off + k, none⟩) (hb (by omega))).trans (HC.out k (by omega))
      have hx := HFX.out k
      have hput := put_nat (f k) (by omega)
      have hwk := Lib.hid (HW.out k (by omega))
      have hadd : ∀ W : World, (Op.stringOp .add (bs (catR f 0 k)) (bs (vb (f k)))).run Try.prog W = .ok (.string (bs (catR f 0 (k + 1)))) W := fun W => by
        rw [catR_snoc, ← bs_append, Nat.zero_add]
        refine str_add ?_ W
        have h1 := catR_len f HFX.out 0 k
        have h2 := vb_len8 hx
        rw [bs_size, bs_size]; omega
      clear hx
      go_wp2_with fail
      refine (pick_nat _ _ (by omega) (by omega) hwk.out _).mono ?_; rintro e w' ⟨rfl, rfl⟩
      rw [HFE.out k]
      go_wp2_with fail
      refine (hput _).mono ?_; rintro e W1 ⟨rfl, b1⟩
      go_wp2_with fail
      go_roundw
      case rel => exact ⟨k + 1, by omega, by go_num, rfl, hbw.trans (b1.mono hbw.size)⟩
      case measure => simp [intOf]; omega
    · have hkN : len0 = k := by omega
      subst hkN
      go_wp2_with fail
      go_loopw [4, 9] (fun s i wr => ∃ k : Nat, k ≤ len0 ∧ i = .int .i64 k ∧ s = .string (bs (catR f k (len0 - k))) ∧ Below w.heap.size w wr) (fun _ i _ => len0 - (intOf i).toNat)
      case atStart => exact ⟨0, by omega, rfl, rfl, hbw⟩
      case round =>
        obtain ⟨k, hk, rfl, rfl, hbw⟩ := hrel
        by_cases hlt : k < len0
        · have hcell : wr.cell? ⟨b, off + k, none⟩ = some (.int .i64 (g k)) := (hbw.cell (p := ⟨b, off + k, none⟩) (hb (by omega))).trans (HC.out k (by omega))
          have hwk := Lib.hid (HW.out k (by omega))
          have hx := HFX.out k
          have hlen := catR_len f HFX.out (k + 1) (len0 - (k + 1))
          have hT : bs (catR f k (len0 - k)) = bs (vb (f k)) ++ bs (catR f (k + 1) (len0 - (k + 1))) := by
            rw [bs_append, show len0 - k = (len0 - (k + 1)) + 1 by omega]; rfl
          have htake := take_back (f k) hx (bs (catR f (k + 1) (len0 - (k + 1)))) (by rw [bs_size]; omega)
          rw [← hT] at htake
          have s1 : 1 ≤ (bs (vb (f k))).size := by rw [bs_size]; exact vb_pos _
          have s2 : (bs (vb (f k))).size ≤ (bs (catR f k (len0 - k))).size := by rw [hT, ByteArray.size_append]; omega
          have hsl : ∀ W : World, (Instr.slice 9 (.string (bs (catR f k (len0 - k)))) (some (.int .i64 (bs (vb (f k))).size)) none none).run Try.prog W = .ok (.string (bs (catR f (k + 1) (len0 - (k + 1))))) W := fun W => slice_from (by
            rw [bs_drop, bs_size]
            rw [show len0 - k = (len0 - (k + 1)) + 1 by omega]
            show bs (List.drop (vb (f k)).length (vb (f k) ++ _)) = _
            rw [List.drop_left]) s2 W
          clear hx hlen hT
          generalize bs (catR f k (len0 - k)) = T at htake s2 hsl ⊢
          generalize bs (vb (f k)) = S at s1 s2 htake hsl
          go_wp2_with fail
          refine (htake _).mono ?_; rintro e W1 ⟨rfl, b1⟩
          have hcell1 : W1.cell? ⟨b, off + k, none⟩ = some (.int .i64 (g k)) := (b1.cell (p := ⟨b, off + k, none⟩) (lt_of_cell hcell)).trans hcell
          go_wp2_with fail
          refine (pick_nat _ _ (by omega) (by omega) hwk.out _).mono ?_; rintro e w' ⟨rfl, rfl⟩
          rw [HFE.out k]
          go_wp2_with fail
          go_roundw
          case rel => exact ⟨k + 1, by omega, by go_num, rfl, hbw.trans (b1.mono hbw.size)⟩
          case measure => simp [intOf]; omega
        · have hkN : len0 = k := by omega
          subst hkN
          rw [Nat.sub_self, show catR f len0 0 = [] from rfl]
          have he : (bs []).toList = [] := bs_toList []
          go_wp2_with fail
          go_ret
          exact ⟨ret_bool (by simp), hbw⟩

set_option maxRecDepth 100000 in
set_option maxHeartbeats 2000000 in
theorem varintRow_big (b off len0 cap0 : Nat) (g : Nat → Int) (w : World) (hN : 20 < len0) (hl : len0 ≤ 9223372036854775807) (hc : ∀ k, k < len0 → w.cell? ⟨b, off + k, none⟩ = some (.int .i64 (g k))) (hw : ∀ k, k < len0 → (Lit.int .i64 (g k)).wf = true) (hb : 0 < len0 → b < w.heap.size) :
    Calls Try.prog 7 #[.slice (some ⟨b, off, none⟩) len0 cap0] w fun e w' => e = .returned (.bool true) ∧ Below w.heap.size w w' := by
  have HC := Lib.hid hc; clear hc
  have HW := Lib.hid hw; clear hw
  obtain ⟨f, hf⟩ : ∃ f : Nat → Nat, f = fun k => pickN (g k) 9007199254740993 := ⟨_, rfl⟩
  have HFX : Hid (∀ k, f k ≤ 9007199254740992) := by
    show ∀ k, f k ≤ 9007199254740992
    intro k; have := pickN_lt (g k) 9007199254740993 (by omega); rw [hf]; show pickN (g k) 9007199254740993 ≤ _; omega
  have HFE : Hid (∀ k, pickN (g k) 9007199254740993 = f k) := by
    show ∀ k, pickN (g k) 9007199254740993 = f k
    intro k; rw [hf]
  clear hf
  go_enter Try.func7, Try.ntmps7
  go_wp2_with fail
  refine (awake_any _).mono ?_; rintro e wa ⟨rfl, ba⟩
  go_wp2_with fail
  go_loopw [4, 6] (fun s i wr => ∃ k : Nat, k ≤ 20 ∧ i = .int .i64 k ∧ s = .string (bs (catR f 0 k)) ∧ Below w.heap.size w wr) (fun _ i _ => 20 - (intOf i).toNat)
  case atStart => exact ⟨0, by omega, rfl, rfl, ba⟩
  case round =>
    obtain ⟨k, hk, rfl, rfl, hbw⟩ := hrel
    by_cases hlt : k < 20
    · have hcell : wr.cell? ⟨b, off + k, none⟩ = some (.int .i64 (g k)) := (hbw.cell (p := ⟨b, off + k, none⟩) (hb (by omega))).trans (HC.out k (by omega))
      have hx := HFX.out k
      have hput := put_nat (f k) (by omega)
      have hwk := Lib.hid (HW.out k (by omega))
      have hadd : ∀ W : World, (Op.stringOp .add (bs (catR f 0 k)) (bs (vb (f k)))).run Try.prog W = .ok (.string (bs (catR f 0 (k + 1)))) W := fun W => by
        rw [catR_snoc, ← bs_append, Nat.zero_add]
        refine str_add ?_ W
        have h1 := catR_len f HFX.out 0 k
        have h2 := vb_len8 hx
        rw [bs_size, bs_size]; omega
      clear hx
      go_wp2_with fail
      refine (pick_nat _ _ (by omega) (by omega) hwk.out _).mono ?_; rintro e w' ⟨rfl, rfl⟩
      rw [HFE.out k]
      go_wp2_with fail
      refine (hput _).mono ?_; rintro e W1 ⟨rfl, b1⟩
      go_wp2_with fail
      go_roundw
      case rel => exact ⟨k + 1, by omega, by go_num, rfl, hbw.trans (b1.mono hbw.size)⟩
      case measure => simp [intOf]; omega
    · have hkN : 20 = k := by omega
      subst hkN
      rw [show ((20 : Nat) : Int) = 20 from rfl]
      go_wp2_with fail
      go_loopw [4, 9] (fun s i wr => ∃ k : Nat, k ≤ 20 ∧ i = .int .i64 k ∧ s = .string (bs (catR f k (20 - k))) ∧ Below w.heap.size w wr) (fun _ i _ => 20 - (intOf i).toNat)
      case atStart => exact ⟨0, by omega, rfl, rfl, hbw⟩
      case round =>
        obtain ⟨k, hk, rfl, rfl, hbw⟩ := hrel
        by_cases hlt : k < 20
        · have hcell : wr.cell? ⟨b, off + k, none⟩ = some (.int .i64 (g k)) := (hbw.cell (p := ⟨b, off + k, none⟩) (hb (by omega))).trans (HC.out k (by omega))
          have hwk := Lib.hid (HW.out k (by omega))
          have hx := HFX.out k
          have hlen := catR_len f HFX.out (k + 1) (20 - (k + 1))
          have hT : bs (catR f k (20 - k)) = bs (vb (f k)) ++ bs (catR f (k + 1) (20 - (k + 1))) := by
            rw [bs_append, show 20 - k = (20 - (k + 1)) + 1 by omega]; rfl
          have htake := take_back (f k) hx (bs (catR f (k + 1) (20 - (k + 1)))) (by rw [bs_size]; omega)
          rw [← hT] at htake
          have s1 : 1 ≤ (bs (vb (f k))).size := by rw [bs_size]; exact vb_pos _
          have s2 : (bs (vb (f k))).size ≤ (bs (catR f k (20 - k))).size := by rw [hT, ByteArray.size_append]; omega
          have hsl : ∀ W : World, (Instr.slice 9 (.string (bs (catR f k (20 - k)))) (some (.int .i64 (bs (vb (f k))).size)) none none).run Try.prog W = .ok (.string (bs (catR f (k + 1) (20 - (k + 1))))) W := fun W => slice_from (by
            rw [bs_drop, bs_size]
            rw [show 20 - k = (20 - (k + 1)) + 1 by omega]
            show bs (List.drop (vb (f k)).length (vb (f k) ++ _)) = _
            rw [List.drop_left]) s2 W
          clear hx hlen hT
          generalize bs (catR f k (20 - k)) = T at htake s2 hsl ⊢
          generalize bs (vb (f k)) = S at s1 s2 htake hsl
          go_wp2_with fail
          refine (htake _).mono ?_; rintro e W1 ⟨rfl, b1⟩
          have hcell1 : W1.cell? ⟨b, off + k, none⟩ = some (.int .i64 (g k)) := (b1.cell (p := ⟨b, off + k, none⟩) (lt_of_cell hcell)).trans hcell
          go_wp2_with fail
          refine (pick_nat _ _ (by omega) (by omega) hwk.out _).mono ?_; rintro e w' ⟨rfl, rfl⟩
          rw [HFE.out k]
          go_wp2_with fail
          go_roundw
          case rel => exact ⟨k + 1, by omega, by go_num, by rw [show 20 - (k + 1) = 19 - k by omega], hbw.trans (b1.mono hbw.size)⟩
          case measure => simp [intOf]; omega
        · have hkN : 20 = k := by omega
          subst hkN
          rw [Nat.sub_self, show catR f 20 0 = [] from rfl]
          have he : (bs []).toList = [] := bs_toList []
          go_wp2_with fail
          go_ret
          exact ⟨ret_bool (by simp), hbw⟩

set_option maxRecDepth 100000 in
set_option maxHeartbeats 2000000 in
theorem varintRow_nil (a : Option Addr) (cap : Nat) (w : World) :
    Calls Try.prog 7 #[.slice a 0 cap] w fun e w' => e = .returned (.bool true) ∧ Below w.heap.size w w' := by
  go_enter Try.func7, Try.ntmps7
  go_wp2_with fail
  refine (awake_any _).mono ?_; rintro e wa ⟨rfl, ba⟩
  go_wp2_with fail
  go_loopw [4, 6] (fun s i wr => s = .string ⟨#[]⟩ ∧ i = .int .i64 0 ∧ wr = wa) (fun _ _ _ => 0)
  case atStart => exact ⟨rfl, rfl, rfl⟩
  case round =>
    obtain ⟨rfl, rfl, rfl⟩ := hrel
    go_wp2_with fail
    go_loopw [4, 9] (fun s i wr' => s = .string ⟨#[]⟩ ∧ i = .int .i64 0 ∧ wr' = wr) (fun _ _ _ => 0)
    case atStart => exact ⟨rfl, rfl, rfl⟩
    case round =>
      obtain ⟨rfl, rfl, rfl⟩ := hrel
      go_wp2_with fail
      go_ret
      exact ⟨rfl, ba⟩

theorem varintRow_walk (a : Option Addr) (len cap : Nat) (zs : List Int) (w : World) (h : IsRow .i64 w a len cap zs) :
    Calls Try.prog 7 #[.slice a len cap] w fun e w' => e = .returned (.bool true) ∧ Below w.heap.size w w' := by
  rcases h with ⟨rfl, rfl, rfl, rfl⟩ | ⟨x, rfl, hl, hm, hz, hcell, hwz⟩
  · exact varintRow_nil none 0 w
  · unfold maxLen at hm
    rcases Nat.eq_zero_or_pos len with rfl | hpos
    · exact varintRow_nil _ _ w
    · obtain ⟨b, off, spot⟩ := x
      have hc0 := hcell 0 (by omega)
      have hspot : spot = none := by simpa [Addr.add] using World.cell?_spot hc0
      subst hspot
      have hc : ∀ k, k < len → w.cell? ⟨b, off + k, none⟩ = some (.int .i64 (zs.getD k 0)) := fun k hk => by
        have h := hcell k (by omega)
        by_cases h0 : k = 0
        · subst h0; simpa [Addr.add] using h
        · simpa [Addr.add, h0] using h
      have hw : ∀ k, k < len → (Lit.int .i64 (zs.getD k 0)).wf = true := fun k hk => hwz _ (by rw [List.getD_eq_getElem?_getD, List.getElem?_eq_getElem (by omega)]; exact List.getElem_mem _)
      have hb : 0 < len → b < w.heap.size := fun _ => lt_of_cell (hc 0 hpos)
      rcases Nat.lt_or_ge 20 len with h20 | h20
      · exact varintRow_big b off len cap _ w h20 (by omega) hc hw hb
      · exact varintRow_small b off len cap _ w h20 (by omega) hc hw hb
end Go.Proofs.Ytjhpebfapddciaa
