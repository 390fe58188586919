import Derived.Test.YtjciojgldibfmaaFrAwake
/-
  Parts of a slice of frames: 'l[:k]', 'l[k:]', 'l[i:j]'.
-/
namespace Go.Proofs.Ytjciojgldibfmaa
open Go.RowKit

theorem sizeFr : Try.prog.elem 32 = 23 := by kernel_rfl
theorem fr_to {w : World} {A : Option Addr} {n cap : Nat} {fs : List Frm} (h : IsFr w A n fs) {k : Nat} (hk : k ≤ n) (hc : n ≤ cap) :
    ∃ A', (∀ W, (Instr.slice 32 (.slice A n cap) none (some (.int .i64 (k : Int))) none).run Try.prog W = .ok (.slice A' k cap) W) ∧ IsFr w A' k (fs.take k) := by
  have hft := h.take hk
  refine ⟨if cap = 0 then A else A.map (·.add (0 * 3)), fun W => ?_, ?_⟩
  · rw [run_slice_h W 32 A n cap Try.underlying32 .i64 (k : Int) (by omega) (by omega), sizeFr, Try.sizeOf23]
    simp [sliced]
  · obtain ⟨t1, t2, t3, t4⟩ := hft
    refine ⟨t1, t2, t3, fun hp => ?_⟩
    obtain ⟨b, off, rfl, hb, hat⟩ := t4 hp
    rw [if_neg (by omega)]
    exact ⟨b, off, by simp [Addr.add], hb, hat⟩
/-- A part to the end, at the address that is reckoned. -/
theorem fr_drop {w : World} {A : Option Addr} {n cap : Nat} {fs : List Frm} (h : IsFr w A n fs) {k : Nat} (hk : k ≤ n) (hc : n ≤ cap) : IsFr w (if cap = k then A else A.map (·.add (k * 3))) (n - k) (fs.drop k) := by
  by_cases h0 : n - k = 0
  · rw [h0, List.drop_of_length_le (by have := h.1; omega)]; exact isFr_nil w _
  · rw [if_neg (by omega)]
    obtain ⟨b, off, hA, _⟩ := h.2.2.2 (by omega)
    subst hA
    have := h.drop hk
    rcases Nat.eq_zero_or_pos k with rfl | hk0
    · simpa [Addr.add] using this
    · have e : (some (⟨b, off, none⟩ : Addr)).map (·.add (k * 3)) = some ⟨b, off + k * 3, none⟩ := by simp [Addr.add]; omega
      rw [e]; exact this
theorem fr_from {w : World} {A : Option Addr} {n cap : Nat} {fs : List Frm} (h : IsFr w A n fs) {k : Nat} (hk : k ≤ n) (hc : n ≤ cap) :
    ∃ A', (∀ W, (Instr.slice 32 (.slice A n cap) (some (.int .i64 (k : Int))) none none).run Try.prog W = .ok (.slice A' (n - k) (cap - k)) W) ∧ IsFr w A' (n - k) (fs.drop k) := by
  refine ⟨if cap = k then A else A.map (·.add (k * 3)), fun W => ?_, fr_drop h hk hc⟩
  rw [run_slice_l W 32 A n cap Try.underlying32 .i64 (k : Int) (by omega) (by omega), sizeFr, Try.sizeOf23]
  rfl
theorem fr_mid {w : World} {A : Option Addr} {n cap : Nat} {fs : List Frm} (h : IsFr w A n fs) {i j : Nat} (hi : i ≤ j) (hj : j ≤ n) (hc : n ≤ cap) :
    ∃ A', (∀ W, (Instr.slice 32 (.slice A n cap) (some (.int .i64 (i : Int))) (some (.int .i64 (j : Int))) none).run Try.prog W = .ok (.slice A' (j - i) (cap - i)) W) ∧ IsFr w A' (j - i) ((fs.drop i).take (j - i)) := by
  refine ⟨if cap = i then A else A.map (·.add (i * 3)), fun W => ?_, (fr_drop h (by omega) hc).take (by omega)⟩
  rw [run_slice_lh W 32 A n cap Try.underlying32 .i64 .i64 (i : Int) (j : Int) (by omega) (by omega) (by omega), sizeFr, Try.sizeOf23]
  rfl
end Go.Proofs.Ytjciojgldibfmaa
