import Derived.Test.YtjciojgldibfmaaFrames
/-
  What stage 6's laws share: what they ask of the program's functions (EncC, ScanC, RightC), the law package's own 'bytes' and 'awake'.
-/
namespace Go.Proofs.Ytjciojgldibfmaa
open Go.RowKit
set_option linter.unusedVariables false

/-- What is asked of the program's Encode, Scan and Right. -/
def EncC : Prop := ∀ (v : Int) (f : Frm), f.data.size ≤ 140737488351232 → ∀ w : World,
  Calls Try.prog 12 #[.int .i64 v, .agg #[.int .i64 f.kind, .int .i64 f.flags, .string f.data]] w fun e w' => e = .returned (.tuple #[.string (bs (encA v f)), .int .i64 (encE v f)]) ∧ Below w.heap.size w w'
def ScanC : Prop := ∀ (v : Int) (s : ByteArray), s.size < 4398046511104 → ∀ w : World, Calls Try.prog 18 #[.int .i64 v, .string s] w (ScanPost w (scanV v s.data.toList))
def RightC : Prop := ∀ (v : Int) (f : Frm), f.data.size ≤ 140737488351232 → ∀ w : World,
  Calls Try.prog 14 #[.int .i64 v, .agg #[.int .i64 f.kind, .int .i64 f.flags, .string f.data]] w fun e w' => e = .returned (.bool (okF v f)) ∧ Below w.heap.size w w'
theorem EncC.ok (h : EncC) {v : Int} {f : Frm} (hf : okF v f = true) {S : ByteArray} (hS : bs (encF v f) = S) (w : World) :
    Calls Try.prog 12 #[.int .i64 v, .agg #[.int .i64 f.kind, .int .i64 f.flags, .string f.data]] w fun e w' => e = .returned (.tuple #[.string S, .int .i64 0]) ∧ Below w.heap.size w w' := by
  have ho := okF_iff.1 hf
  have h1 := h v f (by omega) w
  have e1 : encA v f = encF v f := by unfold encA; rw [if_pos hf]
  have e2 : encE v f = 0 := by unfold encE; rw [if_pos hf]
  rwa [e1, e2, hS] at h1
theorem EncC.no (h : EncC) {v : Int} {f : Frm} (hf : okF v f = false) (hs : f.data.size ≤ 140737488351232) (w : World) :
    Calls Try.prog 12 #[.int .i64 v, .agg #[.int .i64 f.kind, .int .i64 f.flags, .string f.data]] w fun e w' => e = .returned (.tuple #[.string ⟨#[]⟩, .int .i64 1]) ∧ Below w.heap.size w w' := by
  have h1 := h v f hs w
  have e1 : encA v f = [] := by unfold encA; rw [hf]; rfl
  have e2 : encE v f = 1 := by unfold encE; rw [hf]; rfl
  rwa [e1, e2] at h1
theorem encFs_take (v : Int) (fs : List Frm) (k : Nat) (hk : k < fs.length) : encFs v (fs.take (k + 1)) = encFs v (fs.take k) ++ encF v fs[k] := by
  rw [List.take_succ_eq_append_getElem hk, encFs_append, encFs_cons]; simp [encFs]
theorem encFs_take_le (v : Int) (fs : List Frm) (k : Nat) : (encFs v (fs.take k)).length ≤ (encFs v fs).length := by
  have : encFs v fs = encFs v (fs.take k) ++ encFs v (fs.drop k) := by rw [← encFs_append, List.take_append_drop]
  rw [this, List.length_append]; omega

set_option maxRecDepth 100000 in
set_option maxHeartbeats 4000000 in
theorem bytes6_any (hE : EncC) (v : Int) (A : Option Addr) (n cap : Nat) (fs : List Frm) (w : World) (hf : IsFr w A n fs) (hok : ∀ f ∈ fs, okF v f = true) (hl : (encFs v fs).length ≤ 4398046511104) :
    Calls Try.prog 21 #[.int .i64 v, .slice A n cap] w fun e w' => e = .returned (.tuple #[.string (bs (encFs v fs)), .bool true]) ∧ Below w.heap.size w w' := by
  obtain ⟨hn, hm, _, hc⟩ := hf
  unfold maxLen at hm
  have HE := Lib.hid hE; clear hE
  have HN := Lib.hid hn; clear hn
  have HC := Lib.hid hc; clear hc
  have HK := Lib.hid hok; clear hok
  have HL := Lib.hid hl; clear hl
  go_enter Try.func21, Try.ntmps21
  go_wp2_with fail
  go_loopw [6, 7] (fun s i wr => ∃ k : Nat, k ≤ n ∧ i = .int .i64 k ∧ s = .string (bs (encFs v (fs.take k))) ∧ Below w.heap.size w wr) (fun _ i _ => n - (intOf i).toNat)
  case atStart => exact ⟨0, by omega, rfl, rfl, Below.refl _ _⟩
  case round =>
    obtain ⟨k, hk, rfl, rfl, hbw⟩ := hrel
    by_cases hlt : k < n
    · obtain ⟨b, off, hA, hb, hat⟩ := HC.out (by omega)
      subst hA
      have hkl : k < fs.length := by have := HN.out; omega
      obtain ⟨c0, c1, c2⟩ := hat k hkl
      have d0 := (hbw.cell (p := ⟨b, off + k * 3, none⟩) hb).trans c0
      have d1 := (hbw.cell (p := ⟨b, off + k * 3 + 1, none⟩) hb).trans c1
      have d2 := (hbw.cell (p := ⟨b, off + k * 3 + 2, none⟩) hb).trans c2
      clear hat c0 c1 c2
      have hf := HK.out fs[k] (List.getElem_mem _)
      rw [frm_at hkl] at hf
      have hst := encFs_take v fs k hkl
      rw [frm_at hkl] at hst
      have hle := encFs_take_le v fs (k + 1)
      have HKL := Lib.hid hkl; clear hkl
      generalize kd fs k = x0 at *
      generalize fl fs k = x1 at *
      generalize da fs k = x2 at *
      obtain ⟨S, hS⟩ : ∃ S, bs (encF v ⟨x0, x1, x2⟩) = S := ⟨_, rfl⟩
      have q := fun W => HE.out.ok hf hS W
      try simp only at q
      obtain ⟨P, hP⟩ : ∃ P, bs (encFs v (fs.take k)) = P := ⟨_, rfl⟩
      obtain ⟨P2, hP2⟩ : ∃ P, bs (encFs v (fs.take (k + 1))) = P := ⟨_, rfl⟩
      have hadd : ∀ W : World, (Op.stringOp .add P S).run Try.prog W = .ok (.string P2) W := fun W => by
        have hz : (bs (encFs v (fs.take (k + 1)))).size ≤ 4398046511104 := by rw [bs_size]; have := HL.out; omega
        rw [hst, bs_size, List.length_append] at hz
        rw [← hP, ← hS, str_add (by rw [bs_size, bs_size]; omega), bs_append, ← hst, hP2]
      rw [hP]
      have HP2 := Lib.hid hP2; clear hP hP2 hS hst hle hf
      go_wp2_with fail
      ((with_reducible refine (q _).mono ?_); rintro e W1 ⟨rfl, b1⟩)
      have hb1 := bch hbw b1
      clear b1 d0 d1 d2
      go_wp2_with fail
      go_roundw
      case rel => exact ⟨k + 1, by omega, by go_num, by rw [HP2.out], hb1⟩
      case measure => simp [intOf]; omega
    · have hke : k = n := by omega
      have ht : fs.take k = fs := List.take_of_length_le (by have := HN.out; omega)
      rw [ht]
      subst hke
      clear ht
      go_wp2_with fail
      go_ret2
      exact ⟨rfl, hbw⟩
end Go.Proofs.Ytjciojgldibfmaa
