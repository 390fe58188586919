/-
  The walk of the law FieldParts.
-/
import Derived.Test.YtgadbfkldfhoaaaFieldLaw
namespace Go.Proofs.Ytgadbfkldfhoaaa
open Go.RowKit

set_option maxRecDepth 100000 in
set_option maxHeartbeats 4000000 in
theorem fieldParts_walk (A : Option Addr) (n cap : Nat) (f : Nat → Nat → Int) (B : Option Addr) (m cap2 : Nat) (g : Nat → ByteArray) (at_ : Int) (w : World) (h : IsRaw w A n 2 f) (h2 : IsStrs w B m g) (hat : (Lit.int .i64 at_).wf = true) :
    Calls Try.prog 7 #[.slice A n cap, .slice B m cap2, .int .i64 at_] w fun e w' => e = .returned (.bool true) ∧ Below w.heap.size w w' := by
  go_enter Try.func7, Try.ntmps7
  go_wp2_with fail
  ((with_reducible refine (awake_any _).mono ?_); rintro e w1 ⟨rfl, b1⟩)
  go_wp2_with fail
  ((with_reducible refine (fields_any A n cap f B m cap2 g _ (h.below b1) (h2.below b1)).mono ?_); rintro e w2 ⟨A2, q, capq, fs, rfl, hc, hcm, hf, hN, b2⟩)
  have hq := hf.1
  have h20 : q ≤ 20 := by have := hN.1; omega
  have hk := pickN_lt at_ ((q : Int) + 1) (by omega)
  have hp := pick_nat at_ ((q : Int) + 1) (by omega) (by omega) hat
  generalize pickN at_ ((q : Int) + 1) = k at hp hk
  have hkq : k ≤ q := by omega
  have p1 := encode_any A2 q capq fs _ hf
  rw [nice_encR hN] at p1
  have HQ := Lib.hid hq; clear hq
  go_wp2_with fail
  ((with_reducible refine (hp _).mono ?_); rintro e w3 ⟨rfl, rfl⟩)
  go_wp2_with fail
  ((with_reducible refine p1.mono ?_); rintro e w3 ⟨rfl, b3⟩)
  go_wp2_with fail
  have hr1 := right_take hN.right k
  have hr2 := right_drop hN.right k
  have hsp := encL_split fs k
  have hl := hN.enc
  have hl2 := congrArg List.length hsp
  rw [List.length_append] at hl2
  have p2 := encode_any A2 k capq (fs.take k) _ ((hf.below b3).take hkq)
  rw [encR_right hr1 (by omega)] at p2
  ((with_reducible refine p2.mono ?_); rintro e w4 ⟨rfl, b4⟩)
  have hS : bs (encL fs) = bs (encL (fs.take k)) ++ bs (encL (fs.drop k)) := by rw [bs_append, ← hsp]
  have z1 : (bs (encL (fs.take k))).size ≤ 6100 := by rw [bs_size]; omega
  have z2 : (bs (encL (fs.drop k))).size ≤ 6100 := by rw [bs_size]; omega
  have p3 := fun A' h => encode_any A' (q - k) (capq - k) (fs.drop k) w4 h
  rw [encR_right hr2 (by omega)] at p3
  have hadd := fun W => str_add (a := bs (encL (fs.take k))) (b := bs (encL (fs.drop k))) (by omega) W
  rw [← hS] at hadd
  clear hl2 hl hsp hr1 hr2 p1 p2 hS
  generalize bs (encL (fs.take k)) = S1 at *
  generalize bs (encL (fs.drop k)) = S2 at *
  generalize bs (encL fs) = S at *
  obtain ⟨A', hsl, hf'⟩ := slice_fs_from ((hf.below b3).below b4) hkq hc
  have p4 := p3 A' hf'
  clear p3
  go_wp2_with fail
  ((with_reducible refine p4.mono ?_); rintro e w5 ⟨rfl, b5⟩)
  go_wp2_with fail
  go_ret
  exact ⟨rfl, bch (bch (bch (bch b1 b2) b3) b4) b5⟩
end Go.Proofs.Ytgadbfkldfhoaaa
