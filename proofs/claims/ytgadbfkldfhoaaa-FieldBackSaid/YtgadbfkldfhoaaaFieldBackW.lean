/-
  The walk of the law FieldBack.
-/
import Derived.Test.YtgadbfkldfhoaaaFieldLaw
namespace Go.Proofs.Ytgadbfkldfhoaaa
open Go.RowKit
set_option linter.unusedVariables false

theorem encR_cases (fs : List Fld) : encR fs = ([], 1) ∧ rightB fs = false ∨ encR fs = ([], 12) ∨ encR fs = (encL fs, 0) ∧ rightB fs = true ∧ (encL fs).length ≤ 10000 := by
  unfold encR
  cases h : rightB fs with
  | false => exact .inl ⟨rfl, rfl⟩
  | true =>
    by_cases hl : (encL fs).length ≤ 10000
    · rw [if_pos rfl, if_pos hl]; exact .inr (.inr ⟨rfl, rfl, hl⟩)
    · rw [if_pos rfl, if_neg hl]; exact .inr (.inl rfl)
set_option maxRecDepth 100000 in
set_option maxHeartbeats 4000000 in
theorem fieldBack_walk (A : Option Addr) (n cap : Nat) (f : Nat → Nat → Int) (B : Option Addr) (m cap2 : Nat) (g : Nat → ByteArray) (C : Option Addr) (l cap3 : Nat) (gs : List Fld) (w : World) (h : IsRaw w A n 2 f) (h2 : IsStrs w B m g) (h3 : IsFs w C l gs) (h4 : l ≤ cap3) :
    Calls Try.prog 4 #[.slice A n cap, .slice B m cap2, .slice C l cap3] w fun e w' => e = .returned (.bool true) ∧ Below w.heap.size w w' := by
  go_enter Try.func4, Try.ntmps4
  go_wp2_with fail
  ((with_reducible refine (awake_any _).mono ?_); rintro e w1 ⟨rfl, b1⟩)
  go_wp2_with fail
  ((with_reducible refine (fields_any A n cap f B m cap2 g _ (h.below b1) (h2.below b1)).mono ?_); rintro e w2 ⟨A2, q, capq, fs, rfl, hc, hcm, hf, hN, b2⟩)
  have b12 := bch b1 b2
  have ba : Below w2.heap.size w2 (w2.alloc (.cells #[.slice A2 q capq, .slice C l cap3] 22)) := (Below.refl _ _).alloc (Nat.le_refl _) _
  have h2f : TwoFs (w2.alloc (.cells #[.slice A2 q capq, .slice C l cap3] 22)) w2.heap.size := by
    intro j hj
    have hx := World.alloc_heap_new w2 (.cells #[.slice A2 q capq, .slice C l cap3] 22)
    rcases (by omega : j = 0 ∨ j = 1) with rfl | rfl
    · exact ⟨A2, q, capq, fs, cell_blk hx 0, hc, hf.below ba⟩
    · exact ⟨C, l, cap3, gs, cell_blk hx 1, h4, (h3.below b12).below ba⟩
  have b123 := bch b12 ba
  go_wp2_with fail
  go_loopw [21] (fun i wr => ∃ j : Nat, j ≤ 2 ∧ i = .int .i64 j ∧ Below w.heap.size w wr ∧ TwoFs wr w2.heap.size) (fun i _ => 2 - (intOf i).toNat)
  case atStart => exact ⟨0, by omega, rfl, b123, h2f⟩
  case round =>
    obtain ⟨j, hj, rfl, hbw, h2r⟩ := hrel
    by_cases hlt : j < 2
    · obtain ⟨A5, n5, cap5, xs, c5, hc5, hf5⟩ := h2r j hlt
      have p1 := encode_any A5 n5 cap5 xs _ hf5
      rcases encR_cases xs with ⟨he, hR⟩ | he | ⟨he, hR, hl⟩
      · rw [he] at p1
        have hE : (bs []).toList = [] := bs_toList []
        go_wp2_with fail
        ((with_reducible refine p1.mono ?_); rintro e w3 ⟨rfl, b3⟩)
        have p2 := right_any A5 n5 cap5 xs _ (hf5.below b3)
        rw [hR] at p2
        go_wp2_with fail
        ((with_reducible refine p2.mono ?_); rintro e w4 ⟨rfl, b4⟩)
        go_wp2_with fail
        go_roundw
        case rel => exact ⟨j + 1, by omega, by go_num, bch (bch hbw b3) b4, (h2r.below b3).below b4⟩
        case measure => simp [intOf]; omega
      · rw [he] at p1
        have hE : (bs []).toList = [] := bs_toList []
        go_wp2_with fail
        ((with_reducible refine p1.mono ?_); rintro e w3 ⟨rfl, b3⟩)
        go_wp2_with fail
        go_roundw
        case rel => exact ⟨j + 1, by omega, by go_num, bch hbw b3, h2r.below b3⟩
        case measure => simp [intOf]; omega
      · rw [he] at p1
        have p2 := decode_any (bs (encL xs)) (by rw [bs_size]; omega)
        rw [bs_data, dec_enc hR hl] at p2
        clear he
        generalize bs (encL xs) = S at *
        go_wp2_with fail
        ((with_reducible refine p1.mono ?_); rintro e w3 ⟨rfl, b3⟩)
        go_wp2_with fail
        ((with_reducible refine (p2 _).mono ?_); rintro e w4 ⟨A6, n6, cap6, rfl, hc6, hf6, b4⟩)
        have p3 := same_any A5 A6 n5 n6 cap5 cap6 xs xs _ ((hf5.below b3).below b4) hf6
        rw [sameB_self] at p3
        go_wp2_with fail
        ((with_reducible refine p3.mono ?_); rintro e w5 ⟨rfl, b5⟩)
        go_wp2_with fail
        go_roundw
        case rel => exact ⟨j + 1, by omega, by go_num, bch (bch (bch hbw b3) b4) b5, ((h2r.below b3).below b4).below b5⟩
        case measure => simp [intOf]; omega
    · go_wp2_with fail
      go_ret
      exact ⟨rfl, hbw⟩
end Go.Proofs.Ytgadbfkldfhoaaa
