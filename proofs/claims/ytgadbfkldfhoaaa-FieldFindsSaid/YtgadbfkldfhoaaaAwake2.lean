/-
  The law's own first calls ('awake'): they answer true, and nothing that was in memory changes.
-/
import Derived.Test.YtgadbfkldfhoaaaFields
import Derived.Test.YtgadbfkldfhoaaaRefDecode
import Derived.Test.YtgadbfkldfhoaaaRefEncode
import Derived.Test.YtgadbfkldfhoaaaSame
import Derived.Test.YtgadbfkldfhoaaaFind
namespace Go.Proofs.Ytgadbfkldfhoaaa
open Go.RowKit

def abF : List Fld := [(2, ⟨#[97, 98]⟩)]
theorem isFs_two {w : World} {b : Nat} {t : Int} {s : ByteArray} (h1 : w.cell? ⟨b, 0, none⟩ = some (.int .i64 t)) (h2 : w.cell? ⟨b, 1, none⟩ = some (.string s)) (hw : (Lit.int .i64 t).wf = true) (hs : s.size ≤ 9223372036854775807) : IsFs w (some ⟨b, 0, none⟩) 1 [(t, s)] := by
  refine ⟨rfl, by unfold maxLen; omega, fun f hf => ?_, fun _ => ⟨b, 0, rfl, lt_of_cell h1, fun i hi => ?_⟩⟩
  · rw [List.mem_singleton] at hf; subst hf; exact ⟨hw, hs⟩
  · have : i = 0 := by simpa using hi
    subst this
    exact ⟨h1, h2⟩
theorem abF_right : rightB abF = true := by
  refine rightB_yes (by decide) (fun i hi => ?_)
  have : i = 0 := by simpa [abF] using hi
  subst this
  decide
theorem abF_enc : encR abF = ([2, 2, 97, 98], 0) := by
  have e : encL abF = [2, 2, 97, 98] := by
    show vb 2 ++ (vb 2 ++ [97, 98]) ++ [] = _
    rw [vb_small (by omega)]; rfl
  unfold encR; rw [abF_right, e]; rfl
theorem zero_right : rightB [(0, (⟨#[]⟩ : ByteArray))] = false := rightB_no (i := 0) (by decide) (by decide)
theorem dec1 : decR [2, 2, 97, 98, 3, 0] = ([(2, ⟨#[97, 98]⟩), (3, ⟨#[]⟩)], 0) := by rfl
theorem dec2 : decR [2, 2, 97] = ([], 10) := by rfl
theorem dec3 : decR [2, 0, 2, 0] = ([], 13) := by rfl
theorem decA (w : World) : Calls Try.prog 19 #[.string ⟨#[2, 2, 97, 98, 3, 0]⟩] w (DecPost w ([(2, ⟨#[97, 98]⟩), (3, ⟨#[]⟩)], 0)) := by
  have := decode_any ⟨#[2, 2, 97, 98, 3, 0]⟩ (by decide) w
  rwa [show (⟨#[2, 2, 97, 98, 3, 0]⟩ : ByteArray).data.toList = [2, 2, 97, 98, 3, 0] from rfl, dec1] at this
theorem decB (w : World) : Calls Try.prog 19 #[.string ⟨#[2, 2, 97]⟩] w (DecPost w ([], 10)) := by
  have := decode_any ⟨#[2, 2, 97]⟩ (by decide) w
  rwa [show (⟨#[2, 2, 97]⟩ : ByteArray).data.toList = [2, 2, 97] from rfl, dec2] at this
theorem decC (w : World) : Calls Try.prog 19 #[.string ⟨#[2, 0, 2, 0]⟩] w (DecPost w ([], 13)) := by
  have := decode_any ⟨#[2, 0, 2, 0]⟩ (by decide) w
  rwa [show (⟨#[2, 0, 2, 0]⟩ : ByteArray).data.toList = [2, 0, 2, 0] from rfl, dec3] at this

set_option maxRecDepth 100000 in
set_option maxHeartbeats 4000000 in
theorem awake_any (w : World) : Calls Try.prog 10 #[] w fun e w' => e = .returned (.bool true) ∧ Below w.heap.size w w' := by
  have hbl := cell_two_new w (.int .i64 2) (.string ⟨#[97, 98]⟩) 43
  have hf0 : IsFs (w.alloc (.cells #[.int .i64 2, .string ⟨#[97, 98]⟩] 43)) (some ⟨w.heap.size, 0, none⟩) 1 abF := isFs_two (hbl 0 _ rfl) (hbl 1 _ rfl) (wf_of (t := 2) (by omega)) (by decide)
  have p1 := encode_any _ 1 1 _ _ hf0
  rw [abF_enc, show bs [2, 2, 97, 98] = ⟨#[2, 2, 97, 98]⟩ from rfl] at p1
  clear hbl
  have HF0 := Lib.hid hf0; clear hf0
  have b0 : Below w.heap.size w (w.alloc (.cells #[.int .i64 2, .string ⟨#[97, 98]⟩] 43)) := (Below.refl _ _).alloc (Nat.le_refl _) _
  go_enter Try.func10, Try.ntmps10
  go_wp2_with fail
  refine p1.mono ?_; rintro e w1 ⟨rfl, b1⟩
  go_wp2_with fail
  refine (decA _).mono ?_; rintro e w2 ⟨A2, n2, cap2, rfl, hc2, hf2, b2⟩
  go_wp2_with fail
  refine (decB _).mono ?_; rintro e w3 ⟨A3, n3, cap3, rfl, hc3, hf3, b3⟩
  go_wp2_with fail
  refine (decC _).mono ?_; rintro e w4 ⟨A4, n4, cap4, rfl, hc4, hf4, b4⟩
  have hf5 := (((HF0.out.below b1).below b2).below b3).below b4
  have p5 := find_any _ 1 1 abF 2 _ hf5
  rw [show findR abF 2 = (⟨#[97, 98]⟩, true) from rfl] at p5
  have HF5 := Lib.hid hf5; clear hf5
  have hn2 : n2 = 2 := hf2.1
  subst hn2
  obtain ⟨b, off, hA, hb, hat⟩ := hf2.2.2.2 (by omega)
  subst hA
  have c1 : w2.cell? ⟨b, off + 1 * 2, none⟩ = some (.int .i64 3) := (hat 1 (by decide)).1
  have c2 := (b4.cell (p := ⟨b, off + 1 * 2, none⟩) (Nat.lt_of_lt_of_le hb b3.size)).trans ((b3.cell (p := ⟨b, off + 1 * 2, none⟩) hb).trans c1)
  have hb4 : b < w4.heap.size := lt_of_cell (a := ⟨b, off + 1 * 2, none⟩) c2
  clear hf2 hf3 hf4 hat c1 hc3 hc4
  go_wp2_with fail
  refine p5.mono ?_; rintro e w5 ⟨rfl, b5⟩
  have c3 : w5.cell? ⟨b, off + 2, none⟩ = some (.int .i64 3) := (b5.cell (p := ⟨b, off + 1 * 2, none⟩) hb4).trans c2
  have p6 := right_any _ 1 1 abF _ (HF5.out.below b5)
  rw [abF_right] at p6
  go_wp2_with fail
  refine p6.mono ?_; rintro e w6 ⟨rfl, b6⟩
  have hbl := cell_two_new w6 (.int .i64 0) (.string ⟨#[]⟩) 43
  have p7 := right_any _ 1 1 _ _ (isFs_two (hbl 0 _ rfl) (hbl 1 _ rfl) (wf_of (t := 0) (by omega)) (by decide))
  rw [zero_right] at p7
  go_wp2_with fail
  refine p7.mono ?_; rintro e w7 ⟨rfl, b7⟩
  go_wp2_with fail
  go_ret
  refine ⟨rfl, ?_⟩
  have b6' : Below w6.heap.size w6 (w6.alloc (.cells #[.int .i64 0, .string ⟨#[]⟩] 43)) := (Below.refl _ _).alloc (Nat.le_refl _) _
  exact bch (bch (bch (bch (bch (bch (bch (bch b0 b1) b2) b3) b4) b5) b6) b6') b7
end Go.Proofs.Ytgadbfkldfhoaaa
