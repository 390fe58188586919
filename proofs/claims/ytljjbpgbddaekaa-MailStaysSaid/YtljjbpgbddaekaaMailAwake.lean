import Derived.Test.YtljjbpgbddaekaaMailRefC
import Derived.Test.YtljjbpgbddaekaaMailLets
/-
  The contract of 'awake' of stage 11: it returns true.
-/
namespace Go.Proofs.Ytljjbpgbddaekaa
open Go.RowKit
set_option linter.unusedVariables false

def la : Lt := ⟨0, 1, ⟨#[120]⟩⟩
def lb : Lt := ⟨0, 2, ⟨#[]⟩⟩
theorem aw_wf : LtWf la ∧ LtWf lb := ⟨⟨by decide, by decide, by decide⟩, ⟨by decide, by decide, by decide⟩⟩
theorem aw_p1 : postL [] la = ([la], 0) := rfl
theorem aw_p2 : postL [la] lb = ([la, lb], 0) := rfl
theorem aw_c : copyL [la, lb] 0 = ([la, lb, la], 0) := rfl
theorem aw_l : loseL [la, lb, la] 3 = ([la, lb, la], 1) := rfl
theorem aw_t : takeL [la, lb, la] 2 = (la, [la, lb], true) := rfl
theorem aw_f : forL [la, lb, la] 1 = [0, 2] := rfl

set_option maxRecDepth 100000 in
set_option maxHeartbeats 4000000 in
theorem awakeM_any (kP : PostQ) (kC : CopyQ) (kL : LoseQ) (kT : TakeM) (kF : ForQ) (w : World) :
    Calls Try.prog 9 #[] w fun e w' => e = .returned (.bool true) ∧ Below w.heap.size w w' := by
  have q1 := kP [] la none 0 0 w aw_wf.1 (Nat.le_refl _) (isLs_nil _ _) (by omega)
  rw [aw_p1] at q1
  have q2 := fun A n c W h1 h2 h3 => kP [la] lb A n c W aw_wf.2 h1 h2 h3
  rw [aw_p2] at q2
  have q3 := fun A n c W h1 h2 h3 => kC [la, lb] 0 A n c W (by decide) h1 h2 h3
  rw [aw_c] at q3
  have q4 := fun A n c W h1 h2 h3 => kL [la, lb, la] 3 A n c W (by decide) h1 h2 h3
  rw [aw_l] at q4
  have q5 := fun A n c W h1 h2 h3 => kT [la, lb, la] 2 A n c W (by decide) h1 h2 h3
  rw [aw_t] at q5
  have q6 := fun A n c W h1 h2 h3 => kF [la, lb, la] 1 A n c W (by decide) h1 h2 h3
  rw [aw_f] at q6
  clear kP kC kL kT kF
  simp only [la, lb] at q1 q2 q5
  go_enter Try.func9, Try.ntmps9
  go_wp2_with fail
  ((with_reducible refine q1.mono ?_); rintro e W1 ⟨A1, n1, cap1, rfl, hcap1, hls1, hnw1, b1⟩)
  have hn1 : n1 = 1 := hls1.1
  subst hn1
  have Q2 := q2 A1 1 cap1 W1 hcap1 hls1 (by omega)
  clear q1 q2 hls1 hnw1 hcap1
  have HB1 := Lib.hid b1; clear b1
  go_wp2_with fail
  ((with_reducible refine Q2.mono ?_); rintro e W2 ⟨A2, n2, cap2, rfl, hcap2, hls2, hnw2, b2⟩)
  have hn2 : n2 = 2 := hls2.1
  subst hn2
  have Q3 := q3 A2 2 cap2 W2 hcap2 hls2 (by omega)
  clear Q2 q3 hls2 hnw2 hcap2
  have HB2 := Lib.hid (bch HB1.out b2); clear b2
  go_wp2_with fail
  ((with_reducible refine Q3.mono ?_); rintro e W3 ⟨A3, n3, cap3, rfl, hcap3, hls3, hnw3, b3⟩)
  have hn3 : n3 = 3 := hls3.1
  subst hn3
  have Q4 := q4 A3 3 cap3 W3 hcap3 hls3 (by omega)
  clear Q3 q4 hnw3
  have HL3 := Lib.hid hls3; clear hls3
  have HB3 := Lib.hid (bch HB2.out b3); clear b3
  go_wp2_with fail
  ((with_reducible refine Q4.mono ?_); rintro e W4 ⟨A4, n4, cap4, rfl, hcap4, hls4, hnw4, b4⟩)
  have HL4 := Lib.hid (HL3.out.below b4)
  have Q5 := q5 A3 3 cap3 W4 hcap3 HL4.out (by omega)
  have HB4 := Lib.hid (bch HB3.out b4)
  clear Q4 q5 b4 hls4 hnw4 hcap4 HL3
  go_wp2_with fail
  ((with_reducible refine Q5.mono ?_); rintro e W5 ⟨A5, n5, cap5, rfl, hcap5, hls5, hnw5, b5⟩)
  have hn5 : n5 = 2 := hls5.1
  subst hn5
  clear Q5 hnw5 hls5 hcap5
  go_upto_region 6 with fail
  have hal := (Below.refl W5.heap.size W5).alloc (Nat.le_refl _) (.cells #[.int .i64 0, .int .i64 1, .string ⟨#[120]⟩] 25)
  have ht : LtBlk (W5.alloc (.cells #[.int .i64 0, .int .i64 1, .string ⟨#[120]⟩] 25)) W5.heap.size ⟨0, 1, ⟨#[120]⟩⟩ := LtBlk.new W5 ⟨0, 1, ⟨#[120]⟩⟩
  obtain ⟨U5, hU⟩ : ∃ W, W5.alloc (.cells #[.int .i64 0, .int .i64 1, .string ⟨#[120]⟩] 25) = W := ⟨_, rfl⟩
  rw [hU] at hal ht ⊢
  clear hU
  have bb := bch b5 hal
  have HL5 := Lib.hid (HL4.out.below bb)
  have Q6 := q6 A3 3 cap3 U5 hcap3 HL5.out (by omega)
  have HB5 := Lib.hid (bch HB4.out bb)
  have HT := Lib.hid ht
  clear q6 hal ht bb b5 HL4
  go_wp2_with fail
  ((with_reducible refine Q6.mono ?_); rintro e W6 ⟨A6, n6, cap6, rfl, hcap6, hns6, hnw6, b6⟩)
  have hn6 : n6 = 2 := hns6.1
  subst hn6
  have HT6 := Lib.hid (HT.out.below b6)
  have HB6 := Lib.hid (bch HB5.out b6)
  have hxb : Below W6.heap.size W6 (W6.alloc (.cells #[.int .i64 0, .int .i64 2] 3)) := (Below.refl _ _).alloc (Nat.le_refl _) _
  have hxs : IsNs (W6.alloc (.cells #[.int .i64 0, .int .i64 2] 3)) (some ⟨W6.heap.size, 0, none⟩) 2 [0, 2] := by
    have hx := Blk.new W6 (.cells #[.int .i64 0, .int .i64 2] 3 (0, 0))
    refine ⟨rfl, by unfold maxLen; omega, ?_, fun _ => ⟨W6.heap.size, 0, rfl, hx.lt, fun i hi => ?_⟩⟩
    · intro z hz
      simp at hz
      rcases hz with rfl | rfl <;> decide
    · rcases (by simp at hi; omega : i = 0 ∨ i = 1) with rfl | rfl
      · exact hx.cell 0
      · exact hx.cell 1
  have Q7 := refints_any A6 (some ⟨W6.heap.size, 0, none⟩) 2 2 cap6 2 [0, 2] [0, 2] _ (hns6.below hxb) hxs
  rw [sameI_self] at Q7
  have HB7 := Lib.hid (bch HB6.out hxb)
  obtain ⟨c0, c1, c2⟩ := HT6.out.cells
  simp only at c0 c1 c2
  clear Q6 hns6 hnw6 hxs hxb b6
  go_wp2_with fail
  ((with_reducible refine Q7.mono ?_); rintro e W7 ⟨rfl, b7⟩)
  have HB8 := Lib.hid (bch HB7.out b7)
  clear Q7 b7 c0 c1 c2
  go_wp2_with fail
  go_ret
  exact ⟨rfl, HB8.out⟩
end Go.Proofs.Ytljjbpgbddaekaa
