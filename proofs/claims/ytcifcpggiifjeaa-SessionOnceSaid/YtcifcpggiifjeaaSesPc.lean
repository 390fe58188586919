import Derived.Test.YtcifcpggiifjeaaSesPb
import Derived.Test.YtcifcpggiifjeaaTill
/-
  The contract of the program's own Take (stage 10).
-/
namespace Go.Proofs.Ytcifcpggiifjeaa
open Go.RowKit
set_option linter.unusedVariables false
set_option linter.unusedSimpArgs false

def threeA (A A2 B : Option Addr) (k : Nat) : Option Addr := if k = 0 then A else if k = 1 then B else A2
def threeN (a b c k : Nat) : Nat := if k = 0 then a else if k = 1 then b else c
def threeL (a b c : List Int) (k : Nat) : List Int := if k = 0 then a else if k = 1 then b else c
theorem flat_three (a b c : List Int) : flatL (threeL a b c) 3 = a ++ (b ++ c) := by simp [flatL, threeL]
theorem concat_any (g : Nat) (A B A2 : Option Addr) (n1 n2 n3 c1 c2 c3 : Nat) (l1 l2 l3 : List Int) (w : World) (hg : Blk w g (.cells #[.slice A n1 c1, .slice B n2 c2, .slice A2 n3 c3] 22 (0, 0)))
    (h1 : IsNs w A n1 l1) (h2 : IsNs w B n2 l2) (h3 : IsNs w A2 n3 l3) (m1 : n1 ≤ 1000) (m2 : n2 ≤ 1000) (m3 : n3 ≤ 1000) (h0 : 0 < n2) :
    Calls Try.prog 20 #[.slice (some ⟨g, 0, none⟩) 3 3] w (NsPost w (l1 ++ (l2 ++ l3))) := by
  have h := concat3 g (threeA A A2 B) (threeN n1 n2 n3) (threeN c1 c2 c3) (threeL l1 l2 l3) w hg ?_ ?_ ?_
  · rw [flat_three] at h; exact h
  · intro k hk
    rcases (by omega : k = 0 ∨ k = 1 ∨ k = 2) with rfl | rfl | rfl
    · exact h1
    · exact h2
    · exact h3
  · intro k hk
    rcases (by omega : k = 0 ∨ k = 1 ∨ k = 2) with rfl | rfl | rfl
    · exact m1
    · exact m2
    · exact m3
  · rw [flat_three]; simp only [List.length_append]; have := h2.1; omega

set_option maxRecDepth 100000 in
set_option maxHeartbeats 8000000 in
theorem takeC : TakeQ := fun s A n cap q w hw hcap h h100 hqw => by
  obtain ⟨R, hR⟩ : ∃ R, takeS s q = R := ⟨_, rfl⟩
  rw [hR]
  have HAP : Hid (ApartN (w.heap.size + 1) A n) := h.apart (by omega)
  have HA0 : Hid (ApartN w.heap.size A n) := h.apart (Nat.le_refl _)
  have hm0 := SnBlk.new w s (.slice A n cap)
  have hb0 : Below w.heap.size w (w.alloc (.cells #[.int .i64 s.next, .int .i64 s.seen, .slice A n cap] 24)) := (Below.refl _ _).alloc (Nat.le_refl _) _
  have hs0 : (w.alloc (.cells #[.int .i64 s.next, .int .i64 s.seen, .slice A n cap] 24)).heap.size = w.heap.size + 1 := by simp
  have hr1 : SnBlk ((w.alloc (.cells #[.int .i64 s.next, .int .i64 s.seen, .slice A n cap] 24)).alloc (.cells #[.int .i64 0, .int .i64 0, .slice none 0 0] 24)) (w.heap.size + 1) zeroS (.slice none 0 0) := by
    have h := SnBlk.new (w.alloc (.cells #[.int .i64 s.next, .int .i64 s.seen, .slice A n cap] 24)) zeroS (.slice none 0 0)
    rw [hs0] at h
    exact h
  have hb1 : Below w.heap.size w ((w.alloc (.cells #[.int .i64 s.next, .int .i64 s.seen, .slice A n cap] 24)).alloc (.cells #[.int .i64 0, .int .i64 0, .slice none 0 0] 24)) := hb0.alloc hb0.size _
  have hm1 := hm0.below ((Below.refl _ _).alloc (Nat.le_refl _) (.cells #[.int .i64 0, .int .i64 0, .slice none 0 0] 24))
  have hs1 : w.heap.size + 1 < ((w.alloc (.cells #[.int .i64 s.next, .int .i64 s.seen, .slice A n cap] 24)).alloc (.cells #[.int .i64 0, .int .i64 0, .slice none 0 0] 24)).heap.size := by simp
  unfold snV
  obtain ⟨W1, hW1⟩ : ∃ W, (w.alloc (.cells #[.int .i64 s.next, .int .i64 s.seen, .slice A n cap] 24)).alloc (.cells #[.int .i64 0, .int .i64 0, .slice none 0 0] 24) = W := ⟨_, rfl⟩
  rw [hW1] at hr1 hb1 hm1 hs1
  have HNS := Lib.hid (h.below hb1)
  have HM1 := Lib.hid hm1; clear hm1 hm0
  have HR1 := Lib.hid hr1; clear hr1
  have HB1 := Lib.hid hb1; clear hb1 hb0
  have HS1 := Lib.hid hs1; clear hs1 hs0
  have q1 := rightC s A n cap W1 hw hcap HNS.out
  unfold snV at q1
  obtain ⟨c0, c1, c2⟩ := HM1.out.cells
  have hqb := wf_bounds hqw
  have HWF := Lib.hid hw; clear hw
  clear h
  cases hr : rightS s with
  | false =>
    have HR : Hid (R = (s, false, 1)) := by
      show R = _
      rw [← hR]; exact takeS_arg (.inl (fun h => by rw [rightS_iff.2 h] at hr; cases hr))
    rw [hr] at q1
    clear hR hr
    go_enter Try.func11, Try.ntmps11
    go_wp2_with fail
    ((with_reducible refine q1.mono ?_); rintro e W2 ⟨rfl, b2⟩)
    have HM2 := Lib.hid (HM1.out.below b2)
    have HR2 := Lib.hid (HR1.out.below b2)
    have HN2 := Lib.hid (HNS.out.below b2)
    have HB2 := Lib.hid (bch HB1.out b2)
    have hsz2 : w.heap.size + 1 < W2.heap.size := by have := HS1.out; have := b2.size; omega
    clear c0 c1 c2 hW1 b2 q1 HM1 HR1 HNS HB1 HS1
    obtain ⟨c0, c1, c2⟩ := HM2.out.cells
    go_upto_region 2 with fail
    obtain ⟨z0, z1, z2⟩ := (HR2.out).cells
    simp only [zeroS] at z0 z1 z2
    have g0 := (HR2.out).frozen 0
    have g1 := (HR2.out).frozen 1
    have g2 := (HR2.out).frozen 2
    have hfin := (HR2.out).put s (.slice A n cap)
    obtain ⟨e0, e1, e2⟩ := hfin.cells
    try simp only at e0 e1 e2
    have HFB := Lib.hid (below_sn3 (g := w.heap.size + 1) (HB2.out) (by omega) (.int .i64 (s).next) (.int .i64 (s).seen) (.slice A n cap))
    have HFN := Lib.hid ((((HN2.out).far (g := w.heap.size + 1) (j := 0) (u := .int .i64 (s).next) (HAP.out)).far (g := w.heap.size + 1) (j := 1) (u := .int .i64 (s).seen) (HAP.out)).far (g := w.heap.size + 1) (j := 2) (u := (.slice A n cap)) (HAP.out))
    go_wp2_with fail
    refine bodyPost_ret (v := .tuple #[.agg #[.int .i64 (s).next, .int .i64 (s).seen, (.slice A n cap)], .bool false, .int .i64 1]) (by simp [snV, results, Try.results11, go_sem, e0, e1, e2]) rfl ⟨_, _, _, by rw [HR.out]; rfl, hcap, by rw [HR.out]; exact HFN.out, .inr ⟨rfl, rfl⟩, HFB.out⟩
  | true =>
    have hrr := rightS_iff.1 hr
    rw [hr] at q1
    clear hr
    by_cases g1 : q < 1
    · have HR : Hid (R = (s, false, 1)) := by
        show R = _
        rw [← hR]; exact takeS_arg (.inr (.inl g1))
      have d1 : decide (q < 1) = true := decide_eq_true g1
      clear hR hrr
      go_enter Try.func11, Try.ntmps11
      go_wp2_with fail
      ((with_reducible refine q1.mono ?_); rintro e W2 ⟨rfl, b2⟩)
      have HM2 := Lib.hid (HM1.out.below b2)
      have HR2 := Lib.hid (HR1.out.below b2)
      have HN2 := Lib.hid (HNS.out.below b2)
      have HB2 := Lib.hid (bch HB1.out b2)
      have hsz2 : w.heap.size + 1 < W2.heap.size := by have := HS1.out; have := b2.size; omega
      clear c0 c1 c2 hW1 b2 q1 HM1 HR1 HNS HB1 HS1
      obtain ⟨c0, c1, c2⟩ := HM2.out.cells
      go_upto_region 2 with fail
      obtain ⟨z0, z1, z2⟩ := (HR2.out).cells
      simp only [zeroS] at z0 z1 z2
      have g0 := (HR2.out).frozen 0
      have g1 := (HR2.out).frozen 1
      have g2 := (HR2.out).frozen 2
      have hfin := (HR2.out).put s (.slice A n cap)
      obtain ⟨e0, e1, e2⟩ := hfin.cells
      try simp only at e0 e1 e2
      have HFB := Lib.hid (below_sn3 (g := w.heap.size + 1) (HB2.out) (by omega) (.int .i64 (s).next) (.int .i64 (s).seen) (.slice A n cap))
      have HFN := Lib.hid ((((HN2.out).far (g := w.heap.size + 1) (j := 0) (u := .int .i64 (s).next) (HAP.out)).far (g := w.heap.size + 1) (j := 1) (u := .int .i64 (s).seen) (HAP.out)).far (g := w.heap.size + 1) (j := 2) (u := (.slice A n cap)) (HAP.out))
      go_wp2_with fail
      refine bodyPost_ret (v := .tuple #[.agg #[.int .i64 (s).next, .int .i64 (s).seen, (.slice A n cap)], .bool false, .int .i64 1]) (by simp [snV, results, Try.results11, go_sem, e0, e1, e2]) rfl ⟨_, _, _, by rw [HR.out]; rfl, hcap, by rw [HR.out]; exact HFN.out, .inr ⟨rfl, rfl⟩, HFB.out⟩
    · have d1 : decide (q < 1) = false := decide_eq_false g1
      by_cases g2 : 9007199254740992 < q
      · have HR : Hid (R = (s, false, 1)) := by
          show R = _
          rw [← hR]; exact takeS_arg (.inr (.inr g2))
        have d2 : decide (9007199254740992 < q) = true := decide_eq_true g2
        clear hR hrr
        go_enter Try.func11, Try.ntmps11
        go_wp2_with fail
        ((with_reducible refine q1.mono ?_); rintro e W2 ⟨rfl, b2⟩)
        have HM2 := Lib.hid (HM1.out.below b2)
        have HR2 := Lib.hid (HR1.out.below b2)
        have HN2 := Lib.hid (HNS.out.below b2)
        have HB2 := Lib.hid (bch HB1.out b2)
        have hsz2 : w.heap.size + 1 < W2.heap.size := by have := HS1.out; have := b2.size; omega
        clear c0 c1 c2 hW1 b2 q1 HM1 HR1 HNS HB1 HS1
        obtain ⟨c0, c1, c2⟩ := HM2.out.cells
        go_upto_region 2 with fail
        obtain ⟨z0, z1, z2⟩ := (HR2.out).cells
        simp only [zeroS] at z0 z1 z2
        have g0 := (HR2.out).frozen 0
        have g1 := (HR2.out).frozen 1
        have g2 := (HR2.out).frozen 2
        have hfin := (HR2.out).put s (.slice A n cap)
        obtain ⟨e0, e1, e2⟩ := hfin.cells
        try simp only at e0 e1 e2
        have HFB := Lib.hid (below_sn3 (g := w.heap.size + 1) (HB2.out) (by omega) (.int .i64 (s).next) (.int .i64 (s).seen) (.slice A n cap))
        have HFN := Lib.hid ((((HN2.out).far (g := w.heap.size + 1) (j := 0) (u := .int .i64 (s).next) (HAP.out)).far (g := w.heap.size + 1) (j := 1) (u := .int .i64 (s).seen) (HAP.out)).far (g := w.heap.size + 1) (j := 2) (u := (.slice A n cap)) (HAP.out))
        go_wp2_with fail
        refine bodyPost_ret (v := .tuple #[.agg #[.int .i64 (s).next, .int .i64 (s).seen, (.slice A n cap)], .bool false, .int .i64 1]) (by simp [snV, results, Try.results11, go_sem, e0, e1, e2]) rfl ⟨_, _, _, by rw [HR.out]; rfl, hcap, by rw [HR.out]; exact HFN.out, .inr ⟨rfl, rfl⟩, HFB.out⟩
      · have d2 : decide (9007199254740992 < q) = false := decide_eq_false g2
        have hsb := hrr.2.1
        have hws : IntKind.i64.wrap (s.seen + 64) = s.seen + 64 := IntWalk.i64_in _ (by omega)
        by_cases g3 : s.seen + 64 < q
        · have HR : Hid (R = (s, false, 60)) := by
            show R = _
            rw [← hR]; exact takeS_far hrr (by omega) (by omega) g3
          have d3 : decide (s.seen + 64 < q) = true := decide_eq_true g3
          clear hR hrr
          go_enter Try.func11, Try.ntmps11
          go_wp2_with fail
          ((with_reducible refine q1.mono ?_); rintro e W2 ⟨rfl, b2⟩)
          have HM2 := Lib.hid (HM1.out.below b2)
          have HR2 := Lib.hid (HR1.out.below b2)
          have HN2 := Lib.hid (HNS.out.below b2)
          have HB2 := Lib.hid (bch HB1.out b2)
          have hsz2 : w.heap.size + 1 < W2.heap.size := by have := HS1.out; have := b2.size; omega
          clear c0 c1 c2 hW1 b2 q1 HM1 HR1 HNS HB1 HS1
          obtain ⟨c0, c1, c2⟩ := HM2.out.cells
          go_upto_region 4 with fail
          obtain ⟨z0, z1, z2⟩ := (HR2.out).cells
          simp only [zeroS] at z0 z1 z2
          have g0 := (HR2.out).frozen 0
          have g1 := (HR2.out).frozen 1
          have g2 := (HR2.out).frozen 2
          have hfin := (HR2.out).put s (.slice A n cap)
          obtain ⟨e0, e1, e2⟩ := hfin.cells
          try simp only at e0 e1 e2
          have HFB := Lib.hid (below_sn3 (g := w.heap.size + 1) (HB2.out) (by omega) (.int .i64 (s).next) (.int .i64 (s).seen) (.slice A n cap))
          have HFN := Lib.hid ((((HN2.out).far (g := w.heap.size + 1) (j := 0) (u := .int .i64 (s).next) (HAP.out)).far (g := w.heap.size + 1) (j := 1) (u := .int .i64 (s).seen) (HAP.out)).far (g := w.heap.size + 1) (j := 2) (u := (.slice A n cap)) (HAP.out))
          go_wp2_with fail
          refine bodyPost_ret (v := .tuple #[.agg #[.int .i64 (s).next, .int .i64 (s).seen, (.slice A n cap)], .bool false, .int .i64 60]) (by simp [snV, results, Try.results11, go_sem, e0, e1, e2]) rfl ⟨_, _, _, by rw [HR.out]; rfl, hcap, by rw [HR.out]; exact HFN.out, .inr ⟨rfl, rfl⟩, HFB.out⟩
        · have d3 : decide (s.seen + 64 < q) = false := decide_eq_false g3
          have hn63 : n ≤ 63 := by rw [HNS.out.1]; exact hrr.len
          go_enter Try.func11, Try.ntmps11
          go_wp2_with fail
          ((with_reducible refine q1.mono ?_); rintro e W2 ⟨rfl, b2⟩)
          have HM2 := Lib.hid (HM1.out.below b2)
          have HR2 := Lib.hid (HR1.out.below b2)
          have HN2 := Lib.hid (HNS.out.below b2)
          have HB2 := Lib.hid (bch HB1.out b2)
          have hsz2 : w.heap.size + 1 < W2.heap.size := by have := HS1.out; have := b2.size; omega
          clear c0 c1 c2 hW1 b2 q1 HM1 HR1 HNS HB1 HS1
          obtain ⟨c0, c1, c2⟩ := HM2.out.cells
          have qb := search_any A n cap s.ahead q W2 HN2.out hrr.2.2.1 (by omega)
          go_wp2_with fail
          ((with_reducible refine qb.mono ?_); rintro e W3 ⟨⟨i, hi, rfl⟩, b3⟩)
          have HM3 := Lib.hid (HM2.out.below b3)
          have HR3 := Lib.hid (HR2.out.below b3)
          have HN3 := Lib.hid (HN2.out.below b3)
          have HB3 := Lib.hid (bch HB2.out b3)
          have hsz3 : w.heap.size + 1 < W3.heap.size := by have := b3.size; omega
          clear c0 c1 c2 b3 qb HM2 HR2 HN2 HB2
          obtain ⟨c0, c1, c2⟩ := HM3.out.cells
          by_cases hc : came s q
          · have HR : Hid (R = (s, false, 0)) := by
              show R = _
              rw [← hR]; exact takeS_old hrr (by omega) (by omega) (by omega) hc
            by_cases hm : q ∈ s.ahead
            · have d4 : decide (q ∈ s.ahead) = true := decide_eq_true hm
              clear hR hrr hc hi hm
              rw [d4]
              go_upto_region 7 with fail
              obtain ⟨z0, z1, z2⟩ := (HR3.out).cells
              simp only [zeroS] at z0 z1 z2
              have g0 := (HR3.out).frozen 0
              have g1 := (HR3.out).frozen 1
              have g2 := (HR3.out).frozen 2
              have hfin := (HR3.out).put s (.slice A n cap)
              obtain ⟨e0, e1, e2⟩ := hfin.cells
              try simp only at e0 e1 e2
              have HFB := Lib.hid (below_sn3 (g := w.heap.size + 1) (HB3.out) (by omega) (.int .i64 (s).next) (.int .i64 (s).seen) (.slice A n cap))
              have HFN := Lib.hid ((((HN3.out).far (g := w.heap.size + 1) (j := 0) (u := .int .i64 (s).next) (HAP.out)).far (g := w.heap.size + 1) (j := 1) (u := .int .i64 (s).seen) (HAP.out)).far (g := w.heap.size + 1) (j := 2) (u := (.slice A n cap)) (HAP.out))
              go_wp2_with fail
              refine bodyPost_ret (v := .tuple #[.agg #[.int .i64 (s).next, .int .i64 (s).seen, (.slice A n cap)], .bool false, .int .i64 0]) (by simp [snV, results, Try.results11, go_sem, e0, e1, e2]) rfl ⟨_, _, _, by rw [HR.out]; rfl, hcap, by rw [HR.out]; exact HFN.out, .inr ⟨rfl, rfl⟩, HFB.out⟩
            · have d4 : decide (q ∈ s.ahead) = false := decide_eq_false hm
              have g5 : q ≤ s.seen := by rcases hc with h | h; exact h; exact absurd h hm
              have d5 : decide (q ≤ s.seen) = true := decide_eq_true g5
              clear hR hrr hc hi hm
              rw [d4]
              go_upto_region 7 with fail
              obtain ⟨z0, z1, z2⟩ := (HR3.out).cells
              simp only [zeroS] at z0 z1 z2
              have g0 := (HR3.out).frozen 0
              have g1 := (HR3.out).frozen 1
              have g2 := (HR3.out).frozen 2
              have hfin := (HR3.out).put s (.slice A n cap)
              obtain ⟨e0, e1, e2⟩ := hfin.cells
              try simp only at e0 e1 e2
              have HFB := Lib.hid (below_sn3 (g := w.heap.size + 1) (HB3.out) (by omega) (.int .i64 (s).next) (.int .i64 (s).seen) (.slice A n cap))
              have HFN := Lib.hid ((((HN3.out).far (g := w.heap.size + 1) (j := 0) (u := .int .i64 (s).next) (HAP.out)).far (g := w.heap.size + 1) (j := 1) (u := .int .i64 (s).seen) (HAP.out)).far (g := w.heap.size + 1) (j := 2) (u := (.slice A n cap)) (HAP.out))
              go_wp2_with fail
              refine bodyPost_ret (v := .tuple #[.agg #[.int .i64 (s).next, .int .i64 (s).seen, (.slice A n cap)], .bool false, .int .i64 0]) (by simp [snV, results, Try.results11, go_sem, e0, e1, e2]) rfl ⟨_, _, _, by rw [HR.out]; rfl, hcap, by rw [HR.out]; exact HFN.out, .inr ⟨rfl, rfl⟩, HFB.out⟩
          · have hm : q ∉ s.ahead := fun h => hc (.inr h)
            have g5 : ¬ (q ≤ s.seen) := fun h => hc (.inl h)
            have d4 : decide (q ∈ s.ahead) = false := decide_eq_false hm
            have d5 : decide (q ≤ s.seen) = false := decide_eq_false g5
            have HR : Hid (R = (⟨s.next, (cutS s.seen (insS s.ahead i q)).1, (cutS s.seen (insS s.ahead i q)).2⟩, true, 0)) := by
              show R = _
              rw [← hR, takeS_new hrr (by omega) (by omega) (by omega) hc, cut_took hrr (by omega) (by omega) hc hi]
            have hil : i ≤ n := by rw [HN3.out.1]; exact hi.1
            clear hR hrr hc hi hm d1 d2 d3 g1 g2 g3
            rw [d4]
            go_upto_region 8 with fail
            obtain ⟨A2, hsl, hns2, hnw2, hA2⟩ := slice_ns_from HN3.out hil hcap
            have HN32 := Lib.hid hns2; clear hns2 hnw2 hsl
            have hic : i ≤ cap := by omega
            have hii : (i : Int) ≤ (cap : Int) := by omega
            have hin : (i : Int) ≤ (n : Int) := by omega
            have hi0 : (0 : Int) ≤ (i : Int) := by omega
            clear c0 c1 c2
            refine wp_region_noPanic ?_
            refine wp_region_till (S := fun W => Below W3.heap.size W3 W) [19, 21] (by kernel_rfl) ((Below.refl _ _).drew) (fun hHeld => ?_)
            refine wpTill_take (i := 0) (v := ?_) rfl (by kernel_rfl) (by kernel_rfl) (by kernel_rfl) (by kernel_rfl) (fun _ _ _ h => h) (Or.inl ⟨by rfl, ?_⟩) (by assumption) ?_
            rotate_left
            · (intro w hSw; (try dsimp only at hSw); go_simp; (try with_reducible rfl))
            simp only [Act.put, List.getElem_toArray, List.getElem_cons_zero, List.setIfInBounds_toArray, List.set_cons_zero, List.set_cons_succ]
            refine wpTill_take (i := 1) (v := ?_) rfl (by kernel_rfl) (by kernel_rfl) (by kernel_rfl) (by kernel_rfl) (fun _ _ _ h => h) (Or.inl ⟨by rfl, ?_⟩) (by assumption) ?_
            rotate_left
            · (intro w hSw; (try dsimp only at hSw); obtain ⟨c0, c1, c2⟩ := (HM3.out.below hSw).cells; go_simp; (try with_reducible rfl))
            simp only [Act.put, List.getElem_toArray, List.getElem_cons_zero, List.getElem_cons_succ, List.setIfInBounds_toArray, List.set_cons_zero, List.set_cons_succ]
            refine wpTill_take (i := 2) (v := ?_) rfl (by kernel_rfl) (by kernel_rfl) (by kernel_rfl) (by kernel_rfl) (fun _ _ _ h => h) (Or.inl ⟨by rfl, ?_⟩) (by assumption) ?_
            rotate_left
            · (intro w hSw; (try dsimp only at hSw); go_simp; (try with_reducible rfl))
            simp only [Act.put, List.getElem_toArray, List.getElem_cons_zero, List.getElem_cons_succ, List.setIfInBounds_toArray, List.set_cons_zero, List.set_cons_succ]
            refine wpTill_take (i := 3) (v := ?_) rfl (by kernel_rfl) (by kernel_rfl) (by kernel_rfl) (by kernel_rfl) (fun _ _ _ h => h) (Or.inl ⟨by rfl, ?_⟩) (by assumption) ?_
            rotate_left
            · (intro w hSw; (try dsimp only at hSw); obtain ⟨c0, c1, c2⟩ := (HM3.out.below hSw).cells; go_simp; (try with_reducible rfl))
            simp only [Act.put, List.getElem_toArray, List.getElem_cons_zero, List.getElem_cons_succ, List.setIfInBounds_toArray, List.set_cons_zero, List.set_cons_succ]
            refine wpTill_take (i := 4) (v := ?_) rfl (by kernel_rfl) (by kernel_rfl) (by kernel_rfl) (by kernel_rfl) (fun _ _ _ h => h) (Or.inl ⟨by rfl, ?_⟩) (by assumption) ?_
            rotate_left
            · (intro w hSw; (try dsimp only at hSw); go_simp; (try with_reducible rfl))
            simp only [Act.put, List.getElem_toArray, List.getElem_cons_zero, List.getElem_cons_succ, List.setIfInBounds_toArray, List.set_cons_zero, List.set_cons_succ]
            refine wpTill_take (i := 5) (v := ?_) rfl (by kernel_rfl) (by kernel_rfl) (by kernel_rfl) (by kernel_rfl) (fun _ _ _ h => h) (Or.inl ⟨by rfl, ?_⟩) (by assumption) ?_
            rotate_left
            · (intro w hSw; (try dsimp only at hSw); go_simp; (try with_reducible rfl))
            simp only [Act.put, List.getElem_toArray, List.getElem_cons_zero, List.getElem_cons_succ, List.setIfInBounds_toArray, List.set_cons_zero, List.set_cons_succ]
            refine wpTill_take (i := 6) (v := ?_) rfl (by kernel_rfl) (by kernel_rfl) (by kernel_rfl) (by kernel_rfl) (fun _ _ _ h => h) (Or.inl ⟨by rfl, ?_⟩) (by assumption) ?_
            rotate_left
            · (intro w hSw; (try dsimp only at hSw); go_simp; (try with_reducible rfl))
            simp only [Act.put, List.getElem_toArray, List.getElem_cons_zero, List.getElem_cons_succ, List.setIfInBounds_toArray, List.set_cons_zero, List.set_cons_succ]
            refine wpTill_take (i := 8) (v := ?_) rfl (by kernel_rfl) (by kernel_rfl) (by kernel_rfl) (by kernel_rfl) (fun _ _ _ h => h) (Or.inl ⟨by rfl, ?_⟩) (by assumption) ?_
            rotate_left
            · (intro w hSw; (try dsimp only at hSw); go_simp; (try with_reducible rfl))
            simp only [Act.put, List.getElem_toArray, List.getElem_cons_zero, List.getElem_cons_succ, List.setIfInBounds_toArray, List.set_cons_zero, List.set_cons_succ]
            refine wpTill_take (i := 9) (v := ?_) rfl (by kernel_rfl) (by kernel_rfl) (by kernel_rfl) (by kernel_rfl) (fun _ _ _ h => h) (Or.inl ⟨by rfl, ?_⟩) (by assumption) ?_
            rotate_left
            · (intro w hSw; (try dsimp only at hSw); obtain ⟨c0, c1, c2⟩ := (HM3.out.below hSw).cells; go_simp; (try with_reducible rfl))
            simp only [Act.put, List.getElem_toArray, List.getElem_cons_zero, List.getElem_cons_succ, List.setIfInBounds_toArray, List.set_cons_zero, List.set_cons_succ]
            refine wpTill_take (i := 10) (v := ?_) rfl (by kernel_rfl) (by kernel_rfl) (by kernel_rfl) (by kernel_rfl) (fun _ _ _ h => h) (Or.inl ⟨by rfl, ?_⟩) (by assumption) ?_
            rotate_left
            · (intro w hSw; (try dsimp only at hSw); go_simp; (try with_reducible rfl))
            simp only [Act.put, List.getElem_toArray, List.getElem_cons_zero, List.getElem_cons_succ, List.setIfInBounds_toArray, List.set_cons_zero, List.set_cons_succ]
            refine wpTill_take (i := 11) (v := ?_) rfl (by kernel_rfl) (by kernel_rfl) (by kernel_rfl) (by kernel_rfl) (fun _ _ _ h => h) (Or.inl ⟨by rfl, ?_⟩) (by assumption) ?_
            rotate_left
            · (intro w hSw; (try dsimp only at hSw); go_simp; (try with_reducible rfl))
            simp only [Act.put, List.getElem_toArray, List.getElem_cons_zero, List.getElem_cons_succ, List.setIfInBounds_toArray, List.set_cons_zero, List.set_cons_succ]
            refine wpTill_ready (rs := [7]) (by kernel_rfl) (by simp) ?_
            refine AllReadyT.cons rfl (fun K hK => ?_) AllReadyT.nil
            rw [if_pos (by rfl)]
            go_simp
            refine hK.out _ _ (hHeld.alloc hHeld.size _) (fun hHeld2 => ?_)
            clear hK K hHeld
            have hHeld := hHeld2; clear hHeld2
            have h7 := (isNs_one W3 q hqw 3).drew
            have hz7 : (W3.alloc (.cells #[.int .i64 q] 3)).drew.heap.size = W3.heap.size + 1 := by simp
            obtain ⟨V7, hV7⟩ : ∃ W, (W3.alloc (.cells #[.int .i64 q] 3)).drew = W := ⟨_, rfl⟩
            rw [hV7] at hHeld h7 hz7 ⊢
            clear hV7
            have H7 := Lib.hid h7; clear h7
            have HZ7 := Lib.hid hz7; clear hz7
            refine wpTill_ready (rs := [12]) (by kernel_rfl) (by simp) ?_
            refine AllReadyT.cons rfl (fun K hK => ?_) AllReadyT.nil
            rw [if_pos (by rfl)]
            go_simp
            refine hK.out _ _ (hHeld.alloc hHeld.size _) (fun hHeld2 => ?_)
            clear hK K hHeld
            have hHeld := hHeld2; clear hHeld2
            have h12 : Blk (V7.alloc (.cells #[.slice A i cap, .slice (some ⟨W3.heap.size, 0, none⟩) 1 1, .slice A2 (n - i) (cap - i)] 22)) V7.heap.size (.cells #[.slice A i cap, .slice (some ⟨W3.heap.size, 0, none⟩) 1 1, .slice A2 (n - i) (cap - i)] 22 (0, 0)) := Blk.new V7 _
            have hz12 : (V7.alloc (.cells #[.slice A i cap, .slice (some ⟨W3.heap.size, 0, none⟩) 1 1, .slice A2 (n - i) (cap - i)] 22)).heap.size = V7.heap.size + 1 := by simp
            have b712 : Below V7.heap.size V7 (V7.alloc (.cells #[.slice A i cap, .slice (some ⟨W3.heap.size, 0, none⟩) 1 1, .slice A2 (n - i) (cap - i)] 22)) := (Below.refl _ _).alloc (Nat.le_refl _) _
            obtain ⟨V12, hV12⟩ : ∃ W, V7.alloc (.cells #[.slice A i cap, .slice (some ⟨W3.heap.size, 0, none⟩) 1 1, .slice A2 (n - i) (cap - i)] 22) = W := ⟨_, rfl⟩
            rw [hV12] at hHeld h12 hz12 b712 ⊢
            clear hV12
            have H12 := Lib.hid h12; clear h12
            have HZ12 := Lib.hid hz12; clear hz12
            have H712 := Lib.hid b712; clear b712
            refine wpTill_ready (rs := [13]) (by kernel_rfl) (by simp) ?_
            refine AllReadyT.cons rfl (fun K hK => ?_) AllReadyT.nil
            rw [if_pos (by rfl)]
            go_simp
            ((with_reducible refine (concat_any V7.heap.size A (some ⟨W3.heap.size, 0, none⟩) A2 i 1 (n - i) cap 1 (cap - i) (s.ahead.take i) [q] (s.ahead.drop i) V12 H12.out ((HN3.out.take hil).below hHeld) (H7.out.below H712.out) (HN32.out.below hHeld) (by omega) (by omega) (by omega) (by omega)).mono ?_); rintro e w' ⟨A5, n5, cap5, rfl, hcap5, hns5, hnew5, b5⟩)
            have hz13 : V12.heap.size ≤ w'.heap.size := b5.size
            have hl5 : n5 ≤ 100 := by have := hns5.1; have h2 := hil; have h3 := HN3.out.1; simp only [List.length_append, List.length_take, List.length_drop, List.length_singleton] at this; omega
            have HN5 : Hid (IsNs w' A5 n5 (insS s.ahead i q)) := hns5
            have HNW5 := Lib.hid hnew5
            clear hns5 hnew5
            refine hK.out _ _ (bch hHeld b5) (fun hHeld2 => ?_)
            clear hK K hHeld
            have hHeld := hHeld2; clear hHeld2
            have HZ13 := Lib.hid hz13; clear hz13 b5
            refine wpTill_ready (rs := [14]) (by kernel_rfl) (by simp) ?_
            refine AllReadyT.cons rfl (fun K hK => ?_) AllReadyT.nil
            rw [if_pos (by rfl)]
            go_simp
            ((with_reducible refine (cut_any A5 n5 cap5 (insS s.ahead i q) s.seen V12.heap.size _ HN5.out hcap5 hl5 hsb HNW5.out).mono ?_); rintro e w' ⟨A9, n9, cap9, rfl, hcap9, hns9, hnew9, b9⟩)
            have HN9 := Lib.hid (hns9.below b9)
            have HNW9 := Lib.hid hnew9
            clear hns9 hnew9
            refine hK.out _ _ (bch hHeld b9) (fun hHeld2 => ?_)
            clear hK K hHeld
            have hHeld := hHeld2; clear hHeld2
            clear b9
            refine wpTill_take (i := 15) (v := ?_) rfl (by kernel_rfl) (by kernel_rfl) (by kernel_rfl) (by kernel_rfl) (fun _ _ _ h => h) (Or.inl ⟨by rfl, ?_⟩) (by assumption) ?_
            rotate_left
            · (intro w hSw; (try dsimp only at hSw); go_simp; (try with_reducible rfl))
            simp only [Act.put, List.getElem_toArray, List.getElem_cons_zero, List.getElem_cons_succ, List.setIfInBounds_toArray, List.set_cons_zero, List.set_cons_succ]
            refine wpTill_pure (i := 16) (v := ?_) rfl (by kernel_rfl) (by kernel_rfl) (by kernel_rfl) (by kernel_rfl) (fun _ _ _ h => h) (Or.inl ⟨by rfl, ?_⟩) (by assumption) ?_
            rotate_left
            · (intro w hSw; (try dsimp only at hSw); go_simp; (try with_reducible rfl))
            simp only [Act.put, List.getElem_toArray, List.getElem_cons_zero, List.getElem_cons_succ, List.setIfInBounds_toArray, List.set_cons_zero, List.set_cons_succ]
            refine wpTill_pure (i := 17) (v := ?_) rfl (by kernel_rfl) (by kernel_rfl) (by kernel_rfl) (by kernel_rfl) (fun _ _ _ h => h) (Or.inl ⟨by rfl, ?_⟩) (by assumption) ?_
            rotate_left
            · (intro w hSw; (try dsimp only at hSw); go_simp; (try with_reducible rfl))
            simp only [Act.put, List.getElem_toArray, List.getElem_cons_zero, List.getElem_cons_succ, List.setIfInBounds_toArray, List.set_cons_zero, List.set_cons_succ]
            refine wpTill_pure (i := 18) (v := ?_) rfl (by kernel_rfl) (by kernel_rfl) (by kernel_rfl) (by kernel_rfl) (fun _ _ _ h => h) (Or.inl ⟨by rfl, ?_⟩) (by assumption) ?_
            rotate_left
            · (intro w hSw; (try dsimp only at hSw); go_simp; (try with_reducible rfl))
            simp only [Act.put, List.getElem_toArray, List.getElem_cons_zero, List.getElem_cons_succ, List.setIfInBounds_toArray, List.set_cons_zero, List.set_cons_succ]
            have hm9 := HM3.out.below hHeld
            have hr9 := HR3.out.below hHeld
            have hb9 := bch HB3.out hHeld
            obtain ⟨c0, c1, c2⟩ := hm9.cells
            have f1 := hm9.frozen 1
            have f2 := hm9.frozen 2
            have HS := Lib.hid hHeld
            refine wpTill_ready (rs := [19]) (by kernel_rfl) (by simp) ?_
            refine AllReadyT.last rfl (by kernel_rfl) (fun K hK => ?_) AllReadyT.nil
            rw [if_pos (by rfl)]
            go_simp
            refine hK.out _ _ (trivial) (fun hHeld2 => ?_)
            clear hK K hHeld
            have hHeld := hHeld2; clear hHeld2
            refine wpTill_behind (i := 20) (v := ?_) rfl (by kernel_rfl) (by kernel_rfl) (by kernel_rfl) (by kernel_rfl) (fun _ _ _ h => h) (Or.inl ⟨by rfl, ?_⟩) (by kernel_rfl) ?_
            rotate_left
            · (intro w hSw; (try dsimp only at hSw); go_simp; (try with_reducible rfl))
            simp only [Act.put, List.getElem_toArray, List.getElem_cons_zero, List.getElem_cons_succ, List.setIfInBounds_toArray, List.set_cons_zero, List.set_cons_succ]
            refine wpTill_ready (rs := [21]) (by kernel_rfl) (by simp) ?_
            refine AllReadyT.last rfl (by kernel_rfl) (fun K hK => ?_) AllReadyT.nil
            rw [if_pos (by rfl)]
            go_simp
            refine hK.out _ _ (trivial) (fun hHeld2 => ?_)
            clear hK K hHeld
            have hHeld := hHeld2; clear hHeld2
            refine wpTill_done (by kernel_rfl) ?_ _
            refine NoPanic.normal ?_
            go_upto_region 9 with fail
            have hv12 : w.heap.size + 2 ≤ V12.heap.size := by have := HZ12.out; have := HZ7.out; omega
            have hm10 := (hm9.putSeen (cutS s.seen (insS s.ahead i q)).1).putAhead (cutS s.seen (insS s.ahead i q)).2 (.slice A9 n9 cap9)
            have hr10 := (hr9.far (g := w.heap.size) (by omega) 1 (.int .i64 (cutS s.seen (insS s.ahead i q)).1)).far (g := w.heap.size) (by omega) 2 (.slice A9 n9 cap9)
            have hb10 := (hb9.setCell (p := ⟨w.heap.size, 1, none⟩) (Nat.le_refl _) (.int .i64 (cutS s.seen (insS s.ahead i q)).1)).setCell (p := ⟨w.heap.size, 2, none⟩) (Nat.le_refl _) (.slice A9 n9 cap9)
            have hn10 := (HN9.out.set (g := w.heap.size) (j := 1) (u := .int .i64 (cutS s.seen (insS s.ahead i q)).1) HNW9.out (by omega)).set (g := w.heap.size) (j := 2) (u := .slice A9 n9 cap9) HNW9.out (by omega)
            have hap10 : ApartN (w.heap.size + 1) A9 n9 := fun hn b off e => by have := HNW9.out hn b off e; omega
            have hnw10 : NewN w.heap.size A9 n9 := HNW9.out.mono (by omega)
            generalize cutS s.seen (insS s.ahead i q) = T at *
            obtain ⟨a, r⟩ := T
            simp only at hm10 hr10 hb10 hn10 HR ⊢
            obtain ⟨V10, hV10⟩ : ∃ W, (w'.setCell ⟨w.heap.size, 1, none⟩ (.int .i64 a)).setCell ⟨w.heap.size, 2, none⟩ (.slice A9 n9 cap9) = W := ⟨_, rfl⟩
            rw [hV10] at hm10 hr10 hb10 hn10 ⊢
            clear hV10 c0 c1 c2 f1 f2 hm9 hr9 hb9 HN9 HNW9 HS
            obtain ⟨c0, c1, c2⟩ := hm10.cells
            simp only at c0 c1 c2
            have HR10 := Lib.hid hr10; clear hr10
            have HB10 := Lib.hid hb10; clear hb10
            have HN10 := Lib.hid hn10; clear hn10
            have HAP10 := Lib.hid hap10; clear hap10
            have HNW10 := Lib.hid hnw10; clear hnw10
            clear hm10 HM3 HR3 HN3 HB3
            obtain ⟨z0, z1, z2⟩ := (HR10.out).cells
            simp only [zeroS] at z0 z1 z2
            have g0 := (HR10.out).frozen 0
            have g1 := (HR10.out).frozen 1
            have g2 := (HR10.out).frozen 2
            have hfin := (HR10.out).put (⟨s.next, a, r⟩ : Sn) (.slice A9 n9 cap9)
            obtain ⟨e0, e1, e2⟩ := hfin.cells
            try simp only at e0 e1 e2
            have HFB := Lib.hid (below_sn3 (g := w.heap.size + 1) (HB10.out) (by omega) (.int .i64 s.next) (.int .i64 a) (.slice A9 n9 cap9))
            have HFN := Lib.hid ((((HN10.out).far (g := w.heap.size + 1) (j := 0) (u := .int .i64 s.next) (HAP10.out)).far (g := w.heap.size + 1) (j := 1) (u := .int .i64 a) (HAP10.out)).far (g := w.heap.size + 1) (j := 2) (u := (.slice A9 n9 cap9)) (HAP10.out))
            go_wp2_with fail
            refine bodyPost_ret (v := .tuple #[.agg #[.int .i64 s.next, .int .i64 a, (.slice A9 n9 cap9)], .bool true, .int .i64 0]) (by simp [snV, results, Try.results11, go_sem, e0, e1, e2]) rfl ⟨_, _, _, by rw [HR.out]; rfl, hcap9, by rw [HR.out]; exact HFN.out, .inl HNW10.out, HFB.out⟩
end Go.Proofs.Ytcifcpggiifjeaa
