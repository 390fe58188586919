import Derived.Test.YtfnkgldfgciplaaDoorNegoSix
import Derived.Test.YtfnkgldfgciplaaDoorGMath
/-
  The walk of the law NegoThree, over what is asked of the program (stage 9).
-/
namespace Go.Proofs.YtfnkgldfgciplaaDoor
open Go.RowKit
set_option linter.unusedVariables false
set_option linter.unusedSimpArgs false

set_option maxRecDepth 100000 in
set_option maxHeartbeats 8000000 in
theorem negoThree_core (hR : RightN) (hO : OfN) (hA : AgreeN) (a0 a1 a2 a3 a4 a5 c0 c1 c2 c3 c4 c5 : Int) (w : World) (hk : Knw w) (h0 : (Lit.int .i64 a0).wf = true) (h1 : (Lit.int .i64 a1).wf = true) (h2 : (Lit.int .i64 a2).wf = true) (h3 : (Lit.int .i64 a3).wf = true) (h4 : (Lit.int .i64 a4).wf = true) (h5 : (Lit.int .i64 a5).wf = true) (k0 : (Lit.int .i64 c0).wf = true) (k1 : (Lit.int .i64 c1).wf = true) (k2 : (Lit.int .i64 c2).wf = true) (k3 : (Lit.int .i64 c3).wf = true) (k4 : (Lit.int .i64 c4).wf = true) (k5 : (Lit.int .i64 c5).wf = true) :
    Calls Tryd.prog 7 #[.agg #[.int .i64 a0, .int .i64 a1, .int .i64 a2, .int .i64 a3, .int .i64 a4, .int .i64 a5], .agg #[.int .i64 c0, .int .i64 c1, .int .i64 c2, .int .i64 c3, .int .i64 c4, .int .i64 c5]] w fun e w' => e = .returned (.bool true) ∧ Below w.heap.size w w' := by
  have qw := fun W (hb : Below w.heap.size w W) => awake9_any hR hO hA W (hk.below hb)
  have qa := fun W => hello_any a0 a1 a2 h0 h1 h2 W
  have qb := fun W => hello_any a3 a4 a5 h3 h4 h5 W
  have qc := fun W => hello_any c0 c1 c2 k0 k1 k2 W
  have ra := helR_right a0 a1 a2
  have rb := helR_right a3 a4 a5
  have rc := helR_right c0 c1 c2
  generalize helR a0 a1 a2 = A at qa ra
  generalize helR a3 a4 a5 = B at qb rb
  generalize helR c0 c1 c2 = C at qc rc
  have g1 := fun W => hA.as A B ra rb W
  have g2 := fun W => hA.as B C rb rc W
  have g3 := fun W => hA.as A C ra rc W
  unfold hlV at qa qb qc
  have hl1 := agH_lt A B
  have hl2 := agH_lt B C
  have hl3 := agH_lt A C
  have ht := fun x y => ag_three ra rb rc x y
  generalize agH A B = D1 at g1 hl1 ht
  generalize agH B C = D2 at g2 hl2 ht
  generalize agH A C = D3 at g3 hl3 ht
  obtain ⟨v1, f1, n1⟩ := D1
  obtain ⟨v2, f2, n2⟩ := D2
  obtain ⟨v3, f3, n3⟩ := D3
  simp only at g1 g2 g3 hl1 hl2 hl3 ht
  have b1 : bits .and .i64 (f1 : Int) (f2 : Int) = ((f1 &&& f2 : Nat) : Int) := i64_bandN f1 f2 (by omega) (by omega)
  have b2 : bits .and .i64 ((f1 &&& f2 : Nat) : Int) (f3 : Int) = ((f1 &&& f2 &&& f3 : Nat) : Int) := i64_bandN _ f3 (and_lt (by omega)) (by omega)
  unfold subN at ht
  generalize f1 &&& f2 &&& f3 = K3 at *
  generalize f1 &&& f2 = K at *
  have HT := Lib.hid ht; clear ht
  have BB := Lib.hid (And.intro b1 b2); clear b1 b2
  clear hR hO hA h0 h1 h2 h3 h4 h5 k0 k1 k2 k3 k4 k5 hl1 hl2 hl3 ra rb rc
  have hb0 : Below w.heap.size w ((w.alloc (.cells #[.int .i64 a0, .int .i64 a1, .int .i64 a2, .int .i64 a3, .int .i64 a4, .int .i64 a5] 24)).alloc (.cells #[.int .i64 c0, .int .i64 c1, .int .i64 c2, .int .i64 c3, .int .i64 c4, .int .i64 c5] 24)) := ((Below.refl _ _).alloc (Nat.le_refl _) _).alloc (by simp) _
  have ha : A6Blk ((w.alloc (.cells #[.int .i64 a0, .int .i64 a1, .int .i64 a2, .int .i64 a3, .int .i64 a4, .int .i64 a5] 24)).alloc (.cells #[.int .i64 c0, .int .i64 c1, .int .i64 c2, .int .i64 c3, .int .i64 c4, .int .i64 c5] 24)) w.heap.size a0 a1 a2 a3 a4 a5 := (A6Blk.new w a0 a1 a2 a3 a4 a5).below ((Below.refl _ _).alloc (Nat.le_refl _) _)
  have hx : A6Blk ((w.alloc (.cells #[.int .i64 a0, .int .i64 a1, .int .i64 a2, .int .i64 a3, .int .i64 a4, .int .i64 a5] 24)).alloc (.cells #[.int .i64 c0, .int .i64 c1, .int .i64 c2, .int .i64 c3, .int .i64 c4, .int .i64 c5] 24)) (w.heap.size + 1) c0 c1 c2 c3 c4 c5 := by
    have h := A6Blk.new (w.alloc (.cells #[.int .i64 a0, .int .i64 a1, .int .i64 a2, .int .i64 a3, .int .i64 a4, .int .i64 a5] 24)) c0 c1 c2 c3 c4 c5
    rw [World.size_alloc] at h
    exact h
  obtain ⟨W0, hW0⟩ : ∃ W, (w.alloc (.cells #[.int .i64 a0, .int .i64 a1, .int .i64 a2, .int .i64 a3, .int .i64 a4, .int .i64 a5] 24)).alloc (.cells #[.int .i64 c0, .int .i64 c1, .int .i64 c2, .int .i64 c3, .int .i64 c4, .int .i64 c5] 24) = W := ⟨_, rfl⟩
  rw [hW0] at hb0 ha hx
  have HB0 := Lib.hid hb0; clear hb0
  have Hx0 := Lib.hid ha; clear ha
  have Hy0 := Lib.hid hx; clear hx
  go_enter Tryd.func7, Tryd.ntmps7
  go_wp2_with fail
  ((with_reducible refine (qw _ HB0.out).mono ?_); rintro e W1 ⟨rfl, b_⟩)
  have h_b := bch HB0.out b_
  have h_x := Hx0.out.below b_
  have h_y := Hy0.out.below b_
  have HB1 := Lib.hid h_b; clear h_b
  have Hx1 := Lib.hid h_x; clear h_x
  have Hy1 := Lib.hid h_y; clear h_y
  clear b_
  clear hW0 qw
  obtain ⟨x0, x1, x2, x3, x4, x5⟩ := Hx1.out.cells
  go_wp2_with fail
  ((with_reducible refine (qa _).mono ?_); rintro e W2 ⟨rfl, b_⟩)
  clear x0 x1 x2 x3 x4 x5
  go_upto_region 3 with fail
  have h_b := (bch HB1.out b_).alloc (bch HB1.out b_).size (.cells #[.int .i64 A.low, .int .i64 A.high, .int .i64 A.feat] 23)
  have h_x := (Hx1.out.below b_).below ((Below.refl _ _).alloc (Nat.le_refl _) (.cells #[.int .i64 A.low, .int .i64 A.high, .int .i64 A.feat] 23))
  have h_y := (Hy1.out.below b_).below ((Below.refl _ _).alloc (Nat.le_refl _) (.cells #[.int .i64 A.low, .int .i64 A.high, .int .i64 A.feat] 23))
  have h_p := HlBlk.new W2 A
  obtain ⟨V_W2, hV_⟩ : ∃ W, W2.alloc (.cells #[.int .i64 A.low, .int .i64 A.high, .int .i64 A.feat] 23) = W := ⟨_, rfl⟩
  rw [hV_] at h_b h_x h_y h_p ⊢
  clear hV_
  have HB2 := Lib.hid h_b; clear h_b
  have Hx2 := Lib.hid h_x; clear h_x
  have Hy2 := Lib.hid h_y; clear h_y
  have Hp2 := Lib.hid h_p; clear h_p
  clear b_
  obtain ⟨x0, x1, x2, x3, x4, x5⟩ := Hx2.out.cells
  go_wp2_with fail
  ((with_reducible refine (qb _).mono ?_); rintro e W3 ⟨rfl, b_⟩)
  clear x0 x1 x2 x3 x4 x5
  go_upto_region 4 with fail
  have h_b := (bch HB2.out b_).alloc (bch HB2.out b_).size (.cells #[.int .i64 B.low, .int .i64 B.high, .int .i64 B.feat] 23)
  have h_y := (Hy2.out.below b_).below ((Below.refl _ _).alloc (Nat.le_refl _) (.cells #[.int .i64 B.low, .int .i64 B.high, .int .i64 B.feat] 23))
  have h_p := (Hp2.out.below b_).below ((Below.refl _ _).alloc (Nat.le_refl _) (.cells #[.int .i64 B.low, .int .i64 B.high, .int .i64 B.feat] 23))
  have h_q := HlBlk.new W3 B
  obtain ⟨V_W3, hV_⟩ : ∃ W, W3.alloc (.cells #[.int .i64 B.low, .int .i64 B.high, .int .i64 B.feat] 23) = W := ⟨_, rfl⟩
  rw [hV_] at h_b h_y h_p h_q ⊢
  clear hV_
  have HB3 := Lib.hid h_b; clear h_b
  have Hy3 := Lib.hid h_y; clear h_y
  have Hp3 := Lib.hid h_p; clear h_p
  have Hq3 := Lib.hid h_q; clear h_q
  clear b_
  obtain ⟨x0, x1, x2, x3, x4, x5⟩ := Hy3.out.cells
  go_wp2_with fail
  ((with_reducible refine (qc _).mono ?_); rintro e W4 ⟨rfl, b_⟩)
  clear x0 x1 x2 x3 x4 x5
  go_upto_region 5 with fail
  have h_b := (bch HB3.out b_).alloc (bch HB3.out b_).size (.cells #[.int .i64 C.low, .int .i64 C.high, .int .i64 C.feat] 23)
  have h_p := (Hp3.out.below b_).below ((Below.refl _ _).alloc (Nat.le_refl _) (.cells #[.int .i64 C.low, .int .i64 C.high, .int .i64 C.feat] 23))
  have h_q := (Hq3.out.below b_).below ((Below.refl _ _).alloc (Nat.le_refl _) (.cells #[.int .i64 C.low, .int .i64 C.high, .int .i64 C.feat] 23))
  have h_r := HlBlk.new W4 C
  obtain ⟨V_W4, hV_⟩ : ∃ W, W4.alloc (.cells #[.int .i64 C.low, .int .i64 C.high, .int .i64 C.feat] 23) = W := ⟨_, rfl⟩
  rw [hV_] at h_b h_p h_q h_r ⊢
  clear hV_
  have HB4 := Lib.hid h_b; clear h_b
  have Hp4 := Lib.hid h_p; clear h_p
  have Hq4 := Lib.hid h_q; clear h_q
  have Hr4 := Lib.hid h_r; clear h_r
  clear b_
  obtain ⟨p0, p1, p2⟩ := Hp4.out.cells
  try simp only at p0 p1 p2
  obtain ⟨q0, q1, q2⟩ := Hq4.out.cells
  try simp only at q0 q1 q2
  go_wp2_with fail
  ((with_reducible refine (g1 _).mono ?_); rintro e W5 ⟨rfl, b_⟩)
  clear p0 p1 p2 q0 q1 q2
  go_upto_region 6 with fail
  have h_b := (bch HB4.out b_).alloc (bch HB4.out b_).size (.cells #[.int .i64 (v1 : Int), .int .i64 (f1 : Int)] 30)
  have h_p := (Hp4.out.below b_).below ((Below.refl _ _).alloc (Nat.le_refl _) (.cells #[.int .i64 (v1 : Int), .int .i64 (f1 : Int)] 30))
  have h_q := (Hq4.out.below b_).below ((Below.refl _ _).alloc (Nat.le_refl _) (.cells #[.int .i64 (v1 : Int), .int .i64 (f1 : Int)] 30))
  have h_r := (Hr4.out.below b_).below ((Below.refl _ _).alloc (Nat.le_refl _) (.cells #[.int .i64 (v1 : Int), .int .i64 (f1 : Int)] 30))
  have h_d := DlBlk.new W5 v1 f1
  obtain ⟨V_W5, hV_⟩ : ∃ W, W5.alloc (.cells #[.int .i64 (v1 : Int), .int .i64 (f1 : Int)] 30) = W := ⟨_, rfl⟩
  rw [hV_] at h_b h_p h_q h_r h_d ⊢
  clear hV_
  have HB5 := Lib.hid h_b; clear h_b
  have Hp5 := Lib.hid h_p; clear h_p
  have Hq5 := Lib.hid h_q; clear h_q
  have Hr5 := Lib.hid h_r; clear h_r
  have Hd5 := Lib.hid h_d; clear h_d
  clear b_
  obtain ⟨q0, q1, q2⟩ := Hq5.out.cells
  try simp only at q0 q1 q2
  obtain ⟨r0, r1, r2⟩ := Hr5.out.cells
  try simp only at r0 r1 r2
  go_wp2_with fail
  ((with_reducible refine (g2 _).mono ?_); rintro e W6 ⟨rfl, b_⟩)
  clear q0 q1 q2 r0 r1 r2
  go_upto_region 7 with fail
  have h_b := (bch HB5.out b_).alloc (bch HB5.out b_).size (.cells #[.int .i64 (v2 : Int), .int .i64 (f2 : Int)] 30)
  have h_p := (Hp5.out.below b_).below ((Below.refl _ _).alloc (Nat.le_refl _) (.cells #[.int .i64 (v2 : Int), .int .i64 (f2 : Int)] 30))
  have h_r := (Hr5.out.below b_).below ((Below.refl _ _).alloc (Nat.le_refl _) (.cells #[.int .i64 (v2 : Int), .int .i64 (f2 : Int)] 30))
  have h_d := (Hd5.out.below b_).below ((Below.refl _ _).alloc (Nat.le_refl _) (.cells #[.int .i64 (v2 : Int), .int .i64 (f2 : Int)] 30))
  have h_e := DlBlk.new W6 v2 f2
  obtain ⟨V_W6, hV_⟩ : ∃ W, W6.alloc (.cells #[.int .i64 (v2 : Int), .int .i64 (f2 : Int)] 30) = W := ⟨_, rfl⟩
  rw [hV_] at h_b h_p h_r h_d h_e ⊢
  clear hV_
  have HB6 := Lib.hid h_b; clear h_b
  have Hp6 := Lib.hid h_p; clear h_p
  have Hr6 := Lib.hid h_r; clear h_r
  have Hd6 := Lib.hid h_d; clear h_d
  have He6 := Lib.hid h_e; clear h_e
  clear b_
  obtain ⟨p0, p1, p2⟩ := Hp6.out.cells
  try simp only at p0 p1 p2
  obtain ⟨r0, r1, r2⟩ := Hr6.out.cells
  try simp only at r0 r1 r2
  go_wp2_with fail
  ((with_reducible refine (g3 _).mono ?_); rintro e W7 ⟨rfl, b_⟩)
  clear p0 p1 p2 r0 r1 r2
  go_upto_region 8 with fail
  have h_b := (bch HB6.out b_).alloc (bch HB6.out b_).size (.cells #[.int .i64 (v3 : Int), .int .i64 (f3 : Int)] 30)
  have h_d := (Hd6.out.below b_).below ((Below.refl _ _).alloc (Nat.le_refl _) (.cells #[.int .i64 (v3 : Int), .int .i64 (f3 : Int)] 30))
  have h_e := (He6.out.below b_).below ((Below.refl _ _).alloc (Nat.le_refl _) (.cells #[.int .i64 (v3 : Int), .int .i64 (f3 : Int)] 30))
  have h_s := DlBlk.new W7 v3 f3
  obtain ⟨V_W7, hV_⟩ : ∃ W, W7.alloc (.cells #[.int .i64 (v3 : Int), .int .i64 (f3 : Int)] 30) = W := ⟨_, rfl⟩
  rw [hV_] at h_b h_d h_e h_s ⊢
  clear hV_
  have HB7 := Lib.hid h_b; clear h_b
  have Hd7 := Lib.hid h_d; clear h_d
  have He7 := Lib.hid h_e; clear h_e
  have Hs7 := Lib.hid h_s; clear h_s
  clear b_
  obtain ⟨d0, d1⟩ := Hd7.out.cells
  try simp only at d0 d1
  obtain ⟨e0, e1⟩ := He7.out.cells
  try simp only at e0 e1
  obtain ⟨s0, s1⟩ := Hs7.out.cells
  try simp only at s0 s1
  clear g1 g2 g3 qa qb qc
  by_cases hn1 : n1 = 0
  · by_cases hn2 : n2 = 0
    · subst hn1 hn2
      obtain ⟨t1, t2⟩ := HT.out rfl rfl
      obtain ⟨bb1, bb2⟩ := BB.out
      have HT3 := Lib.hid t2; clear t2 HT BB
      by_cases hv1 : v1 = 2
      · by_cases hv2 : v2 = 2
        · obtain ⟨x1, x2⟩ := t1 hv1 hv2
          subst hv1 hv2 x1 x2
          have hk : K3 = K := HT3.out rfl (by decide)
          clear t1 HT3
          subst hk
          go_wp2_with fail
          go_ret
          exact ⟨rfl, HB7.out⟩
        · have m1 : ((v1 : Int) == 2) = true := by simp; omega
          have m2 : ((v2 : Int) == 2) = false := by simp; omega
          clear t1 hv1 hv2
          by_cases hn3 : n3 = 0
          · subst hn3
            by_cases hv3 : v3 = 1
            · subst hv3
              cases hk : ((K : Int) == (K3 : Int))
              · go_wp2_with fail
                go_ret
                exact ⟨rfl, HB7.out⟩
              · go_wp2_with fail
                go_ret
                exact ⟨rfl, HB7.out⟩
            · have hk : K3 = K := HT3.out rfl hv3
              clear hv3
              subst hk
              go_wp2_with fail
              go_ret
              exact ⟨rfl, HB7.out⟩
          · have m3 : ((n3 : Int) != 0) = true := by simp; omega
            clear hn3
            go_wp2_with fail
            go_ret
            exact ⟨rfl, HB7.out⟩
      · have m1 : ((v1 : Int) == 2) = false := by simp; omega
        clear t1 hv1
        by_cases hn3 : n3 = 0
        · subst hn3
          by_cases hv3 : v3 = 1
          · subst hv3
            cases hk : ((K : Int) == (K3 : Int))
            · go_wp2_with fail
              go_ret
              exact ⟨rfl, HB7.out⟩
            · go_wp2_with fail
              go_ret
              exact ⟨rfl, HB7.out⟩
          · have hk : K3 = K := HT3.out rfl hv3
            clear hv3
            subst hk
            go_wp2_with fail
            go_ret
            exact ⟨rfl, HB7.out⟩
        · have m3 : ((n3 : Int) != 0) = true := by simp; omega
          clear hn3
          go_wp2_with fail
          go_ret
          exact ⟨rfl, HB7.out⟩
    · subst hn1
      have m2 : ((n2 : Int) == 0) = false := by simp; omega
      have m3 : ((n2 : Int) != 0) = true := by simp; omega
      clear hn2
      go_wp2_with fail
      go_ret
      exact ⟨rfl, HB7.out⟩
  · have m2 : ((n1 : Int) == 0) = false := by simp; omega
    have m3 : ((n1 : Int) != 0) = true := by simp; omega
    clear hn1
    go_wp2_with fail
    go_ret
    exact ⟨rfl, HB7.out⟩
end Go.Proofs.YtfnkgldfgciplaaDoor
