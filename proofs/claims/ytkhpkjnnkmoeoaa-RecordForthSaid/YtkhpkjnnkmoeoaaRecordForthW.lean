/-
  The walk of the law RecordForth.
-/
import Derived.Test.YtkhpkjnnkmoeoaaRecLaw
namespace Go.Proofs.Ytkhpkjnnkmoeoaa
open Go.RowKit
set_option linter.unusedVariables false

set_option maxRecDepth 100000 in
set_option maxHeartbeats 8000000 in
theorem recordForth_walk (s : ByteArray) (x0 x1 x2 x3 x4 : Int) (A : Option Addr) (n cap : Nat) (f : Nat → Nat → Int) (B : Option Addr) (m cap2 : Nat) (g : Nat → ByteArray) (at_ : Int) (more : ByteArray) (w : World) (hs : s.size ≤ 140737488351232) (h0 : (Lit.int .i64 x0).wf = true) (h1 : (Lit.int .i64 x1).wf = true) (h2 : (Lit.int .i64 x2).wf = true) (h3 : (Lit.int .i64 x3).wf = true) (h4 : (Lit.int .i64 x4).wf = true) (hra : IsRaw w A n 2 f) (hst : IsStrs w B m g) (hat : (Lit.int .i64 at_).wf = true) (hm : more.size ≤ 140737488351232) :
    Calls Try.prog 5 #[.string s, .agg #[.int .i64 x0, .int .i64 x1, .int .i64 x2, .int .i64 x3, .int .i64 x4], .slice A n cap, .slice B m cap2, .int .i64 at_, .string more] w fun e w' => e = .returned (.bool true) ∧ Below w.heap.size w w' := by
  have hb0 : Below w.heap.size w (w.alloc (.cells #[.int .i64 x0, .int .i64 x1, .int .i64 x2, .int .i64 x3, .int .i64 x4] 25)) := (Below.refl _ _).alloc (Nat.le_refl _) _
  have harr : Arr5 (w.alloc (.cells #[.int .i64 x0, .int .i64 x1, .int .i64 x2, .int .i64 x3, .int .i64 x4] 25)) w.heap.size x0 x1 x2 x3 x4 := World.alloc_heap_new w _
  go_enter Try.func5, Try.ntmps5
  go_wp2_with fail
  ((with_reducible refine (awake3_any _).mono ?_); rintro e w1 ⟨rfl, b1⟩)
  have ha1 := harr.below b1
  have hb1 := bch hb0 b1
  clear harr hb0 b1
  go_wp2_with fail
  go_loopw [14] (fun i wr => ∃ j : Nat, 1 ≤ j ∧ j ≤ 3 ∧ i = .int .i64 j ∧ Arr5 wr w.heap.size x0 x1 x2 x3 x4 ∧ Below w.heap.size w wr) (fun i _ => 3 - (intOf i).toNat)
  case atStart => exact ⟨1, by omega, by omega, rfl, ha1, hb1⟩
  case round =>
    clear ha1 hb1
    obtain ⟨j, hj1, hj3, rfl, harr, hbw⟩ := hrel
    by_cases hlt : j ≤ 2
    · have hv : (j : Int) = 1 ∨ (j : Int) = 2 := by omega
      have p1 := record_any (j : Int) hv x0 x1 x2 x3 x4 h0 h1 h2 h3 h4 A n cap f B m cap2 g wr (hra.below hbw) (hst.below hbw)
      obtain ⟨c0, c1, c2, c3, c4⟩ := harr.cells
      have HA := Lib.hid harr
      clear harr hv
      go_wp2_with fail
      ((with_reducible refine p1.mono ?_); rintro e w2 ⟨A1, n1, cap1, r, rfl, hc1, hf1, hN, b2⟩)
      clear p1 c0 c1 c2 c3 c4
      have p2 := rEncode_any (j : Int) r A1 n1 cap1 w2 hN.wf hf1
      rw [hN.recE] at p2
      have hle : (bs (encL (fieldsR r))).size ≤ 4600 := by rw [bs_size]; exact hN.enc2
      have hA2 := HA.out.below b2
      have hb2 := bch hbw b2
      clear hbw b2 HA hf1 hN
      generalize bs (encL (fieldsR r)) = T at *
      have hk := pickN_lt at_ ((T.size : Int) + 1) (by omega)
      have hp := pickL_nat at_ ((T.size : Int) + 1) (by omega) (by omega) hat
      generalize pickN at_ ((T.size : Int) + 1) = k at hp hk
      go_wp2_with fail
      ((with_reducible refine p2.mono ?_); rintro e w3 ⟨rfl, b3⟩)
      clear p2
      have HA3 := Lib.hid (hA2.below b3)
      have b13 := bch hb2 b3
      clear hA2 hb2 b3
      go_wp2_with fail
      ((with_reducible refine (hp _).mono ?_); rintro e w' ⟨rfl, rfl⟩)
      clear hp
      go_upto_region 7 with fail
      have hkT : k ≤ T.size := by omega
      obtain ⟨P, hP⟩ : ∃ P, T.extract 0 k = P := ⟨_, rfl⟩
      obtain ⟨U, hU⟩ : ∃ U, T.extract k T.size = U := ⟨_, rfl⟩
      obtain ⟨R, hR⟩ : ∃ R, T.extract (min ((k : Int) + (more.size : Int)) (T.size : Int)).toNat T.size = R := ⟨_, rfl⟩
      have zP : P.size ≤ 4600 := by rw [← hP, ByteArray.size_extract]; omega
      have zU : U.size ≤ 4600 := by rw [← hU, ByteArray.size_extract]; omega
      have zR : R.size ≤ 4600 := by rw [← hR, ByteArray.size_extract]; omega
      obtain ⟨Q, hQ⟩ : ∃ Q, P ++ more = Q := ⟨_, rfl⟩
      have zQ : Q.size ≤ 140737488356000 := by rw [← hQ, ByteArray.size_append]; omega
      have ha1 : ∀ W : World, (Op.stringOp .add P more).run Try.prog W = .ok (.string Q) W := fun W => by rw [← hQ]; exact str_add (by omega) W
      obtain ⟨Y, hY⟩ : ∃ Y, Q ++ R = Y := ⟨_, rfl⟩
      obtain ⟨Z, hZ⟩ : ∃ Z, Q ++ U = Z := ⟨_, rfl⟩
      have zY : Y.size ≤ 140737488361000 := by rw [← hY, ByteArray.size_append]; omega
      have zZ : Z.size ≤ 140737488361000 := by rw [← hZ, ByteArray.size_append]; omega
      have ha2 : ∀ W : World, (Op.stringOp .add Q R).run Try.prog W = .ok (.string Y) W := fun W => by rw [← hY]; exact str_add (by omega) W
      have ha3 : ∀ W : World, (Op.stringOp .add Q U).run Try.prog W = .ok (.string Z) W := fun W => by rw [← hZ]; exact str_add (by omega) W
      have hw1 : IntKind.i64.wrap ((k : Int) + (more.size : Int)) = (k : Int) + (more.size : Int) := IntWalk.i64_in _ (by omega)
      have hrow : ∀ W : World, RowS (W.alloc (.cells #[.string s, .string Y, .string Z] 9)) W.heap.size 3 := by
        intro W j hj
        have hx := World.alloc_heap_new W (.cells #[.string s, .string Y, .string Z] 9)
        rcases (by omega : j = 0 ∨ j = 1 ∨ j = 2) with rfl | rfl | rfl
        · exact ⟨s, cell_blk hx 0, by omega⟩
        · exact ⟨Y, cell_blk hx 1, by omega⟩
        · exact ⟨Z, cell_blk hx 2, by omega⟩
      have HROW := Lib.hid hrow; clear hrow
      clear hQ hY hZ zY zZ zP zU zR 
      have b3a : ∀ (o : Obj), Below w.heap.size w (w3.alloc o).drew ∧ Below w3.heap.size w3 (w3.alloc o).drew := fun o => ⟨(b13.alloc b13.size o).drew, ((Below.refl _ _).alloc (Nat.le_refl _) o).drew⟩
      have B3A := Lib.hid b3a; clear b3a
      have HSL : Hid (s.size ≤ 140737488351232) := hs
      have hmin0 : 0 ≤ min ((k : Int) + (more.size : Int)) (T.size : Int) := by omega
      have hmin1 : min ((k : Int) + (more.size : Int)) (T.size : Int) ≤ (T.size : Int) := by omega
      go_region
      have hr2 : RowS (w3.alloc (.cells #[.string s, .string Y, .string Z] 9)).drew w3.heap.size 3 := HROW.out w3
      have bb := (B3A.out (.cells #[.string s, .string Y, .string Z] 9)).1
      have hA4 := HA3.out.below (B3A.out (.cells #[.string s, .string Y, .string Z] 9)).2
      have hz : w3.heap.size < (w3.alloc (.cells #[.string s, .string Y, .string Z] 9)).drew.heap.size := by simp
      generalize (w3.alloc (.cells #[.string s, .string Y, .string Z] 9)).drew = W3 at hr2 bb hA4 hz ⊢
      clear hw1 ha1 ha2 ha3 hR hP hU zQ hmin0 hmin1 HROW B3A HA3
      go_wp2_with fail
      go_loopw [71] (fun i wq => ∃ q : Nat, q ≤ 3 ∧ i = .int .i64 q ∧ Below w.heap.size w wq ∧ RowS wq w3.heap.size 3 ∧ Arr5 wq w.heap.size x0 x1 x2 x3 x4) (fun i _ => 3 - (intOf i).toNat)
      case atStart => exact ⟨0, by omega, rfl, bb, hr2, hA4⟩
      case round =>
        clear bb hr2 hA4
        rename_i wq _ _
        obtain ⟨q, hq, rfl, hbw, hrr, hA⟩ := hrel
        by_cases hlt2 : q < 3
        · obtain ⟨X, cX, zX⟩ := hrr q hlt2
          rcases forthR (j : Int) X zX with ⟨e, he, hd⟩ | ⟨r2, hr1, hr2, hw2, hd⟩
          · have he' : ((e : Int) != 0) = true := by simp; omega
            clear he
            go_wp2_with fail
            ((with_reducible refine (hd _).mono ?_); rintro e2 w4 ⟨A4, n4, cap4, rfl, hf4, b4⟩)
            have hn4 : n4 = 0 := hf4.1
            subst hn4
            have eE : (⟨#[]⟩ : ByteArray).toList = [] := bs_toList []
            have bb4 : Below w4.heap.size w4 (w4.alloc (.cells #[.string ⟨#[]⟩, .string ⟨#[]⟩, .int .i64 0, .int .i64 0, .string ⟨#[]⟩, .slice A4 0 cap4] 24)) := (Below.refl _ _).alloc (Nat.le_refl _) _
            clear hf4
            go_wp2_with fail
            go_roundw
            case rel => exact ⟨q + 1, by omega, by go_num, bch (bch hbw b4) bb4, (hrr.below b4).below bb4, (hA.below b4).below bb4⟩
            case measure => simp [intOf]; omega
          · go_wp2_with fail
            ((with_reducible refine (hd _).mono ?_); rintro e2 w4 ⟨A4, n4, cap4, rfl, hf4, b4⟩)
            have bb4 : Below w4.heap.size w4 (w4.alloc (.cells #[.string r2.key, .string r2.value, .int .i64 r2.rev, .int .i64 r2.life, .string r2.note, .slice A4 n4 cap4] 24)) := (Below.refl _ _).alloc (Nat.le_refl _) _
            have hx4 := rcBlk_mk w4 r2 (.slice A4 n4 cap4)
            have hf5 := hf4.below bb4
            have hb4 := bch (bch hbw b4) bb4
            have hrr4 := (hrr.below b4).below bb4
            have hA4 := (hA.below b4).below bb4
            have p5 := rEncode_any (j : Int) r2 A4 n4 cap4 _ hw2 hf5
            rw [hr2] at p5
            have p5' : Calls Try.prog 12 #[.int .i64 (j : Int), rcV r2 (.slice A4 n4 cap4)] (w4.alloc (.cells #[.string r2.key, .string r2.value, .int .i64 r2.rev, .int .i64 r2.life, .string r2.note, .slice A4 n4 cap4] 24)) fun e w' => e = .returned (.tuple #[.string X, .int .i64 0]) ∧ Below (w4.alloc (.cells #[.string r2.key, .string r2.value, .int .i64 r2.rev, .int .i64 r2.life, .string r2.note, .slice A4 n4 cap4] 24)).heap.size (w4.alloc (.cells #[.string r2.key, .string r2.value, .int .i64 r2.rev, .int .i64 r2.life, .string r2.note, .slice A4 n4 cap4] 24)) w' := by
              rw [bs_of X]; exact p5
            obtain ⟨z0, z1, z2, z3, z4, z5⟩ := hx4.cells
            have HX4 := Lib.hid hx4
            have HF5 := Lib.hid hf5
            have HW2 := Lib.hid hw2
            have HR1 := Lib.hid hr1
            clear p5 hf4 bb4 b4 hbw hrr hA hx4 hf5 hw2 hr1 hr2 hd
            go_wp2_with fail
            ((with_reducible refine p5'.mono ?_); rintro e2 w5 ⟨rfl, b5⟩)
            clear z0 z1 z2 z3 z4 z5 p5'
            have hx5 := HX4.out.below b5
            have p6 := rRight_any (j : Int) r2 A4 n4 cap4 w5 HW2.out (HF5.out.below b5)
            rw [HR1.out] at p6
            obtain ⟨z0, z1, z2, z3, z4, z5⟩ := hx5.cells
            clear hx5
            go_wp2_with fail
            ((with_reducible refine p6.mono ?_); rintro e2 w6 ⟨rfl, b6⟩)
            go_wp2_with fail
            go_roundw
            case rel => exact ⟨q + 1, by omega, by go_num, bch (bch hb4 b5) b6, (hrr4.below b5).below b6, (hA4.below b5).below b6⟩
            case measure => simp [intOf]; omega
        · go_wp2_with fail
          go_roundw
          case rel => exact ⟨j + 1, by omega, by omega, by go_num, hA, hbw⟩
          case measure => simp [intOf]; omega
    · go_wp2_with fail
      go_ret
      exact ⟨rfl, hbw⟩
end Go.Proofs.Ytkhpkjnnkmoeoaa
