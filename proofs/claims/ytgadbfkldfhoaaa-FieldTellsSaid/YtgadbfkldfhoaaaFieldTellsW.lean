/-
  The walk of the law FieldTells.
-/
import Derived.Test.YtgadbfkldfhoaaaFieldLaw
import Derived.RegionTactic
import Derived.BigRegion
import Derived.IntWalk
namespace Go.Proofs.Ytgadbfkldfhoaaa
open Go.RowKit
set_option linter.unusedVariables false

set_option maxRecDepth 100000 in
set_option maxHeartbeats 8000000 in
theorem fieldTells_walk (C : Option Addr) (l cap3 : Nat) (gs : List Fld) (A : Option Addr) (n cap : Nat) (f : Nat → Nat → Int) (B : Option Addr) (m cap2 : Nat) (g : Nat → ByteArray) (s : ByteArray) (at_ : Int) (more : ByteArray) (w : World) (h3 : IsFs w C l gs) (h4 : l ≤ cap3) (h : IsRaw w A n 2 f) (h2 : IsStrs w B m g) (hs : s.size ≤ 140737488351232) (hat : (Lit.int .i64 at_).wf = true) (hm : more.size ≤ 140737488351232) :
    Calls Try.prog 3 #[.slice C l cap3, .slice A n cap, .slice B m cap2, .string s, .int .i64 at_, .string more] w fun e w' => e = .returned (.bool true) ∧ Below w.heap.size w w' := by
  have hp9 := pick_any at_ 9 (by omega) (by omega) (bounds_i64 hat).1 (bounds_i64 hat).2
  generalize pickZ at_ 9 = z9 at hp9
  go_enter Try.func3, Try.ntmps3
  go_wp2_with fail
  ((with_reducible refine (awake_any _).mono ?_); rintro e w1 ⟨rfl, b1⟩)
  go_wp2_with fail
  ((with_reducible refine (fields_any A n cap f B m cap2 g _ (h.below b1) (h2.below b1)).mono ?_); rintro e w2 ⟨A2, q, capq, fs, rfl, hc, hcm, hf, hN, b2⟩)
  have b12 := bch b1 b2
  have p1 := refencode_any A2 q capq fs _ hf
  rw [nice_encR hN] at p1
  have hle : (bs (encL fs)).size ≤ 6100 := by rw [bs_size]; exact hN.enc
  generalize bs (encL fs) = T at *
  have hk := pickN_lt at_ ((T.size : Int) + 1) (by omega)
  have hp := pick_nat at_ ((T.size : Int) + 1) (by omega) (by omega) hat
  generalize pickN at_ ((T.size : Int) + 1) = k at hp hk
  have hkT : k ≤ T.size := by omega
  go_wp2_with fail
  ((with_reducible refine p1.mono ?_); rintro e w3 ⟨rfl, b3⟩)
  have b13 := bch b12 b3
  have ba : Below w3.heap.size w3 (w3.alloc (.cells #[.slice C l cap3, .slice A2 q capq] 22)) := (Below.refl _ _).alloc (Nat.le_refl _) _
  have h2f : TwoFs (w3.alloc (.cells #[.slice C l cap3, .slice A2 q capq] 22)) w3.heap.size := by
    intro j hj
    have hx := World.alloc_heap_new w3 (.cells #[.slice C l cap3, .slice A2 q capq] 22)
    rcases (by omega : j = 0 ∨ j = 1) with rfl | rfl
    · exact ⟨C, l, cap3, gs, cell_blk hx 0, h4, (h3.below b13).below ba⟩
    · exact ⟨A2, q, capq, fs, cell_blk hx 1, hc, (hf.below b3).below ba⟩
  have b123 := bch b13 ba
  go_wp2_with fail
  go_loopw [47] (fun i wr => ∃ j : Nat, j ≤ 2 ∧ i = .int .i64 j ∧ Below w.heap.size w wr ∧ TwoFs wr w3.heap.size) (fun i _ => 2 - (intOf i).toNat)
  case atStart => exact ⟨0, by omega, rfl, b123, h2f⟩
  case round =>
    obtain ⟨j, hj, rfl, hbw, h2r⟩ := hrel
    by_cases hlt : j < 2
    · obtain ⟨A5, n5, cap5, xs, c5, hc5, hf5⟩ := h2r j hlt
      have q1 := encode_any A5 n5 cap5 xs wr hf5
      have q2 := fun W h => refencode_any A5 n5 cap5 xs W h
      have q3 := fun W h => find_any A5 n5 cap5 xs z9 W h
      have q4 := fun W h => reffind_any A5 n5 cap5 xs z9 W h
      have q5 := fun W h => right_any A5 n5 cap5 xs W h
      have q6 := fun W h => refright_any A5 n5 cap5 xs W h
      generalize bs (encR xs).1 = S1 at q1 q2
      generalize (encR xs).2 = e1 at q1 q2
      generalize (findR xs z9).1 = S2 at q3 q4
      generalize (findR xs z9).2 = e2 at q3 q4
      generalize rightB xs = e3 at q5 q6
      have Q2 := Lib.hid q2; clear q2
      have Q3 := Lib.hid q3; clear q3
      have Q4 := Lib.hid q4; clear q4
      have Q5 := Lib.hid q5; clear q5
      have Q6 := Lib.hid q6; clear q6
      go_wp2_with fail
      ((with_reducible refine q1.mono ?_); rintro e w4 ⟨rfl, b4⟩)
      have g4 := hf5.below b4
      go_wp2_with fail
      ((with_reducible refine (Q2.out _ g4).mono ?_); rintro e w5 ⟨rfl, b5⟩)
      have g5 := g4.below b5
      go_wp2_with fail
      ((with_reducible refine (hp9 _).mono ?_); rintro e w' ⟨rfl, rfl⟩)
      go_wp2_with fail
      ((with_reducible refine (Q3.out _ g5).mono ?_); rintro e w6 ⟨rfl, b6⟩)
      have g6 := g5.below b6
      go_wp2_with fail
      ((with_reducible refine (hp9 _).mono ?_); rintro e w' ⟨rfl, rfl⟩)
      go_wp2_with fail
      ((with_reducible refine (Q4.out _ g6).mono ?_); rintro e w' ⟨rfl, rfl⟩)
      go_wp2_with fail
      ((with_reducible refine (Q5.out _ g6).mono ?_); rintro e w7 ⟨rfl, b7⟩)
      have g7 := g6.below b7
      go_wp2_with fail
      ((with_reducible refine (Q6.out _ g7).mono ?_); rintro e w8 ⟨rfl, b8⟩)
      go_wp2_with fail
      go_roundw
      case rel => exact ⟨j + 1, by omega, by go_num, bch (bch (bch (bch (bch hbw b4) b5) b6) b7) b8, ((((h2r.below b4).below b5).below b6).below b7).below b8⟩
      case measure => simp [intOf]; omega
    · have hw2 : IntKind.i64.wrap ((T.size : Int) + 1) = (T.size : Int) + 1 := IntWalk.i64_in _ (by omega)
      go_wp2_with fail
      ((with_reducible refine (hp _).mono ?_); rintro e w' ⟨rfl, rfl⟩)
      go_wp2_with fail
      obtain ⟨P, hP⟩ : ∃ P, T.extract 0 k = P := ⟨_, rfl⟩
      obtain ⟨U, hU⟩ : ∃ U, T.extract k T.size = U := ⟨_, rfl⟩
      obtain ⟨R, hR⟩ : ∃ R, T.extract (min ((k : Int) + (more.size : Int)) (T.size : Int)).toNat T.size = R := ⟨_, rfl⟩
      have zP : P.size ≤ 6100 := by rw [← hP, ByteArray.size_extract]; omega
      have zU : U.size ≤ 6100 := by rw [← hU, ByteArray.size_extract]; omega
      have zR : R.size ≤ 6100 := by rw [← hR, ByteArray.size_extract]; omega
      obtain ⟨Q, hQ⟩ : ∃ Q, P ++ more = Q := ⟨_, rfl⟩
      have zQ : Q.size ≤ 140737488357500 := by rw [← hQ, ByteArray.size_append]; omega
      have ha1 : ∀ W : World, (Op.stringOp .add P more).run Try.prog W = .ok (.string Q) W := fun W => by rw [← hQ]; exact str_add (by omega) W
      obtain ⟨Y, hY⟩ : ∃ Y, Q ++ R = Y := ⟨_, rfl⟩
      obtain ⟨Z, hZ⟩ : ∃ Z, Q ++ U = Z := ⟨_, rfl⟩
      have zY : Y.size ≤ 140737488365000 := by rw [← hY, ByteArray.size_append]; omega
      have zZ : Z.size ≤ 140737488365000 := by rw [← hZ, ByteArray.size_append]; omega
      have ha2 : ∀ W : World, (Op.stringOp .add Q R).run Try.prog W = .ok (.string Y) W := fun W => by rw [← hY]; exact str_add (by omega) W
      have ha3 : ∀ W : World, (Op.stringOp .add Q U).run Try.prog W = .ok (.string Z) W := fun W => by rw [← hZ]; exact str_add (by omega) W
      have hw1 : IntKind.i64.wrap ((k : Int) + (more.size : Int)) = (k : Int) + (more.size : Int) := IntWalk.i64_in _ (by omega)
      have hrow : ∀ W : World, RowS (W.alloc (.cells #[.string s, .string T, .string Y, .string Z, .string P] 9)) W.heap.size 5 := by
        intro W j hj
        have hx := World.alloc_heap_new W (.cells #[.string s, .string T, .string Y, .string Z, .string P] 9)
        rcases (by omega : j = 0 ∨ j = 1 ∨ j = 2 ∨ j = 3 ∨ j = 4) with rfl | rfl | rfl | rfl | rfl
        · exact ⟨s, cell_blk hx 0, by omega⟩
        · exact ⟨T, cell_blk hx 1, by omega⟩
        · exact ⟨Y, cell_blk hx 2, zY⟩
        · exact ⟨Z, cell_blk hx 3, zZ⟩
        · exact ⟨P, cell_blk hx 4, by omega⟩
      have HROW := Lib.hid hrow; clear hrow
      clear hQ hY hZ zY zZ zP zU zR hw2
      have b3a : ∀ (o : Obj), Below w.heap.size w (wr.alloc o).drew := fun o => ((hbw.alloc hbw.size o)).drew
      have B3A := Lib.hid b3a; clear b3a
      have hmin0 : 0 ≤ min ((k : Int) + (more.size : Int)) (T.size : Int) := by omega
      have hmin1 : min ((k : Int) + (more.size : Int)) (T.size : Int) ≤ (T.size : Int) := by omega
      clear hp9 h2r h2f
      go_region
      have hr2 : RowS (wr.alloc (.cells #[.string s, .string T, .string Y, .string Z, .string P] 9)).drew wr.heap.size 5 := HROW.out wr
      have bb := B3A.out (.cells #[.string s, .string T, .string Y, .string Z, .string P] 9)
      have hz : wr.heap.size < (wr.alloc (.cells #[.string s, .string T, .string Y, .string Z, .string P] 9)).drew.heap.size := by simp
      generalize (wr.alloc (.cells #[.string s, .string T, .string Y, .string Z, .string P] 9)).drew = W3 at hr2 bb hz ⊢
      clear hw1 ha1 ha2 ha3 hR hP hU zQ hmin0 hmin1
      go_wp2_with fail
      go_loopw [137] (fun i wq => ∃ j : Nat, j ≤ 5 ∧ i = .int .i64 j ∧ Below w.heap.size w wq ∧ RowS wq wr.heap.size 5) (fun i _ => 5 - (intOf i).toNat)
      case atStart => exact ⟨0, by omega, rfl, bb, hr2⟩
      case round =>
        rename_i wq _ _
        obtain ⟨i, hi, rfl, hbq, hrr⟩ := hrel
        by_cases hlt2 : i < 5
        · obtain ⟨X, cX, zX⟩ := hrr i hlt2
          have r1 := decode_any X (by omega)
          have r2 := refdecode_any X (by omega)
          generalize decR X.data.toList = R1 at r1 r2
          obtain ⟨xs, e1⟩ := R1
          go_wp2_with fail
          ((with_reducible refine (r1 _).mono ?_); rintro e2 w4 ⟨A4, n4, cap4, rfl, hc4, hf4, b4⟩)
          go_wp2_with fail
          ((with_reducible refine (r2 _).mono ?_); rintro e2 w5 ⟨A6, n6, cap6, rfl, hc6, hf6, b5⟩)
          have p3 := same_any A4 A6 n4 n6 cap4 cap6 xs xs _ (hf4.below b5) hf6
          rw [sameB_self] at p3
          go_wp2_with fail
          ((with_reducible refine p3.mono ?_); rintro e2 w6 ⟨rfl, b6⟩)
          go_wp2_with fail
          go_roundw
          case rel => exact ⟨i + 1, by omega, by go_num, bch (bch (bch hbq b4) b5) b6, ((hrr.below b4).below b5).below b6⟩
          case measure => simp [intOf]; omega
        · go_wp2_with fail
          go_ret
          exact ⟨rfl, hbq⟩
end Go.Proofs.Ytgadbfkldfhoaaa
