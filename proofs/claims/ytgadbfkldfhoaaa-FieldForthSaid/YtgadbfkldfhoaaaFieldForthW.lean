/-
  The walk of the law FieldForth.
-/
import Derived.Test.YtgadbfkldfhoaaaFieldLaw
import Derived.RegionTactic
import Derived.BigRegion
import Derived.IntWalk
namespace Go.Proofs.Ytgadbfkldfhoaaa
open Go.RowKit
set_option linter.unusedVariables false

/-- What Decode answers at a text: an error and nothing else; or fields that may be, whose bytes the text is. -/
theorem forth_dec (X : ByteArray) (hX : X.size ≤ 140737488365000) :
    (∃ e : Nat, e ≠ 0 ∧ ∀ w, Calls Try.prog 19 #[.string X] w (DecPost w ([], e))) ∨
    (∃ xs, X.data.toList.length ≤ 10000 ∧ encL xs = X.data.toList ∧ rightB xs = true ∧ ∀ w, Calls Try.prog 19 #[.string X] w (DecPost w (xs, 0))) := by
  have hd := decode_any X (by omega)
  by_cases he : (decR X.data.toList).2 = 0
  · right
    have e1 : decR X.data.toList = ((decR X.data.toList).1, 0) := by rw [← he]
    obtain ⟨a, b, c⟩ := dec_ok e1
    exact ⟨(decR X.data.toList).1, a, b, c, by rw [← e1]; exact hd⟩
  · left
    have e1 : decR X.data.toList = ([], (decR X.data.toList).2) := by rw [← dec_no he]
    exact ⟨(decR X.data.toList).2, he, by rw [← e1]; exact hd⟩

set_option maxRecDepth 100000 in
set_option maxHeartbeats 4000000 in
theorem fieldForth_walk (s : ByteArray) (A : Option Addr) (n cap : Nat) (f : Nat → Nat → Int) (B : Option Addr) (m cap2 : Nat) (g : Nat → ByteArray) (at_ : Int) (more : ByteArray) (w : World) (hs : s.size ≤ 140737488351232) (h : IsRaw w A n 2 f) (h2 : IsStrs w B m g) (hat : (Lit.int .i64 at_).wf = true) (hm : more.size ≤ 140737488351232) :
    Calls Try.prog 5 #[.string s, .slice A n cap, .slice B m cap2, .int .i64 at_, .string more] w fun e w' => e = .returned (.bool true) ∧ Below w.heap.size w w' := by
  go_enter Try.func5, Try.ntmps5
  go_wp2_with fail
  ((with_reducible refine (awake_any _).mono ?_); rintro e w1 ⟨rfl, b1⟩)
  go_wp2_with fail
  ((with_reducible refine (fields_any A n cap f B m cap2 g _ (h.below b1) (h2.below b1)).mono ?_); rintro e w2 ⟨A2, q, capq, fs, rfl, hc, hcm, hf, hN, b2⟩)
  have b12 := bch b1 b2
  have p1 := encode_any A2 q capq fs _ hf
  rw [nice_encR hN] at p1
  have hle : (bs (encL fs)).size ≤ 6100 := by rw [bs_size]; exact hN.enc
  generalize bs (encL fs) = T at *
  have hk := pickN_lt at_ ((T.size : Int) + 1) (by omega)
  have hp := pick_nat at_ ((T.size : Int) + 1) (by omega) (by omega) hat
  generalize pickN at_ ((T.size : Int) + 1) = k at hp hk
  go_wp2_with fail
  ((with_reducible refine p1.mono ?_); rintro e w3 ⟨rfl, b3⟩)
  go_wp2_with fail
  ((with_reducible refine (hp _).mono ?_); rintro e w' ⟨rfl, rfl⟩)
  go_wp2_with fail
  have b13 := bch b12 b3
  have hkT : k ≤ T.size := by omega
  obtain ⟨P, hP⟩ : ∃ P, T.extract 0 k = P := ⟨_, rfl⟩
  obtain ⟨U, hU⟩ : ∃ U, T.extract k T.size = U := ⟨_, rfl⟩
  obtain ⟨R, hR⟩ : ∃ R, T.extract (min ((k : Int) + (more.size : Int)) (T.size : Int)).toNat T.size = R := ⟨_, rfl⟩
  have zP : P.size ≤ 6100 := by rw [← hP, ByteArray.size_extract]; omega
  have zU : U.size ≤ 6100 := by rw [← hU, ByteArray.size_extract]; omega
  have zR : R.size ≤ 6100 := by rw [← hR, ByteArray.size_extract]; omega
  obtain ⟨Q, hQ⟩ : ∃ Q, P ++ more = Q := ⟨_, rfl⟩
  have zQ : Q.size ≤ 140737488357500 := by rw [← hQ, ByteArray.size_append]; omega
  have ha1 : ∀ W : World, (Op.stringOp .add P more).run Try.prog W = .ok (.string Q) W := fun W => by rw [← hQ]; exact str_add (by omega) W
  obtain ⟨Y, hY⟩ : ∃ Y, Q ++ R = Y := ⟨_, rfl⟩
  obtain ⟨Z, hZ⟩ : ∃ Z, Q ++ U = Z := ⟨_, rfl⟩
  have zY : Y.size ≤ 140737488365000 := by rw [← hY, ByteArray.size_append]; omega
  have zZ : Z.size ≤ 140737488365000 := by rw [← hZ, ByteArray.size_append]; omega
  have ha2 : ∀ W : World, (Op.stringOp .add Q R).run Try.prog W = .ok (.string Y) W := fun W => by rw [← hY]; exact str_add (by omega) W
  have ha3 : ∀ W : World, (Op.stringOp .add Q U).run Try.prog W = .ok (.string Z) W := fun W => by rw [← hZ]; exact str_add (by omega) W
  have hw1 : IntKind.i64.wrap ((k : Int) + (more.size : Int)) = (k : Int) + (more.size : Int) := IntWalk.i64_in _ (by omega)
  have HY := Lib.hid hY
  have hrow : ∀ W : World, RowS (W.alloc (.cells #[.string s, .string Y, .string Z] 9)) W.heap.size 3 := by
    intro W j hj
    have hx := World.alloc_heap_new W (.cells #[.string s, .string Y, .string Z] 9)
    rcases (by omega : j = 0 ∨ j = 1 ∨ j = 2) with rfl | rfl | rfl
    · exact ⟨s, cell_blk hx 0, by omega⟩
    · exact ⟨Y, cell_blk hx 1, zY⟩
    · exact ⟨Z, cell_blk hx 2, zZ⟩
  have HROW := Lib.hid hrow; clear hrow
  clear hQ hY hZ zY zZ zP zU zR
  have b3a : ∀ (o : Obj), Below w.heap.size w (w3.alloc o).drew := fun o => ((b13.alloc b13.size o)).drew
  have B3A := Lib.hid b3a; clear b3a
  have HSL : Hid (s.size ≤ 140737488351232) := hs
  have hmin0 : 0 ≤ min ((k : Int) + (more.size : Int)) (T.size : Int) := by omega
  have hmin1 : min ((k : Int) + (more.size : Int)) (T.size : Int) ≤ (T.size : Int) := by omega
  go_region
  have hr2 : RowS (w3.alloc (.cells #[.string s, .string Y, .string Z] 9)).drew w3.heap.size 3 := HROW.out w3
  have bb := B3A.out (.cells #[.string s, .string Y, .string Z] 9)
  have hz : w3.heap.size < (w3.alloc (.cells #[.string s, .string Y, .string Z] 9)).drew.heap.size := by simp
  generalize (w3.alloc (.cells #[.string s, .string Y, .string Z] 9)).drew = W3 at hr2 bb hz ⊢
  clear hw1 ha1 ha2 ha3 hR hP hU zQ hmin0 hmin1
  go_wp2_with fail
  go_loopw [61] (fun i wr => ∃ j : Nat, j ≤ 3 ∧ i = .int .i64 j ∧ Below w.heap.size w wr ∧ RowS wr w3.heap.size 3) (fun i _ => 3 - (intOf i).toNat)
  case atStart => exact ⟨0, by omega, rfl, bb, hr2⟩
  case round =>
    obtain ⟨j, hj, rfl, hbw, hrr⟩ := hrel
    by_cases hlt : j < 3
    · obtain ⟨X, cX, zX⟩ := hrr j hlt
      have hd := forth_dec X zX
      rcases hd with ⟨e, he, hd⟩ | ⟨xs, hl1, hxe, hR1, hd⟩
      · have he' : ((e : Int) == 0) = false := by simpa using he
        clear he
        go_wp2_with fail
        ((with_reducible refine (hd _).mono ?_); rintro e2 w4 ⟨A4, n4, cap4, rfl, hc4, hf4, b4⟩)
        have hn4 : n4 = 0 := hf4.1
        subst hn4
        go_wp2_with fail
        go_roundw
        case rel => exact ⟨j + 1, by omega, by go_num, bch hbw b4, hrr.below b4⟩
        case measure => simp [intOf]; omega
      · go_wp2_with fail
        ((with_reducible refine (hd _).mono ?_); rintro e2 w4 ⟨A4, n4, cap4, rfl, hc4, hf4, b4⟩)
        have p5 := encode_any A4 n4 cap4 xs _ hf4
        rw [encR_right hR1 (by rw [hxe]; exact hl1), hxe, ← bs_of] at p5
        go_wp2_with fail
        ((with_reducible refine p5.mono ?_); rintro e2 w5 ⟨rfl, b5⟩)
        have p6 := right_any A4 n4 cap4 xs _ (hf4.below b5)
        rw [hR1] at p6
        go_wp2_with fail
        ((with_reducible refine p6.mono ?_); rintro e2 w6 ⟨rfl, b6⟩)
        go_wp2_with fail
        go_roundw
        case rel => exact ⟨j + 1, by omega, by go_num, bch (bch (bch hbw b4) b5) b6, ((hrr.below b4).below b5).below b6⟩
        case measure => simp [intOf]; omega
    · go_wp2_with fail
      go_ret
      exact ⟨rfl, hbw⟩
end Go.Proofs.Ytgadbfkldfhoaaa
