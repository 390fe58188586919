import Derived.Test.YtjciojgldibfmaaFrSlice
import Derived.RegionTactic
import Derived.BigRegion
import Derived.IntWalk
import Derived.BigQuiet
/-
  The walk of the law FrameAgain, over what is asked of the program's Encode, Scan and Right.
-/
namespace Go.Proofs.Ytjciojgldibfmaa
open Go.RowKit
set_option linter.unusedVariables false
set_option linter.unusedSimpArgs false

/-- A row of texts that are not too long. -/
def RowT (W : World) (B n : Nat) : Prop := B < W.heap.size ∧ ∀ j, j < n → ∃ X, W.cell? ⟨B, j, none⟩ = some (.string X) ∧ X.size ≤ 4194304
theorem RowT.below {W W' : World} {B n : Nat} (h : RowT W B n) (hb : Below W.heap.size W W') : RowT W' B n :=
  ⟨Nat.lt_of_lt_of_le h.1 hb.size, fun j hj => by
    obtain ⟨X, h1, h2⟩ := h.2 j hj
    exact ⟨X, (hb.cell (p := ⟨B, j, none⟩) h.1).trans h1, h2⟩⟩
theorem bytes_of_take {l : List Frm} {v : Int} {X : ByteArray} {k : Nat} (h : encFs v l = X.data.toList.take k) : bs (encFs v l) = X.extract 0 k := by
  rw [h, bs_of X, bs_take, bs_data]

set_option maxRecDepth 100000 in
set_option maxHeartbeats 8000000 in
theorem frameAgain_core (hE : EncC) (hS : ScanC) (hR : RightC) (s0 : ByteArray) (A : Option Addr) (n cap : Nat) (f : Nat → Nat → Int) (B : Option Addr) (m cap2 : Nat) (g : Nat → ByteArray) (at0 : Int) (more : ByteArray) (w : World) (hs0 : s0.size ≤ 1048576) (hra : IsRaw w A n 3 f) (hst : IsStrs w B m g) (hat0 : (Lit.int .i64 at0).wf = true) (hmo : more.size ≤ 1048576) :
    Calls Try.prog 9 #[.string s0, .slice A n cap, .slice B m cap2, .int .i64 at0, .string more] w fun e w' => e = .returned (.bool true) ∧ Below w.heap.size w w' := by
  have HE := Lib.hid hE; clear hE
  have HS := Lib.hid hS; clear hS
  have HR := Lib.hid hR; clear hR
  have HMO := Lib.hid hmo; clear hmo
  have HS0 := Lib.hid hs0; clear hs0
  go_enter Try.func9, Try.ntmps9
  go_wp2_with fail
  ((with_reducible refine (awake6_any HE.out HS.out HR.out _).mono ?_); rintro e W1 ⟨rfl, b1⟩)
  have hb := b1
  clear b1
  go_wp2_with fail
  go_loopw [12] (fun v wy => ∃ (j : Int) (wq : World), wq = wy ∧ (j = 1 ∨ j = 2 ∨ j = 3) ∧ v = .int .i64 j ∧ Below w.heap.size w wq) (fun v _ => 3 - (intOf v).toNat)
  case atStart => exact ⟨1, _, rfl, .inl rfl, rfl, hb⟩
  case round =>
    clear hb
    obtain ⟨j, wq, rfl, hj, rfl, hb⟩ := hrel
    rcases hj with rfl | rfl | rfl
    · have dummy := 0
      have p1 := frames_any 1 (by omega) A n cap f B m cap2 g wq (hra.below hb) (hst.below hb)
      go_wp2_with fail
      ((with_reducible refine p1.mono ?_); rintro e W2 ⟨A1, n1, cap1, fs, rfl, hc1, hc2, hfr, hni, b2⟩)
      clear p1
      replace hb := bch hb b2
      clear b2
      have hlen := hni.len
      obtain ⟨S, eS⟩ : ∃ S, bs (encFs 1 fs) = S := ⟨_, rfl⟩
      have zS : S.size = (encFs 1 fs).length := by rw [← eS, bs_size]
      have dS : S.data.toList = encFs 1 fs := by rw [← eS, bs_data]
      have p2 := bytes6_any HE.out 1 A1 n1 cap1 fs W2 hfr hni.ok (by omega)
      rw [eS] at p2
      have hmo := HMO.out
      have hs0 := HS0.out
      have hSl : S.size ≤ 4000 := by omega
      have hq := pickF_nat at0 ((S.size : Int) + 1) (by omega) (by omega) hat0
      have kq := pickN_lt at0 ((S.size : Int) + 1) (by omega)
      generalize pickN at0 ((S.size : Int) + 1) = k at hq kq
      have hkT : k ≤ S.size := by omega
      clear eS dS hlen zS hni hfr
      go_wp2_with fail
      ((with_reducible refine p2.mono ?_); rintro e W3 ⟨rfl, b3⟩)
      replace hb := bch hb b3
      clear b3 p2
      go_wp2_with fail
      ((with_reducible refine (hq _).mono ?_); rintro e V1 ⟨rfl, rfl⟩)
      clear hq
      go_wp2_with fail
      obtain ⟨P, hP⟩ : ∃ P, S.extract 0 k = P := ⟨_, rfl⟩
      obtain ⟨U, hU⟩ : ∃ U, S.extract k S.size = U := ⟨_, rfl⟩
      obtain ⟨mm, hmm, mm1⟩ : ∃ mm : Nat, (if (S.size : Int) < (k : Int) + (more.size : Int) then (S.size : Int) else (k : Int) + (more.size : Int)) = (mm : Int) ∧ mm ≤ S.size := by
        by_cases h9 : (S.size : Int) < (k : Int) + (more.size : Int)
        · exact ⟨S.size, if_pos h9, Nat.le_refl _⟩
        · exact ⟨k + more.size, by rw [if_neg h9]; omega, by omega⟩
      obtain ⟨R, hR⟩ : ∃ R, S.extract mm S.size = R := ⟨_, rfl⟩
      have zP : P.size ≤ 4000 := by rw [← hP, ByteArray.size_extract]; omega
      have zU : U.size ≤ 4000 := by rw [← hU, ByteArray.size_extract]; omega
      have zR : R.size ≤ 4000 := by rw [← hR, ByteArray.size_extract]; omega
      obtain ⟨Q, hQ⟩ : ∃ Q, P ++ more = Q := ⟨_, rfl⟩
      have zQ : Q.size ≤ 1052576 := by rw [← hQ, ByteArray.size_append]; omega
      have ha1 : ∀ W : World, (Op.stringOp .add P more).run Try.prog W = .ok (.string Q) W := fun W => by rw [← hQ]; exact str_add (by omega) W
      obtain ⟨Y, hY⟩ : ∃ Y, Q ++ R = Y := ⟨_, rfl⟩
      obtain ⟨Z, hZ⟩ : ∃ Z, Q ++ U = Z := ⟨_, rfl⟩
      have zY : Y.size ≤ 4194304 := by rw [← hY, ByteArray.size_append]; omega
      have zZ : Z.size ≤ 4194304 := by rw [← hZ, ByteArray.size_append]; omega
      have ha2 : ∀ W : World, (Op.stringOp .add Q R).run Try.prog W = .ok (.string Y) W := fun W => by rw [← hY]; exact str_add (by omega) W
      have ha3 : ∀ W : World, (Op.stringOp .add Q U).run Try.prog W = .ok (.string Z) W := fun W => by rw [← hZ]; exact str_add (by omega) W
      have hw1 : IntKind.i64.wrap ((k : Int) + (more.size : Int)) = (k : Int) + (more.size : Int) := IntWalk.i64_in _ (by omega)
      have hmin0 : (0 : Int) ≤ (mm : Int) := by omega
      have hmin1 : (mm : Int) ≤ (S.size : Int) := by omega
      have hrow : ∀ W : World, RowT (W.alloc (.cells #[.string s0, .string S, .string Y, .string Z] 9)) W.heap.size 4 := by
        intro W
        refine ⟨by simp, fun j hj => ?_⟩
        have hx := World.alloc_heap_new W (.cells #[.string s0, .string S, .string Y, .string Z] 9)
        rcases (by omega : j = 0 ∨ j = 1 ∨ j = 2 ∨ j = 3) with rfl | rfl | rfl | rfl
        · exact ⟨s0, cell_blk hx 0, by omega⟩
        · exact ⟨S, cell_blk hx 1, by omega⟩
        · exact ⟨Y, cell_blk hx 2, zY⟩
        · exact ⟨Z, cell_blk hx 3, zZ⟩
      have HROW := Lib.hid hrow; clear hrow
      have b3a : ∀ (o : Obj), Below w.heap.size w (W3.alloc o).drew := fun o => (hb.alloc hb.size o).drew
      have B3A := Lib.hid b3a; clear b3a
      have HBX := Lib.hid hb; clear hb
      clear hQ hY hZ zY zZ zP zU zR hs0 hmo kq
      go_region
      have hr2 : RowT (W3.alloc (.cells #[.string s0, .string S, .string Y, .string Z] 9)).drew W3.heap.size 4 := HROW.out W3
      have bb := B3A.out (.cells #[.string s0, .string S, .string Y, .string Z] 9)
      generalize (W3.alloc (.cells #[.string s0, .string S, .string Y, .string Z] 9)).drew = W5 at hr2 bb ⊢
      generalize W3.heap.size = B3 at *
      have HR2 := Lib.hid hr2; clear hr2
      have HBB := Lib.hid bb; clear bb
      clear hw1 ha1 ha2 ha3 hR hP hU zQ hmm mm1 hmin0 hmin1 HROW B3A HBX
      go_wp2_with fail
      go_loopw [70] (fun i wr => ∃ j : Nat, j ≤ 4 ∧ i = .int .i64 j ∧ Below w.heap.size w wr ∧ RowT wr B3 4) (fun i _ => 4 - (intOf i).toNat)
      case atStart => exact ⟨0, by omega, rfl, HBB.out, HR2.out⟩
      case round =>
        obtain ⟨j, hj, rfl, hbw, hrr⟩ := hrel
        clear HBB HR2
        by_cases hlt : j < 4
        · obtain ⟨X, cX, zX⟩ := hrr.2 j hlt
          have p3 := fun W => HS.out 1 X (by omega) W
          have e3 : scanV 1 X.data.toList = scanR 1 X.data.toList := by unfold scanV; rw [if_pos (by omega)]
          rw [e3] at p3
          obtain ⟨fo1, fo2, fo3⟩ := scan_forth (v := 1) (by omega) X.data.toList
          have hml : X.data.toList.length = X.size := by simp
          rw [hml] at fo2
          have fo4 := bytes_of_take fo3
          have fo5 : (encFs 1 (scanR 1 X.data.toList).1).length ≤ 4194304 := by rw [fo3, List.length_take, hml]; omega
          generalize scanR 1 X.data.toList = r at *
          obtain ⟨ls, nl, er⟩ := r
          simp only at p3 fo1 fo2 fo3 fo4 fo5
          obtain ⟨T, eT⟩ : ∃ T, X.extract 0 nl = T := ⟨_, rfl⟩
          have hsl := fun W => slice_to eT (by omega) W
          rw [eT] at fo4
          have hnl0 : (0 : Int) ≤ (nl : Int) := by omega
          have hnl1 : (nl : Int) ≤ (X.size : Int) := by omega
          have hTT : (T.toList == T.toList) = true := by simp
          have hj0 : (0 : Int) ≤ (j : Int) := by omega
          have hj1 : (j : Int) < (4 : Int) := by omega
          have HRR := Lib.hid hrr; clear hrr
          have HBW := Lib.hid hbw; clear hbw
          have HF1 := Lib.hid fo1; clear fo1
          clear fo2 fo3 hml e3 eT zX
          go_wp2_with fail
          ((with_reducible refine (p3 _).mono ?_); rintro e W6 ⟨A2, n2, cap3, rfl, hc3, hc4, hfr2, b6⟩)
          have hb6 := bch HBW.out b6
          have hr6 := HRR.out.below b6
          have p4 := bytes6_any HE.out 1 A2 n2 cap3 ls W6 hfr2 HF1.out (by omega)
          rw [fo4] at p4
          clear b6 p3 hfr2 fo4 fo5 HF1 HRR HBW
          have HR6 := Lib.hid hr6; clear hr6
          have HB6 := Lib.hid hb6; clear hb6
          go_wp2_with fail
          ((with_reducible refine p4.mono ?_); rintro e W7 ⟨rfl, b7⟩)
          have hb7 := bch HB6.out b7
          have hr7 := HR6.out.below b7
          have HR7 := Lib.hid hr7; clear hr7
          have HB7 := Lib.hid hb7; clear hb7
          clear b7 p4 HR6 HB6
          go_wp2_with fail
          go_roundw
          case rel => exact ⟨j + 1, by omega, by go_num, HB7.out, HR7.out⟩
          case measure => simp [intOf]; omega
        · have hj4 : j = 4 := by omega
          subst hj4
          go_wp2_with fail
          go_roundw
          case rel => exact ⟨2, _, rfl, by omega, rfl, hbw⟩
          case measure => simp [intOf]
    · have dummy := 0
      have p1 := frames_any 2 (by omega) A n cap f B m cap2 g wq (hra.below hb) (hst.below hb)
      go_wp2_with fail
      ((with_reducible refine p1.mono ?_); rintro e W2 ⟨A1, n1, cap1, fs, rfl, hc1, hc2, hfr, hni, b2⟩)
      clear p1
      replace hb := bch hb b2
      clear b2
      have hlen := hni.len
      obtain ⟨S, eS⟩ : ∃ S, bs (encFs 2 fs) = S := ⟨_, rfl⟩
      have zS : S.size = (encFs 2 fs).length := by rw [← eS, bs_size]
      have dS : S.data.toList = encFs 2 fs := by rw [← eS, bs_data]
      have p2 := bytes6_any HE.out 2 A1 n1 cap1 fs W2 hfr hni.ok (by omega)
      rw [eS] at p2
      have hmo := HMO.out
      have hs0 := HS0.out
      have hSl : S.size ≤ 4000 := by omega
      have hq := pickF_nat at0 ((S.size : Int) + 1) (by omega) (by omega) hat0
      have kq := pickN_lt at0 ((S.size : Int) + 1) (by omega)
      generalize pickN at0 ((S.size : Int) + 1) = k at hq kq
      have hkT : k ≤ S.size := by omega
      clear eS dS hlen zS hni hfr
      go_wp2_with fail
      ((with_reducible refine p2.mono ?_); rintro e W3 ⟨rfl, b3⟩)
      replace hb := bch hb b3
      clear b3 p2
      go_wp2_with fail
      ((with_reducible refine (hq _).mono ?_); rintro e V1 ⟨rfl, rfl⟩)
      clear hq
      go_wp2_with fail
      obtain ⟨P, hP⟩ : ∃ P, S.extract 0 k = P := ⟨_, rfl⟩
      obtain ⟨U, hU⟩ : ∃ U, S.extract k S.size = U := ⟨_, rfl⟩
      obtain ⟨mm, hmm, mm1⟩ : ∃ mm : Nat, (if (S.size : Int) < (k : Int) + (more.size : Int) then (S.size : Int) else (k : Int) + (more.size : Int)) = (mm : Int) ∧ mm ≤ S.size := by
        by_cases h9 : (S.size : Int) < (k : Int) + (more.size : Int)
        · exact ⟨S.size, if_pos h9, Nat.le_refl _⟩
        · exact ⟨k + more.size, by rw [if_neg h9]; omega, by omega⟩
      obtain ⟨R, hR⟩ : ∃ R, S.extract mm S.size = R := ⟨_, rfl⟩
      have zP : P.size ≤ 4000 := by rw [← hP, ByteArray.size_extract]; omega
      have zU : U.size ≤ 4000 := by rw [← hU, ByteArray.size_extract]; omega
      have zR : R.size ≤ 4000 := by rw [← hR, ByteArray.size_extract]; omega
      obtain ⟨Q, hQ⟩ : ∃ Q, P ++ more = Q := ⟨_, rfl⟩
      have zQ : Q.size ≤ 1052576 := by rw [← hQ, ByteArray.size_append]; omega
      have ha1 : ∀ W : World, (Op.stringOp .add P more).run Try.prog W = .ok (.string Q) W := fun W => by rw [← hQ]; exact str_add (by omega) W
      obtain ⟨Y, hY⟩ : ∃ Y, Q ++ R = Y := ⟨_, rfl⟩
      obtain ⟨Z, hZ⟩ : ∃ Z, Q ++ U = Z := ⟨_, rfl⟩
      have zY : Y.size ≤ 4194304 := by rw [← hY, ByteArray.size_append]; omega
      have zZ : Z.size ≤ 4194304 := by rw [← hZ, ByteArray.size_append]; omega
      have ha2 : ∀ W : World, (Op.stringOp .add Q R).run Try.prog W = .ok (.string Y) W := fun W => by rw [← hY]; exact str_add (by omega) W
      have ha3 : ∀ W : World, (Op.stringOp .add Q U).run Try.prog W = .ok (.string Z) W := fun W => by rw [← hZ]; exact str_add (by omega) W
      have hw1 : IntKind.i64.wrap ((k : Int) + (more.size : Int)) = (k : Int) + (more.size : Int) := IntWalk.i64_in _ (by omega)
      have hmin0 : (0 : Int) ≤ (mm : Int) := by omega
      have hmin1 : (mm : Int) ≤ (S.size : Int) := by omega
      have hrow : ∀ W : World, RowT (W.alloc (.cells #[.string s0, .string S, .string Y, .string Z] 9)) W.heap.size 4 := by
        intro W
        refine ⟨by simp, fun j hj => ?_⟩
        have hx := World.alloc_heap_new W (.cells #[.string s0, .string S, .string Y, .string Z] 9)
        rcases (by omega : j = 0 ∨ j = 1 ∨ j = 2 ∨ j = 3) with rfl | rfl | rfl | rfl
        · exact ⟨s0, cell_blk hx 0, by omega⟩
        · exact ⟨S, cell_blk hx 1, by omega⟩
        · exact ⟨Y, cell_blk hx 2, zY⟩
        · exact ⟨Z, cell_blk hx 3, zZ⟩
      have HROW := Lib.hid hrow; clear hrow
      have b3a : ∀ (o : Obj), Below w.heap.size w (W3.alloc o).drew := fun o => (hb.alloc hb.size o).drew
      have B3A := Lib.hid b3a; clear b3a
      have HBX := Lib.hid hb; clear hb
      clear hQ hY hZ zY zZ zP zU zR hs0 hmo kq
      go_region
      have hr2 : RowT (W3.alloc (.cells #[.string s0, .string S, .string Y, .string Z] 9)).drew W3.heap.size 4 := HROW.out W3
      have bb := B3A.out (.cells #[.string s0, .string S, .string Y, .string Z] 9)
      generalize (W3.alloc (.cells #[.string s0, .string S, .string Y, .string Z] 9)).drew = W5 at hr2 bb ⊢
      generalize W3.heap.size = B3 at *
      have HR2 := Lib.hid hr2; clear hr2
      have HBB := Lib.hid bb; clear bb
      clear hw1 ha1 ha2 ha3 hR hP hU zQ hmm mm1 hmin0 hmin1 HROW B3A HBX
      go_wp2_with fail
      go_loopw [70] (fun i wr => ∃ j : Nat, j ≤ 4 ∧ i = .int .i64 j ∧ Below w.heap.size w wr ∧ RowT wr B3 4) (fun i _ => 4 - (intOf i).toNat)
      case atStart => exact ⟨0, by omega, rfl, HBB.out, HR2.out⟩
      case round =>
        obtain ⟨j, hj, rfl, hbw, hrr⟩ := hrel
        clear HBB HR2
        by_cases hlt : j < 4
        · obtain ⟨X, cX, zX⟩ := hrr.2 j hlt
          have p3 := fun W => HS.out 2 X (by omega) W
          have e3 : scanV 2 X.data.toList = scanR 2 X.data.toList := by unfold scanV; rw [if_pos (by omega)]
          rw [e3] at p3
          obtain ⟨fo1, fo2, fo3⟩ := scan_forth (v := 2) (by omega) X.data.toList
          have hml : X.data.toList.length = X.size := by simp
          rw [hml] at fo2
          have fo4 := bytes_of_take fo3
          have fo5 : (encFs 2 (scanR 2 X.data.toList).1).length ≤ 4194304 := by rw [fo3, List.length_take, hml]; omega
          generalize scanR 2 X.data.toList = r at *
          obtain ⟨ls, nl, er⟩ := r
          simp only at p3 fo1 fo2 fo3 fo4 fo5
          obtain ⟨T, eT⟩ : ∃ T, X.extract 0 nl = T := ⟨_, rfl⟩
          have hsl := fun W => slice_to eT (by omega) W
          rw [eT] at fo4
          have hnl0 : (0 : Int) ≤ (nl : Int) := by omega
          have hnl1 : (nl : Int) ≤ (X.size : Int) := by omega
          have hTT : (T.toList == T.toList) = true := by simp
          have hj0 : (0 : Int) ≤ (j : Int) := by omega
          have hj1 : (j : Int) < (4 : Int) := by omega
          have HRR := Lib.hid hrr; clear hrr
          have HBW := Lib.hid hbw; clear hbw
          have HF1 := Lib.hid fo1; clear fo1
          clear fo2 fo3 hml e3 eT zX
          go_wp2_with fail
          ((with_reducible refine (p3 _).mono ?_); rintro e W6 ⟨A2, n2, cap3, rfl, hc3, hc4, hfr2, b6⟩)
          have hb6 := bch HBW.out b6
          have hr6 := HRR.out.below b6
          have p4 := bytes6_any HE.out 2 A2 n2 cap3 ls W6 hfr2 HF1.out (by omega)
          rw [fo4] at p4
          clear b6 p3 hfr2 fo4 fo5 HF1 HRR HBW
          have HR6 := Lib.hid hr6; clear hr6
          have HB6 := Lib.hid hb6; clear hb6
          go_wp2_with fail
          ((with_reducible refine p4.mono ?_); rintro e W7 ⟨rfl, b7⟩)
          have hb7 := bch HB6.out b7
          have hr7 := HR6.out.below b7
          have HR7 := Lib.hid hr7; clear hr7
          have HB7 := Lib.hid hb7; clear hb7
          clear b7 p4 HR6 HB6
          go_wp2_with fail
          go_roundw
          case rel => exact ⟨j + 1, by omega, by go_num, HB7.out, HR7.out⟩
          case measure => simp [intOf]; omega
        · have hj4 : j = 4 := by omega
          subst hj4
          go_wp2_with fail
          go_roundw
          case rel => exact ⟨3, _, rfl, by omega, rfl, hbw⟩
          case measure => simp [intOf]
    · go_wp2_with fail
      go_ret
      exact ⟨rfl, hb⟩
end Go.Proofs.Ytjciojgldibfmaa
