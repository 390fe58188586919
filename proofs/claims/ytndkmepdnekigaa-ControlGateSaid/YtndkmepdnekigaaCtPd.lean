import Derived.Test.YtndkmepdnekigaaCtPc
/-
  The contracts of the program's own Finalise and Report (stage 18).
-/
namespace Go.Proofs.Ytndkmepdnekigaa
open Go.RowKit Go.Lib
set_option linter.unusedVariables false
set_option linter.unusedSimpArgs false

set_option maxRecDepth 100000 in
set_option maxHeartbeats 8000000 in
theorem fin1_any (x b : Int) (w : World) : Calls Try.prog 41 #[.agg #[.int .i64 x, .int .i64 b]] w fun e w' => e = .returned (.bool (b == 1)) ∧ Below w.heap.size w w' := by
  have hbw : Below w.heap.size w (w.alloc (.cells #[.int .i64 x, .int .i64 b] 45)) := (Below.refl _ _).alloc (Nat.le_refl _) _
  cases e1 : (b == 1)
  · go_enter Try.func41, Try.ntmps41
    go_wp2_with fail
    go_ret
    exact ⟨ret_bool (by first | rfl | exact e1 | exact e1.symm), hbw⟩
  · go_enter Try.func41, Try.ntmps41
    go_wp2_with fail
    go_ret
    exact ⟨ret_bool (by first | rfl | exact e1 | exact e1.symm), hbw⟩
theorem cf9fin (args : Array Value) (w : World) : (callFunc 41 args).run Try.prog w = .ok (.enter 41 args) w := run_callFunc_body9 Try.func41 (by kernel_rfl) (by kernel_rfl) args w
set_option maxRecDepth 100000 in
set_option maxHeartbeats 8000000 in
theorem indexM9_any (l : List MbR) (p : MbR → Bool) (F : Nat) (A : Option Addr) (n cap : Nat) (w : World) (h : IsG s2 w A n l) (cf : ∀ args w, (callFunc F args).run Try.prog w = .ok (.enter F args) w) (hf : ∀ k, k < l.length → ∀ W : World, Below w.heap.size w W → Calls Try.prog F #[.agg #[.int .i64 (atM9 l k).1, .int .i64 (atM9 l k).2]] W fun e W' => e = .returned (.bool (p (atM9 l k))) ∧ Below W.heap.size W W') :
    Calls Try.prog 65 #[.slice A n cap, .func (.func F) #[] #[]] w fun e w' => e = .returned (.int .i64 (idx9 p l)) ∧ Below w.heap.size w w' := by
  have hn9 := h.2.1
  unfold maxLen at hn9
  have HN : Hid (n = l.length) := h.1
  have HT := Lib.hid h; clear h
  have HF := Lib.hid hf; clear hf
  have HIS : Hid (∀ k, k < l.length → p (atM9 l k) = true → (∀ j, j < k → p (atM9 l j) = false) → idx9 p l = k) := fun k h1 h2 h3 => by unfold idx9; rw [find9_at (at_ := atM9 l) (fun h => atM9_get h) h1 h2 h3]
  have HNO : Hid ((∀ j, j < l.length → p (atM9 l j) = false) → idx9 p l = -1) := fun h => by unfold idx9; rw [find9_no (at_ := atM9 l) (fun h => atM9_get h) h]
  generalize idx9 p l = R at *
  go_enter Try.func65, Try.ntmps65
  go_wp2_with fail
  go_loopw [8] (fun i wy => ∃ (j : Nat) (wr : World), wr = wy ∧ j ≤ n ∧ i = .int .i64 j ∧ (∀ q, q < j → p (atM9 l q) = false) ∧ Below w.heap.size w wr) (fun i _ => n - (intOf i).toNat)
  case atStart => exact ⟨0, _, rfl, by omega, rfl, (fun q hq => by omega), Below.refl _ _⟩
  case round =>
    obtain ⟨j, wr, rfl, hj, rfl, hall, hb⟩ := hrel
    have HB := Lib.hid hb; clear hb
    have HALL := Lib.hid hall; clear hall
    by_cases hlt : j < n
    · have hji : (j : Int) < (n : Int) := by omega
      have hj0 : (0 : Int) ≤ (j : Int) := by omega
      have HJL : Hid (j < l.length) := by have := HN.out; show _ < _; omega
      obtain ⟨b, off, hA, hlb, x0, x1⟩ := is2_at (HT.out.below HB.out) (atM9_get HJL.out)
      subst hA; clear hlb
      have q := HF.out j HJL.out wr HB.out
      have HSTEP : Hid (p (atM9 l j) = false → ∀ q, q < j + 1 → p (atM9 l q) = false) := fun e q hq => by
        rcases (by omega : q < j ∨ q = j) with h | rfl
        · exact HALL.out q h
        · exact e
      have HYES := Lib.hid (HIS.out j HJL.out)
      generalize atM9 l j = z at *
      obtain ⟨b, hbb⟩ : ∃ b, p z = b := ⟨_, rfl⟩
      have HBB := Lib.hid hbb
      rw [hbb] at q
      clear hbb
      cases b with
      | false =>
        go_wp2_with fail
        ((with_reducible refine q.mono ?_); rintro e W1 ⟨rfl, b1⟩)
        have HB1 := Lib.hid (bch HB.out b1); clear b1 q x0 x1
        go_wp2_with fail
        go_roundw
        case rel => exact ⟨j + 1, _, rfl, by omega, by go_num, HSTEP.out HBB.out, HB1.out⟩
        case measure => simp [intOf]; omega
      | true =>
        go_wp2_with fail
        ((with_reducible refine q.mono ?_); rintro e W1 ⟨rfl, b1⟩)
        have HB1 := Lib.hid (bch HB.out b1); clear b1 q x0 x1
        go_wp2_with fail
        go_ret
        exact ⟨congrArg (fun z => Ending.returned (.int .i64 z)) (HYES.out HBB.out HALL.out).symm, HB1.out⟩
    · have hje : j = n := by omega
      subst hje
      clear hlt
      go_wp2_with fail
      go_ret
      exact ⟨congrArg (fun z => Ending.returned (.int .i64 z)) (HNO.out (fun q hq => HALL.out q (by have := HN.out; omega))).symm, HB.out⟩
set_option maxRecDepth 100000 in
set_option maxHeartbeats 8000000 in
theorem containsM9_any (l : List MbR) (p : MbR → Bool) (F : Nat) (A : Option Addr) (n cap : Nat) (w : World) (h : IsG s2 w A n l) (cf : ∀ args w, (callFunc F args).run Try.prog w = .ok (.enter F args) w) (hf : ∀ k, k < l.length → ∀ W : World, Below w.heap.size w W → Calls Try.prog F #[.agg #[.int .i64 (atM9 l k).1, .int .i64 (atM9 l k).2]] W fun e W' => e = .returned (.bool (p (atM9 l k))) ∧ Below W.heap.size W W') :
    Calls Try.prog 40 #[.slice A n cap, .func (.func F) #[] #[]] w fun e w' => e = .returned (.bool (l.any p)) ∧ Below w.heap.size w w' := by
  have q := indexM9_any l p F A n cap w h cf hf
  have HA : Hid (decide (0 ≤ idx9 p l) = l.any p) := idx9_any p l
  clear h cf hf
  generalize l.any p = R at *
  generalize idx9 p l = z at *
  go_enter Try.func40, Try.ntmps40
  go_wp2_with fail
  ((with_reducible refine q.mono ?_); rintro e W1 ⟨rfl, b1⟩)
  clear q
  have HB1 := Lib.hid b1; clear b1
  by_cases hz : (0 : Int) ≤ z
  · have hz2 : decide ((0 : Int) ≤ z) = true := decide_eq_true hz
    go_wp2_with fail
    go_ret
    exact ⟨ret_bool (by rw [← HA.out]; first | done | exact hz2.symm | exact (decide_eq_true hz).symm | rfl), HB1.out⟩
  · have hz2 : decide ((0 : Int) ≤ z) = false := decide_eq_false hz
    go_wp2_with fail
    go_ret
    exact ⟨ret_bool (by rw [← HA.out]; first | done | exact hz2.symm | rfl), HB1.out⟩
set_option maxRecDepth 100000 in
set_option maxHeartbeats 8000000 in
theorem finalC9_any : FinalC9 := by
  intro c A B n cap m cm w harg
  have h := harg.1
  have HX := Blk.below (Blk.new w (ctB c A n cap B m cm)) (ba9 (w.alloc (ctB c A n cap B m cm)) (.cells #[.int .i64 0, .slice none 0 0, .slice none 0 0] 26))
  have HZ := Blk.new (w.alloc (ctB c A n cap B m cm)) (.cells #[.int .i64 0, .slice none 0 0, .slice none 0 0] 26)
  rw [World.size_alloc] at HZ
  have HB := (ba9 w (ctB c A n cap B m cm)).alloc (ba9 w (ctB c A n cap B m cm)).size (.cells #[.int .i64 0, .slice none 0 0, .slice none 0 0] 26)
  have HI : IsG s2 _ A n c.mem ∧ IsG s3 _ B m c.pl := h.below HB
  have HAP : ApartN (w.heap.size + 1) A n ∧ ApartN (w.heap.size + 1) B m := ⟨h.1.apart (Nat.le_succ _), h.2.apart (Nat.le_succ _)⟩
  obtain ⟨W, hW⟩ : ∃ W, (w.alloc (ctB c A n cap B m cm)).alloc (.cells #[.int .i64 0, .slice none 0 0, .slice none 0 0] 26) = W := ⟨_, rfl⟩
  rw [hW] at HX HZ HB HI
  have HXX := Lib.hid HX; clear HX
  have HZZ := Lib.hid HZ; clear HZ
  have HBB := Lib.hid HB; clear HB
  have HII := Lib.hid HI; clear HI
  have HAPP := Lib.hid HAP; clear HAP
  have HC : Hid (n ≤ cap ∧ m ≤ cm) := ⟨harg.2.2.1, harg.2.2.2.1⟩
  have HARG := Lib.hid harg.2; clear harg
  have HNM : Hid (n = c.mem.length ∧ m = c.pl.length) := ⟨h.1.1, h.2.1⟩
  have hnm := h.1.2.1
  have hmm := h.2.2.1
  unfold maxLen at hnm hmm
  clear h
  have qr := fun V (hb : Below W.heap.size W V) => rightC9_any c A B n cap m cm V ⟨IsCt.below HII.out hb, HARG.out⟩
  have z0 := Blk.cell HXX.out 0
  have z1 := Blk.cell HXX.out 1
  have z2 := Blk.cell HXX.out 2
  simp only [List.getElem?_toArray, List.getElem?_cons_zero, List.getElem?_cons_succ] at z0 z1 z2
  go_enter Try.func18, Try.ntmps18
  go_upto_region 1 with fail
  try rw [hW]
  clear hW
  have HNO : Hid (rightC c = false → finalC c = (c, 1)) := fun h => if_pos (by unfold rightC at h; exact of_decide_eq_false h)
  have HANY : Hid (rightC c = true → c.mem.any (fun x => x.2 == 1) = true → finalC c = (c, 22)) := fun h h2 => by
    unfold rightC at h
    have h := of_decide_eq_true h
    unfold finalC
    rw [if_neg (fun e => e h), if_pos]
    obtain ⟨x, hx, he⟩ := List.any_eq_true.1 h2
    exact ⟨x, hx, by simp at he; omega⟩
  have HALL : Hid (rightC c = true → c.mem.any (fun x => x.2 == 1) = false → finalC c = (⟨2, c.mem, c.pl⟩, 0)) := fun h h2 => by
    unfold rightC at h
    have h := of_decide_eq_true h
    unfold finalC
    rw [if_neg (fun e => e h), if_neg]
    rintro ⟨x, hx, hne⟩
    have h3 := List.any_eq_false.1 h2 x hx
    have h4 := binB_iff.1 (h.2.2.2.1.2 x hx).2.2
    simp at h3
    omega
  have qc := fun V (hb : Below W.heap.size W V) => containsM9_any c.mem (fun x => x.2 == 1) 41 A n cap V (HII.out.1.below hb) cf9fin (fun k hk U _ => fin1_any _ _ U)
  have q := qr W (Below.refl _ _)
  clear qr
  go_wp2_with fail
  ((with_reducible refine (q).mono ?_); rintro e V ⟨rfl, b1⟩)
  clear q z0 z1 z2
  cases hr : rightC c with
  | false =>
    have HE := Lib.hid (HNO.out hr)
    have HB := Lib.hid (bch HBB.out b1)
    have HZ := Lib.hid (Blk.below HZZ.out b1)
    have HI : Hid (IsG s2 V A n c.mem ∧ IsG s3 V B m c.pl) := ⟨HII.out.1.below b1, HII.out.2.below b1⟩
    have HAP := HAPP
    have hx_ := Blk.below HXX.out b1
    have z0 := Blk.cell hx_ 0
    have z1 := Blk.cell hx_ 1
    have z2 := Blk.cell hx_ 2
    simp only [List.getElem?_toArray, List.getElem?_cons_zero, List.getElem?_cons_succ] at z0 z1 z2
    clear hx_
    have x0 := Blk.cell HZ.out 0
    have x1 := Blk.cell HZ.out 1
    have x2 := Blk.cell HZ.out 2
    simp only [List.getElem?_toArray, List.getElem?_cons_zero, List.getElem?_cons_succ] at x0 x1 x2
    have f0 := Blk.frozen HZ.out 0
    have f1 := Blk.frozen HZ.out 1
    have f2 := Blk.frozen HZ.out 2
    have hz3 := Blk.set (Blk.set (Blk.set HZ.out 0 (.int .i64 c.level) #[.int .i64 c.level, .slice none 0 0, .slice none 0 0] rfl) 1 (.slice A n cap) #[.int .i64 c.level, .slice A n cap, .slice none 0 0] rfl) 2 (.slice B m cm) #[.int .i64 c.level, .slice A n cap, .slice B m cm] rfl
    have hb3 := ((HB.out.setCell (p := ⟨w.heap.size + 1, 0, none⟩) (Nat.le_succ _) (.int .i64 c.level)).setCell (p := ⟨w.heap.size + 1, 1, none⟩) (Nat.le_succ _) (.slice A n cap)).setCell (p := ⟨w.heap.size + 1, 2, none⟩) (Nat.le_succ _) (.slice B m cm)
    have hi3 := ((HI.out.1.far (j := 0) (u := .int .i64 c.level) HAP.out.1).far (j := 1) (u := .slice A n cap) HAP.out.1).far (j := 2) (u := .slice B m cm) HAP.out.1
    have hj3 := ((HI.out.2.far (j := 0) (u := .int .i64 c.level) HAP.out.2).far (j := 1) (u := .slice A n cap) HAP.out.2).far (j := 2) (u := .slice B m cm) HAP.out.2
    have HZ3 := Lib.hid hz3; clear hz3
    have HB3 := Lib.hid hb3; clear hb3
    have HI3 := Lib.hid hi3; clear hi3
    have HJ3 := Lib.hid hj3; clear hj3
    clear HZ HB HI HAP
    go_wp2_with fail
    have e0 := Blk.cell HZ3.out 0
    have e1 := Blk.cell HZ3.out 1
    have e2 := Blk.cell HZ3.out 2
    simp only [List.getElem?_toArray, List.getElem?_cons_zero, List.getElem?_cons_succ] at e0 e1 e2
    refine bodyPost_ret (v := .tuple #[.agg #[.int .i64 c.level, .slice A n cap, .slice B m cm], .int .i64 1]) (by simp [results, Try.results18, go_sem, e0, e1, e2]) rfl ?_
    rw [HE.out]
    exact ⟨_, _, _, _, _, _, rfl, HC.out.1, HC.out.2, ⟨HI3.out, HJ3.out⟩, HB3.out⟩
  | true =>
    have qc := qc V b1
    have HANY := Lib.hid (HANY.out hr)
    have HALL := Lib.hid (HALL.out hr)
    clear hr HNO
    have hx_ := Blk.below HXX.out b1
    have z0 := Blk.cell hx_ 0
    have z1 := Blk.cell hx_ 1
    have z2 := Blk.cell hx_ 2
    simp only [List.getElem?_toArray, List.getElem?_cons_zero, List.getElem?_cons_succ] at z0 z1 z2
    clear hx_
    go_wp2_with fail
    ((with_reducible refine (qc).mono ?_); rintro e V2 ⟨rfl, b2⟩)
    have hb12 := bch b1 b2
    clear qc z0 z1 z2 b1 b2
    cases ha : c.mem.any (fun x => x.2 == 1) with
    | true =>
      have HE := Lib.hid (HANY.out ha)
      have HB := Lib.hid (bch HBB.out hb12)
      have HZ := Lib.hid (Blk.below HZZ.out hb12)
      have HI : Hid (IsG s2 V2 A n c.mem ∧ IsG s3 V2 B m c.pl) := ⟨HII.out.1.below hb12, HII.out.2.below hb12⟩
      have HAP := HAPP
      have hx_ := Blk.below HXX.out hb12
      have z0 := Blk.cell hx_ 0
      have z1 := Blk.cell hx_ 1
      have z2 := Blk.cell hx_ 2
      simp only [List.getElem?_toArray, List.getElem?_cons_zero, List.getElem?_cons_succ] at z0 z1 z2
      clear hx_
      have x0 := Blk.cell HZ.out 0
      have x1 := Blk.cell HZ.out 1
      have x2 := Blk.cell HZ.out 2
      simp only [List.getElem?_toArray, List.getElem?_cons_zero, List.getElem?_cons_succ] at x0 x1 x2
      have f0 := Blk.frozen HZ.out 0
      have f1 := Blk.frozen HZ.out 1
      have f2 := Blk.frozen HZ.out 2
      have hz3 := Blk.set (Blk.set (Blk.set HZ.out 0 (.int .i64 c.level) #[.int .i64 c.level, .slice none 0 0, .slice none 0 0] rfl) 1 (.slice A n cap) #[.int .i64 c.level, .slice A n cap, .slice none 0 0] rfl) 2 (.slice B m cm) #[.int .i64 c.level, .slice A n cap, .slice B m cm] rfl
      have hb3 := ((HB.out.setCell (p := ⟨w.heap.size + 1, 0, none⟩) (Nat.le_succ _) (.int .i64 c.level)).setCell (p := ⟨w.heap.size + 1, 1, none⟩) (Nat.le_succ _) (.slice A n cap)).setCell (p := ⟨w.heap.size + 1, 2, none⟩) (Nat.le_succ _) (.slice B m cm)
      have hi3 := ((HI.out.1.far (j := 0) (u := .int .i64 c.level) HAP.out.1).far (j := 1) (u := .slice A n cap) HAP.out.1).far (j := 2) (u := .slice B m cm) HAP.out.1
      have hj3 := ((HI.out.2.far (j := 0) (u := .int .i64 c.level) HAP.out.2).far (j := 1) (u := .slice A n cap) HAP.out.2).far (j := 2) (u := .slice B m cm) HAP.out.2
      have HZ3 := Lib.hid hz3; clear hz3
      have HB3 := Lib.hid hb3; clear hb3
      have HI3 := Lib.hid hi3; clear hi3
      have HJ3 := Lib.hid hj3; clear hj3
      clear HZ HB HI HAP
      go_wp2_with fail
      have e0 := Blk.cell HZ3.out 0
      have e1 := Blk.cell HZ3.out 1
      have e2 := Blk.cell HZ3.out 2
      simp only [List.getElem?_toArray, List.getElem?_cons_zero, List.getElem?_cons_succ] at e0 e1 e2
      refine bodyPost_ret (v := .tuple #[.agg #[.int .i64 c.level, .slice A n cap, .slice B m cm], .int .i64 22]) (by simp [results, Try.results18, go_sem, e0, e1, e2]) rfl ?_
      rw [HE.out]
      exact ⟨_, _, _, _, _, _, rfl, HC.out.1, HC.out.2, ⟨HI3.out, HJ3.out⟩, HB3.out⟩
    | false =>
      have HE := Lib.hid (HALL.out ha)
      clear HANY HALL ha
      have hx_ := Blk.below HXX.out hb12
      have z0 := Blk.cell hx_ 0
      have z1 := Blk.cell hx_ 1
      have z2 := Blk.cell hx_ 2
      simp only [List.getElem?_toArray, List.getElem?_cons_zero, List.getElem?_cons_succ] at z0 z1 z2
      have qo := owned9_any c A B n cap m cm V2 (IsCt.below HII.out hb12) HARG.out.2.2.2.1 HARG.out.2.2.2.2
      have hg_ : w.heap.size < V2.heap.size := Nat.lt_of_lt_of_le (Blk.lt HXX.out) (hb12).size
      have hg2_ : w.heap.size + 1 < V2.heap.size := Nat.lt_of_lt_of_le (Blk.lt HZZ.out) (hb12).size
      have HG_ := Lib.hid hg_; clear hg_
      have HG2_ := Lib.hid hg2_; clear hg2_
      go_wp2_with fail
      ((with_reducible refine qo.mono ?_); rintro e X1 ⟨Am, capm, Bp, capp, rfl, hrm, hrp, hne, b9⟩)
      clear qo z0 z1 z2
      have hx9 := Blk.below hx_ b9
      have z0 := Blk.cell hx9 0
      have z1 := Blk.cell hx9 1
      have z2 := Blk.cell hx9 2
      simp only [List.getElem?_toArray, List.getElem?_cons_zero, List.getElem?_cons_succ] at z0 z1 z2
      have f0 := Blk.frozen hx9 0
      have f1 := Blk.frozen hx9 1
      have f2 := Blk.frozen hx9 2
      go_upto_region 6 with fail
      have hx2 := Blk.set (Blk.set (Blk.set hx9 0 (.int .i64 c.level) #[.int .i64 c.level, .slice A n cap, .slice B m cm] rfl) 1 (.slice Am c.mem.length capm) #[.int .i64 c.level, .slice Am c.mem.length capm, .slice B m cm] rfl) 2 (.slice Bp c.pl.length capp) #[.int .i64 c.level, .slice Am c.mem.length capm, .slice Bp c.pl.length capp] rfl
      have hz2 := Blk.far (Blk.far (Blk.far (Blk.below (Blk.below HZZ.out hb12) b9) (show w.heap.size + 1 ≠ w.heap.size by omega) 0 (.int .i64 c.level)) (show w.heap.size + 1 ≠ w.heap.size by omega) 1 (.slice Am c.mem.length capm)) (show w.heap.size + 1 ≠ w.heap.size by omega) 2 (.slice Bp c.pl.length capp)
      have hb2 := (((bch HBB.out (bch hb12 b9)).setCell (p := ⟨w.heap.size, 0, none⟩) (Nat.le_refl _) (.int .i64 c.level)).setCell (p := ⟨w.heap.size, 1, none⟩) (Nat.le_refl _) (.slice Am c.mem.length capm)).setCell (p := ⟨w.heap.size, 2, none⟩) (Nat.le_refl _) (.slice Bp c.pl.length capp)
      have hp2 := ((hrm.farB (j := 0) HG_.out (.int .i64 c.level)).farB (j := 1) HG_.out (.slice Am c.mem.length capm)).farB (j := 2) HG_.out (.slice Bp c.pl.length capp)
      have hq2 := ((hrp.farB (j := 0) HG_.out (.int .i64 c.level)).farB (j := 1) HG_.out (.slice Am c.mem.length capm)).farB (j := 2) HG_.out (.slice Bp c.pl.length capp)
      have hvx2 : V2.heap.size ≤ (((X1.setCell ⟨w.heap.size, 0, none⟩ (.int .i64 c.level)).setCell ⟨w.heap.size, 1, none⟩ (.slice Am c.mem.length capm)).setCell ⟨w.heap.size, 2, none⟩ (.slice Bp c.pl.length capp)).heap.size := by simpa using b9.size
      obtain ⟨X2, hX2⟩ : ∃ X, ((X1.setCell ⟨w.heap.size, 0, none⟩ (.int .i64 c.level)).setCell ⟨w.heap.size, 1, none⟩ (.slice Am c.mem.length capm)).setCell ⟨w.heap.size, 2, none⟩ (.slice Bp c.pl.length capp) = X := ⟨_, rfl⟩
      rw [hX2] at hx2 hz2 hb2 hp2 hq2 hvx2 ⊢
      clear hX2 z0 z1 z2 f0 f1 f2 hx_ hx9 hrm hrp b9
      have HB9V : Hid (V2.heap.size ≤ X2.heap.size) := hvx2; clear hvx2
      have HX2 := Lib.hid hx2; clear hx2
      have HZ2 := Lib.hid hz2; clear hz2
      have HB2 := Lib.hid hb2; clear hb2
      have HP2 := Lib.hid hp2; clear hp2
      have HQ2 := Lib.hid hq2; clear hq2
      have HNE := Lib.hid hne; clear hne
      have g0 := Blk.cell HX2.out 0
      simp only [List.getElem?_toArray, List.getElem?_cons_zero, List.getElem?_cons_succ] at g0
      have gf := Blk.frozen HX2.out 0
      go_upto_region 7 with fail
      have hx3 := Blk.set HX2.out 0 (.int .i64 2) #[.int .i64 2, .slice Am c.mem.length capm, .slice Bp c.pl.length capp] rfl
      have hz3 := Blk.far HZ2.out (show w.heap.size + 1 ≠ w.heap.size by omega) 0 (.int .i64 2)
      have hb3 := HB2.out.setCell (p := ⟨w.heap.size, 0, none⟩) (Nat.le_refl _) (.int .i64 2)
      have hp3 := HP2.out.farB (j := 0) HG_.out (.int .i64 2)
      have hq3 := HQ2.out.farB (j := 0) HG_.out (.int .i64 2)
      obtain ⟨X3, hX3⟩ : ∃ X, X2.setCell ⟨w.heap.size, 0, none⟩ (.int .i64 2) = X := ⟨_, rfl⟩
      rw [hX3] at hx3 hz3 hb3 hp3 hq3 ⊢
      clear hX3 g0 gf HX2 HZ2 HB2 HP2 HQ2
      have HZ := Lib.hid hz3
      have HB := Lib.hid hb3
      obtain ⟨_, _, hv1, hc1, hi1⟩ := hp3.parts
      obtain ⟨_, _, hv2, hc2, hi2⟩ := hq3.parts
      obtain ⟨rfl, hl1, rfl⟩ := slice_eqG hv1
      obtain ⟨rfl, hl2, rfl⟩ := slice_eqG hv2
      have HI : Hid (IsG s2 X3 Am c.mem.length c.mem ∧ IsG s3 X3 Bp c.pl.length c.pl) := ⟨by rw [hl1]; exact hi1, by rw [hl2]; exact hi2⟩
      clear HC
      have HC : Hid (c.mem.length ≤ capm ∧ c.pl.length ≤ capp) := ⟨by rw [hl1]; exact hc1, by rw [hl2]; exact hc2⟩
      have HAP : Hid (ApartN (w.heap.size + 1) Am c.mem.length ∧ ApartN (w.heap.size + 1) Bp c.pl.length) := ⟨fun _ b off e => by have := (hp3.lt b (by rw [e]; rfl)).1; have := HG2_.out; omega, fun _ b off e => by have := (hq3.lt b (by rw [e]; rfl)).1; have := HG2_.out; omega⟩
      clear hv1 hc1 hi1 hl1 hv2 hc2 hi2 hl2
      have hx_ := hx3
      have z0 := Blk.cell hx_ 0
      have z1 := Blk.cell hx_ 1
      have z2 := Blk.cell hx_ 2
      simp only [List.getElem?_toArray, List.getElem?_cons_zero, List.getElem?_cons_succ] at z0 z1 z2
      clear hx_
      have x0 := Blk.cell HZ.out 0
      have x1 := Blk.cell HZ.out 1
      have x2 := Blk.cell HZ.out 2
      simp only [List.getElem?_toArray, List.getElem?_cons_zero, List.getElem?_cons_succ] at x0 x1 x2
      have f0 := Blk.frozen HZ.out 0
      have f1 := Blk.frozen HZ.out 1
      have f2 := Blk.frozen HZ.out 2
      have hz3 := Blk.set (Blk.set (Blk.set HZ.out 0 (.int .i64 2) #[.int .i64 2, .slice none 0 0, .slice none 0 0] rfl) 1 (.slice Am c.mem.length capm) #[.int .i64 2, .slice Am c.mem.length capm, .slice none 0 0] rfl) 2 (.slice Bp c.pl.length capp) #[.int .i64 2, .slice Am c.mem.length capm, .slice Bp c.pl.length capp] rfl
      have hb3 := ((HB.out.setCell (p := ⟨w.heap.size + 1, 0, none⟩) (Nat.le_succ _) (.int .i64 2)).setCell (p := ⟨w.heap.size + 1, 1, none⟩) (Nat.le_succ _) (.slice Am c.mem.length capm)).setCell (p := ⟨w.heap.size + 1, 2, none⟩) (Nat.le_succ _) (.slice Bp c.pl.length capp)
      have hi3 := ((HI.out.1.far (j := 0) (u := .int .i64 2) HAP.out.1).far (j := 1) (u := .slice Am c.mem.length capm) HAP.out.1).far (j := 2) (u := .slice Bp c.pl.length capp) HAP.out.1
      have hj3 := ((HI.out.2.far (j := 0) (u := .int .i64 2) HAP.out.2).far (j := 1) (u := .slice Am c.mem.length capm) HAP.out.2).far (j := 2) (u := .slice Bp c.pl.length capp) HAP.out.2
      have HZ3 := Lib.hid hz3; clear hz3
      have HB3 := Lib.hid hb3; clear hb3
      have HI3 := Lib.hid hi3; clear hi3
      have HJ3 := Lib.hid hj3; clear hj3
      clear HZ HB HI HAP
      go_wp2_with fail
      have e0 := Blk.cell HZ3.out 0
      have e1 := Blk.cell HZ3.out 1
      have e2 := Blk.cell HZ3.out 2
      simp only [List.getElem?_toArray, List.getElem?_cons_zero, List.getElem?_cons_succ] at e0 e1 e2
      refine bodyPost_ret (v := .tuple #[.agg #[.int .i64 2, .slice Am c.mem.length capm, .slice Bp c.pl.length capp], .int .i64 0]) (by simp [results, Try.results18, go_sem, e0, e1, e2]) rfl ?_
      rw [HE.out]
      exact ⟨_, _, _, _, _, _, rfl, HC.out.1, HC.out.2, ⟨HI3.out, HJ3.out⟩, HB3.out⟩
set_option maxRecDepth 100000 in
set_option maxHeartbeats 8000000 in
theorem reportC9_any : ReportC9 := by
  intro c A B n cap m cm x b w harg hwx hwb
  have h := harg.1
  have HX := Blk.below (Blk.new w (ctB c A n cap B m cm)) (ba9 (w.alloc (ctB c A n cap B m cm)) (.cells #[.int .i64 0, .slice none 0 0, .slice none 0 0] 26))
  have HZ := Blk.new (w.alloc (ctB c A n cap B m cm)) (.cells #[.int .i64 0, .slice none 0 0, .slice none 0 0] 26)
  rw [World.size_alloc] at HZ
  have HB := (ba9 w (ctB c A n cap B m cm)).alloc (ba9 w (ctB c A n cap B m cm)).size (.cells #[.int .i64 0, .slice none 0 0, .slice none 0 0] 26)
  have HI : IsG s2 _ A n c.mem ∧ IsG s3 _ B m c.pl := h.below HB
  have HAP : ApartN (w.heap.size + 1) A n ∧ ApartN (w.heap.size + 1) B m := ⟨h.1.apart (Nat.le_succ _), h.2.apart (Nat.le_succ _)⟩
  obtain ⟨W, hW⟩ : ∃ W, (w.alloc (ctB c A n cap B m cm)).alloc (.cells #[.int .i64 0, .slice none 0 0, .slice none 0 0] 26) = W := ⟨_, rfl⟩
  rw [hW] at HX HZ HB HI
  have HXX := Lib.hid HX; clear HX
  have HZZ := Lib.hid HZ; clear HZ
  have HBB := Lib.hid HB; clear HB
  have HII := Lib.hid HI; clear HI
  have HAPP := Lib.hid HAP; clear HAP
  have HC : Hid (n ≤ cap ∧ m ≤ cm) := ⟨harg.2.2.1, harg.2.2.2.1⟩
  have HARG := Lib.hid harg.2; clear harg
  have HNM : Hid (n = c.mem.length ∧ m = c.pl.length) := ⟨h.1.1, h.2.1⟩
  have hnm := h.1.2.1
  have hmm := h.2.2.1
  unfold maxLen at hnm hmm
  clear h
  have qr := fun V (hb : Below W.heap.size W V) => rightC9_any c A B n cap m cm V ⟨IsCt.below HII.out hb, HARG.out⟩
  have z0 := Blk.cell HXX.out 0
  have z1 := Blk.cell HXX.out 1
  have z2 := Blk.cell HXX.out 2
  simp only [List.getElem?_toArray, List.getElem?_cons_zero, List.getElem?_cons_succ] at z0 z1 z2
  go_enter Try.func24, Try.ntmps24
  go_upto_region 1 with fail
  try rw [hW]
  clear hW
  have HNO : Hid (rightC c = false ∨ ver9 b = false → reportC c x b = (c, 1)) := fun h => by
    unfold reportC
    rw [if_pos]
    rcases h with h | h
    · exact .inl (by unfold rightC at h; exact of_decide_eq_false h)
    · refine .inr ?_
      unfold ver9 at h
      simpa using h
  have HGO : Hid (rightC c = true → ver9 b = true → RightC c ∧ (b = 1 ∨ b = 2) ∧ reportC c x b = if ¬ isMem c.mem x then (c, 70) else if binB c.level b = false then (c, 22) else (⟨c.level, c.mem.set (memI c.mem x).toNat (x, b), c.pl⟩, 0)) := fun h h2 => by
    unfold rightC at h
    have h := of_decide_eq_true h
    have h3 : b = 1 ∨ b = 2 := by unfold ver9 at h2; simpa using h2
    refine ⟨h, h3, ?_⟩
    unfold reportC
    rw [if_neg (fun e => by rcases e with e | e; exact e h; omega)]
  have qv := fun V => isVersion9_any b V
  have qf := fun V (hb : Below W.heap.size W V) (h : RightC c) => find9_any A n cap c.mem x V (HII.out.1.below hb) h.2.2.2.1.1 (by have h1 := h.2.1.2; have h2 := HNM.out.1; omega)
  have q := qr W (Below.refl _ _)
  clear qr
  go_wp2_with fail
  ((with_reducible refine (q).mono ?_); rintro e V ⟨rfl, b1⟩)
  clear q z0 z1 z2
  cases hr : rightC c with
  | false =>
    have HE := Lib.hid (HNO.out (.inl hr))
    have HB := Lib.hid (bch HBB.out b1)
    have HZ := Lib.hid (Blk.below HZZ.out b1)
    have HI : Hid (IsG s2 V A n c.mem ∧ IsG s3 V B m c.pl) := ⟨HII.out.1.below b1, HII.out.2.below b1⟩
    have HAP := HAPP
    have hx_ := Blk.below HXX.out b1
    have z0 := Blk.cell hx_ 0
    have z1 := Blk.cell hx_ 1
    have z2 := Blk.cell hx_ 2
    simp only [List.getElem?_toArray, List.getElem?_cons_zero, List.getElem?_cons_succ] at z0 z1 z2
    clear hx_
    have x0 := Blk.cell HZ.out 0
    have x1 := Blk.cell HZ.out 1
    have x2 := Blk.cell HZ.out 2
    simp only [List.getElem?_toArray, List.getElem?_cons_zero, List.getElem?_cons_succ] at x0 x1 x2
    have f0 := Blk.frozen HZ.out 0
    have f1 := Blk.frozen HZ.out 1
    have f2 := Blk.frozen HZ.out 2
    have hz3 := Blk.set (Blk.set (Blk.set HZ.out 0 (.int .i64 c.level) #[.int .i64 c.level, .slice none 0 0, .slice none 0 0] rfl) 1 (.slice A n cap) #[.int .i64 c.level, .slice A n cap, .slice none 0 0] rfl) 2 (.slice B m cm) #[.int .i64 c.level, .slice A n cap, .slice B m cm] rfl
    have hb3 := ((HB.out.setCell (p := ⟨w.heap.size + 1, 0, none⟩) (Nat.le_succ _) (.int .i64 c.level)).setCell (p := ⟨w.heap.size + 1, 1, none⟩) (Nat.le_succ _) (.slice A n cap)).setCell (p := ⟨w.heap.size + 1, 2, none⟩) (Nat.le_succ _) (.slice B m cm)
    have hi3 := ((HI.out.1.far (j := 0) (u := .int .i64 c.level) HAP.out.1).far (j := 1) (u := .slice A n cap) HAP.out.1).far (j := 2) (u := .slice B m cm) HAP.out.1
    have hj3 := ((HI.out.2.far (j := 0) (u := .int .i64 c.level) HAP.out.2).far (j := 1) (u := .slice A n cap) HAP.out.2).far (j := 2) (u := .slice B m cm) HAP.out.2
    have HZ3 := Lib.hid hz3; clear hz3
    have HB3 := Lib.hid hb3; clear hb3
    have HI3 := Lib.hid hi3; clear hi3
    have HJ3 := Lib.hid hj3; clear hj3
    clear HZ HB HI HAP
    go_wp2_with fail
    have e0 := Blk.cell HZ3.out 0
    have e1 := Blk.cell HZ3.out 1
    have e2 := Blk.cell HZ3.out 2
    simp only [List.getElem?_toArray, List.getElem?_cons_zero, List.getElem?_cons_succ] at e0 e1 e2
    refine bodyPost_ret (v := .tuple #[.agg #[.int .i64 c.level, .slice A n cap, .slice B m cm], .int .i64 1]) (by simp [results, Try.results24, go_sem, e0, e1, e2]) rfl ?_
    rw [HE.out]
    exact ⟨_, _, _, _, _, _, rfl, HC.out.1, HC.out.2, ⟨HI3.out, HJ3.out⟩, HB3.out⟩
  | true =>
    cases hv : ver9 b with
    | false =>
      rw [hv] at qv
      have HE := Lib.hid (HNO.out (.inr hv))
      have hx_ := Blk.below HXX.out b1
      have z0 := Blk.cell hx_ 0
      have z1 := Blk.cell hx_ 1
      have z2 := Blk.cell hx_ 2
      simp only [List.getElem?_toArray, List.getElem?_cons_zero, List.getElem?_cons_succ] at z0 z1 z2
      clear hx_
      go_wp2_with fail
      ((with_reducible refine (qv _).mono ?_); rintro e V2 ⟨rfl, rfl⟩)
      clear z0 z1 z2
      have HB := Lib.hid (bch HBB.out b1)
      have HZ := Lib.hid (Blk.below HZZ.out b1)
      have HI : Hid (IsG s2 V A n c.mem ∧ IsG s3 V B m c.pl) := ⟨HII.out.1.below b1, HII.out.2.below b1⟩
      have HAP := HAPP
      have hx_ := Blk.below HXX.out b1
      have z0 := Blk.cell hx_ 0
      have z1 := Blk.cell hx_ 1
      have z2 := Blk.cell hx_ 2
      simp only [List.getElem?_toArray, List.getElem?_cons_zero, List.getElem?_cons_succ] at z0 z1 z2
      clear hx_
      have x0 := Blk.cell HZ.out 0
      have x1 := Blk.cell HZ.out 1
      have x2 := Blk.cell HZ.out 2
      simp only [List.getElem?_toArray, List.getElem?_cons_zero, List.getElem?_cons_succ] at x0 x1 x2
      have f0 := Blk.frozen HZ.out 0
      have f1 := Blk.frozen HZ.out 1
      have f2 := Blk.frozen HZ.out 2
      have hz3 := Blk.set (Blk.set (Blk.set HZ.out 0 (.int .i64 c.level) #[.int .i64 c.level, .slice none 0 0, .slice none 0 0] rfl) 1 (.slice A n cap) #[.int .i64 c.level, .slice A n cap, .slice none 0 0] rfl) 2 (.slice B m cm) #[.int .i64 c.level, .slice A n cap, .slice B m cm] rfl
      have hb3 := ((HB.out.setCell (p := ⟨w.heap.size + 1, 0, none⟩) (Nat.le_succ _) (.int .i64 c.level)).setCell (p := ⟨w.heap.size + 1, 1, none⟩) (Nat.le_succ _) (.slice A n cap)).setCell (p := ⟨w.heap.size + 1, 2, none⟩) (Nat.le_succ _) (.slice B m cm)
      have hi3 := ((HI.out.1.far (j := 0) (u := .int .i64 c.level) HAP.out.1).far (j := 1) (u := .slice A n cap) HAP.out.1).far (j := 2) (u := .slice B m cm) HAP.out.1
      have hj3 := ((HI.out.2.far (j := 0) (u := .int .i64 c.level) HAP.out.2).far (j := 1) (u := .slice A n cap) HAP.out.2).far (j := 2) (u := .slice B m cm) HAP.out.2
      have HZ3 := Lib.hid hz3; clear hz3
      have HB3 := Lib.hid hb3; clear hb3
      have HI3 := Lib.hid hi3; clear hi3
      have HJ3 := Lib.hid hj3; clear hj3
      clear HZ HB HI HAP
      go_wp2_with fail
      have e0 := Blk.cell HZ3.out 0
      have e1 := Blk.cell HZ3.out 1
      have e2 := Blk.cell HZ3.out 2
      simp only [List.getElem?_toArray, List.getElem?_cons_zero, List.getElem?_cons_succ] at e0 e1 e2
      refine bodyPost_ret (v := .tuple #[.agg #[.int .i64 c.level, .slice A n cap, .slice B m cm], .int .i64 1]) (by simp [results, Try.results24, go_sem, e0, e1, e2]) rfl ?_
      rw [HE.out]
      exact ⟨_, _, _, _, _, _, rfl, HC.out.1, HC.out.2, ⟨HI3.out, HJ3.out⟩, HB3.out⟩
    | true =>
      rw [hv] at qv
      obtain ⟨hrc, hb12, hgo⟩ := HGO.out hr hv
      have HRC := Lib.hid hrc
      have HGO2 := Lib.hid hgo
      have HB12 := Lib.hid hb12
      have qf := qf V b1 hrc
      clear hr hv hrc hgo HGO HNO hb12
      have hx_ := Blk.below HXX.out b1
      have z0 := Blk.cell hx_ 0
      have z1 := Blk.cell hx_ 1
      have z2 := Blk.cell hx_ 2
      simp only [List.getElem?_toArray, List.getElem?_cons_zero, List.getElem?_cons_succ] at z0 z1 z2
      clear hx_
      go_wp2_with fail
      ((with_reducible refine (qv _).mono ?_); rintro e V2 ⟨rfl, rfl⟩)
      go_wp2_with fail
      ((with_reducible refine (qf).mono ?_); rintro e V2 ⟨⟨i, th, hp, rfl⟩, b2⟩)
      have hb12 := bch b1 b2
      clear qv qf z0 z1 z2 b1 b2
      cases th with
      | false =>
        have HE : Hid (reportC c x b = (c, 70)) := by
          show _ = _
          rw [HGO2.out, if_pos (placeM_no HRC.out.2.2.2.1.1 hp)]
        clear hp
        have HB := Lib.hid (bch HBB.out hb12)
        have HZ := Lib.hid (Blk.below HZZ.out hb12)
        have HI : Hid (IsG s2 V2 A n c.mem ∧ IsG s3 V2 B m c.pl) := ⟨HII.out.1.below hb12, HII.out.2.below hb12⟩
        have HAP := HAPP
        have hx_ := Blk.below HXX.out hb12
        have z0 := Blk.cell hx_ 0
        have z1 := Blk.cell hx_ 1
        have z2 := Blk.cell hx_ 2
        simp only [List.getElem?_toArray, List.getElem?_cons_zero, List.getElem?_cons_succ] at z0 z1 z2
        clear hx_
        have x0 := Blk.cell HZ.out 0
        have x1 := Blk.cell HZ.out 1
        have x2 := Blk.cell HZ.out 2
        simp only [List.getElem?_toArray, List.getElem?_cons_zero, List.getElem?_cons_succ] at x0 x1 x2
        have f0 := Blk.frozen HZ.out 0
        have f1 := Blk.frozen HZ.out 1
        have f2 := Blk.frozen HZ.out 2
        have hz3 := Blk.set (Blk.set (Blk.set HZ.out 0 (.int .i64 c.level) #[.int .i64 c.level, .slice none 0 0, .slice none 0 0] rfl) 1 (.slice A n cap) #[.int .i64 c.level, .slice A n cap, .slice none 0 0] rfl) 2 (.slice B m cm) #[.int .i64 c.level, .slice A n cap, .slice B m cm] rfl
        have hb3 := ((HB.out.setCell (p := ⟨w.heap.size + 1, 0, none⟩) (Nat.le_succ _) (.int .i64 c.level)).setCell (p := ⟨w.heap.size + 1, 1, none⟩) (Nat.le_succ _) (.slice A n cap)).setCell (p := ⟨w.heap.size + 1, 2, none⟩) (Nat.le_succ _) (.slice B m cm)
        have hi3 := ((HI.out.1.far (j := 0) (u := .int .i64 c.level) HAP.out.1).far (j := 1) (u := .slice A n cap) HAP.out.1).far (j := 2) (u := .slice B m cm) HAP.out.1
        have hj3 := ((HI.out.2.far (j := 0) (u := .int .i64 c.level) HAP.out.2).far (j := 1) (u := .slice A n cap) HAP.out.2).far (j := 2) (u := .slice B m cm) HAP.out.2
        have HZ3 := Lib.hid hz3; clear hz3
        have HB3 := Lib.hid hb3; clear hb3
        have HI3 := Lib.hid hi3; clear hi3
        have HJ3 := Lib.hid hj3; clear hj3
        clear HZ HB HI HAP
        go_wp2_with fail
        have e0 := Blk.cell HZ3.out 0
        have e1 := Blk.cell HZ3.out 1
        have e2 := Blk.cell HZ3.out 2
        simp only [List.getElem?_toArray, List.getElem?_cons_zero, List.getElem?_cons_succ] at e0 e1 e2
        refine bodyPost_ret (v := .tuple #[.agg #[.int .i64 c.level, .slice A n cap, .slice B m cm], .int .i64 70]) (by simp [results, Try.results24, go_sem, e0, e1, e2]) rfl ?_
        rw [HE.out]
        exact ⟨_, _, _, _, _, _, rfl, HC.out.1, HC.out.2, ⟨HI3.out, HJ3.out⟩, HB3.out⟩
      | true =>
        obtain ⟨hil, hix, him, hmem⟩ := placeM_yes hp
        have hx_ := Blk.below HXX.out hb12
        have z0 := Blk.cell hx_ 0
        have z1 := Blk.cell hx_ 1
        have z2 := Blk.cell hx_ 2
        simp only [List.getElem?_toArray, List.getElem?_cons_zero, List.getElem?_cons_succ] at z0 z1 z2
        clear hx_ hp
        by_cases hlv : b < c.level
        · have HE : Hid (reportC c x b = (c, 22)) := by
            show _ = _
            rw [HGO2.out, if_neg (fun e => e hmem), if_pos]
            rw [Bool.eq_false_iff]
            intro e
            have h1 := binB_iff.1 e
            have h2 := HRC.out.1
            have h3 := HB12.out
            omega
          have e1 : decide (b < c.level) = true := decide_eq_true hlv
          clear hil hix him hmem
          go_upto_region 7 with fail
          clear hlv e1
          have HB := Lib.hid (bch HBB.out hb12)
          have HZ := Lib.hid (Blk.below HZZ.out hb12)
          have HI : Hid (IsG s2 V2 A n c.mem ∧ IsG s3 V2 B m c.pl) := ⟨HII.out.1.below hb12, HII.out.2.below hb12⟩
          have HAP := HAPP
          have hx_ := Blk.below HXX.out hb12
          have z0 := Blk.cell hx_ 0
          have z1 := Blk.cell hx_ 1
          have z2 := Blk.cell hx_ 2
          simp only [List.getElem?_toArray, List.getElem?_cons_zero, List.getElem?_cons_succ] at z0 z1 z2
          clear hx_
          have x0 := Blk.cell HZ.out 0
          have x1 := Blk.cell HZ.out 1
          have x2 := Blk.cell HZ.out 2
          simp only [List.getElem?_toArray, List.getElem?_cons_zero, List.getElem?_cons_succ] at x0 x1 x2
          have f0 := Blk.frozen HZ.out 0
          have f1 := Blk.frozen HZ.out 1
          have f2 := Blk.frozen HZ.out 2
          have hz3 := Blk.set (Blk.set (Blk.set HZ.out 0 (.int .i64 c.level) #[.int .i64 c.level, .slice none 0 0, .slice none 0 0] rfl) 1 (.slice A n cap) #[.int .i64 c.level, .slice A n cap, .slice none 0 0] rfl) 2 (.slice B m cm) #[.int .i64 c.level, .slice A n cap, .slice B m cm] rfl
          have hb3 := ((HB.out.setCell (p := ⟨w.heap.size + 1, 0, none⟩) (Nat.le_succ _) (.int .i64 c.level)).setCell (p := ⟨w.heap.size + 1, 1, none⟩) (Nat.le_succ _) (.slice A n cap)).setCell (p := ⟨w.heap.size + 1, 2, none⟩) (Nat.le_succ _) (.slice B m cm)
          have hi3 := ((HI.out.1.far (j := 0) (u := .int .i64 c.level) HAP.out.1).far (j := 1) (u := .slice A n cap) HAP.out.1).far (j := 2) (u := .slice B m cm) HAP.out.1
          have hj3 := ((HI.out.2.far (j := 0) (u := .int .i64 c.level) HAP.out.2).far (j := 1) (u := .slice A n cap) HAP.out.2).far (j := 2) (u := .slice B m cm) HAP.out.2
          have HZ3 := Lib.hid hz3; clear hz3
          have HB3 := Lib.hid hb3; clear hb3
          have HI3 := Lib.hid hi3; clear hi3
          have HJ3 := Lib.hid hj3; clear hj3
          clear HZ HB HI HAP
          go_wp2_with fail
          have e0 := Blk.cell HZ3.out 0
          have e1 := Blk.cell HZ3.out 1
          have e2 := Blk.cell HZ3.out 2
          simp only [List.getElem?_toArray, List.getElem?_cons_zero, List.getElem?_cons_succ] at e0 e1 e2
          refine bodyPost_ret (v := .tuple #[.agg #[.int .i64 c.level, .slice A n cap, .slice B m cm], .int .i64 22]) (by simp [results, Try.results24, go_sem, e0, e1, e2]) rfl ?_
          rw [HE.out]
          exact ⟨_, _, _, _, _, _, rfl, HC.out.1, HC.out.2, ⟨HI3.out, HJ3.out⟩, HB3.out⟩
        · have e1 : decide (b < c.level) = false := decide_eq_false hlv
          have HE : Hid (reportC c x b = (⟨c.level, c.mem.set i (x, b), c.pl⟩, 0)) := by
            show _ = _
            rw [HGO2.out, if_neg (fun e => e hmem), if_neg, him, Int.toNat_natCast]
            rw [binB_iff.2 (by have h2 := HRC.out.1; have h3 := HB12.out; omega)]; simp
          have HIL := Lib.hid hil
          have HIX := Lib.hid hix
          clear hil hix him hmem HGO2
          go_upto_region 8 with fail
          clear hlv e1 z0 z1 z2
          have hx_ := Blk.below HXX.out hb12
          have z0 := Blk.cell hx_ 0
          have z1 := Blk.cell hx_ 1
          have z2 := Blk.cell hx_ 2
          simp only [List.getElem?_toArray, List.getElem?_cons_zero, List.getElem?_cons_succ] at z0 z1 z2
          have qo := owned9_any c A B n cap m cm V2 (IsCt.below HII.out hb12) HARG.out.2.2.2.1 HARG.out.2.2.2.2
          have hg_ : w.heap.size < V2.heap.size := Nat.lt_of_lt_of_le (Blk.lt HXX.out) (hb12).size
          have hg2_ : w.heap.size + 1 < V2.heap.size := Nat.lt_of_lt_of_le (Blk.lt HZZ.out) (hb12).size
          have HG_ := Lib.hid hg_; clear hg_
          have HG2_ := Lib.hid hg2_; clear hg2_
          go_wp2_with fail
          ((with_reducible refine qo.mono ?_); rintro e X1 ⟨Am, capm, Bp, capp, rfl, hrm, hrp, hne, b9⟩)
          clear qo z0 z1 z2
          have hx9 := Blk.below hx_ b9
          have z0 := Blk.cell hx9 0
          have z1 := Blk.cell hx9 1
          have z2 := Blk.cell hx9 2
          simp only [List.getElem?_toArray, List.getElem?_cons_zero, List.getElem?_cons_succ] at z0 z1 z2
          have f0 := Blk.frozen hx9 0
          have f1 := Blk.frozen hx9 1
          have f2 := Blk.frozen hx9 2
          go_upto_region 9 with fail
          have hx2 := Blk.set (Blk.set (Blk.set hx9 0 (.int .i64 c.level) #[.int .i64 c.level, .slice A n cap, .slice B m cm] rfl) 1 (.slice Am c.mem.length capm) #[.int .i64 c.level, .slice Am c.mem.length capm, .slice B m cm] rfl) 2 (.slice Bp c.pl.length capp) #[.int .i64 c.level, .slice Am c.mem.length capm, .slice Bp c.pl.length capp] rfl
          have hz2 := Blk.far (Blk.far (Blk.far (Blk.below (Blk.below HZZ.out hb12) b9) (show w.heap.size + 1 ≠ w.heap.size by omega) 0 (.int .i64 c.level)) (show w.heap.size + 1 ≠ w.heap.size by omega) 1 (.slice Am c.mem.length capm)) (show w.heap.size + 1 ≠ w.heap.size by omega) 2 (.slice Bp c.pl.length capp)
          have hb2 := (((bch HBB.out (bch hb12 b9)).setCell (p := ⟨w.heap.size, 0, none⟩) (Nat.le_refl _) (.int .i64 c.level)).setCell (p := ⟨w.heap.size, 1, none⟩) (Nat.le_refl _) (.slice Am c.mem.length capm)).setCell (p := ⟨w.heap.size, 2, none⟩) (Nat.le_refl _) (.slice Bp c.pl.length capp)
          have hp2 := ((hrm.farB (j := 0) HG_.out (.int .i64 c.level)).farB (j := 1) HG_.out (.slice Am c.mem.length capm)).farB (j := 2) HG_.out (.slice Bp c.pl.length capp)
          have hq2 := ((hrp.farB (j := 0) HG_.out (.int .i64 c.level)).farB (j := 1) HG_.out (.slice Am c.mem.length capm)).farB (j := 2) HG_.out (.slice Bp c.pl.length capp)
          have hvx2 : V2.heap.size ≤ (((X1.setCell ⟨w.heap.size, 0, none⟩ (.int .i64 c.level)).setCell ⟨w.heap.size, 1, none⟩ (.slice Am c.mem.length capm)).setCell ⟨w.heap.size, 2, none⟩ (.slice Bp c.pl.length capp)).heap.size := by simpa using b9.size
          obtain ⟨X2, hX2⟩ : ∃ X, ((X1.setCell ⟨w.heap.size, 0, none⟩ (.int .i64 c.level)).setCell ⟨w.heap.size, 1, none⟩ (.slice Am c.mem.length capm)).setCell ⟨w.heap.size, 2, none⟩ (.slice Bp c.pl.length capp) = X := ⟨_, rfl⟩
          rw [hX2] at hx2 hz2 hb2 hp2 hq2 hvx2 ⊢
          clear hX2 z0 z1 z2 f0 f1 f2 hx_ hx9 hrm hrp b9
          have HB9V : Hid (V2.heap.size ≤ X2.heap.size) := hvx2; clear hvx2
          have HX2 := Lib.hid hx2; clear hx2
          have HZ2 := Lib.hid hz2; clear hz2
          have HB2 := Lib.hid hb2; clear hb2
          have HP2 := Lib.hid hp2; clear hp2
          have HQ2 := Lib.hid hq2; clear hq2
          have HNE := Lib.hid hne; clear hne
          obtain ⟨gm, cp, hv, hge, hlt, hcp⟩ := HP2.out.own (by have := HIL.out; omega)
          obtain ⟨rfl, _, rfl⟩ := slice_eqG hv
          clear hv
          have g1 := Blk.cell HX2.out 1
          simp only [List.getElem?_toArray, List.getElem?_cons_zero, List.getElem?_cons_succ] at g1
          have hat := atM9_get HIL.out
          have c1 : X2.cell? ⟨gm, i * 2 + 1, none⟩ = some (.int .i64 (atM9 c.mem i).2) := HP2.out.cell (j := 1) hat rfl
          have fz := HP2.out.frozen (i * 2 + 1)
          have hi0 : (0 : Int) ≤ (i : Int) := by omega
          have hin : (i : Int) < (c.mem.length : Int) := by have := HIL.out; omega
          have hcl : c.mem.length ≤ 8 := HRC.out.2.1.2
          go_upto_region 10 with fail
          have hp3 := (HP2.out.set (i := i) (j := 1) (u := .int .i64 b) (y := (x, b)) hat (by decide) (by rw [← HIX.out]; rfl)).1
          have hq3 := HQ2.out.far (g := gm) (j := i * 2 + 1) (HNE.out gm rfl) (.int .i64 b)
          have hx3 := Blk.far HX2.out (show w.heap.size ≠ gm by have := HG_.out; omega) (i * 2 + 1) (.int .i64 b)
          have hz3 := Blk.far HZ2.out (show w.heap.size + 1 ≠ gm by have := HG2_.out; omega) (i * 2 + 1) (.int .i64 b)
          have hb3 := HB2.out.setCell (p := ⟨gm, i * 2 + 1, none⟩) (show w.heap.size ≤ gm by have := HG_.out; omega) (.int .i64 b)
          change RowG s2 _ (X2.setCell ⟨gm, i * 2 + 1, none⟩ (.int .i64 b)) _ _ _ at hp3
          obtain ⟨X3, hX3⟩ : ∃ X, X2.setCell ⟨gm, i * 2 + 1, none⟩ (.int .i64 b) = X := ⟨_, rfl⟩
          rw [hX3] at hx3 hz3 hb3 hp3 hq3 ⊢
          clear hX3 g1 c1 fz hat HX2 HZ2 HB2 HP2 HQ2
          have HZ := Lib.hid hz3
          have HB := Lib.hid hb3
          obtain ⟨_, _, hv1, hc1, hi1⟩ := hp3.parts
          obtain ⟨_, _, hv2, hc2, hi2⟩ := hq3.parts
          obtain ⟨rfl, hl1, rfl⟩ := slice_eqG hv1
          obtain ⟨rfl, hl2, rfl⟩ := slice_eqG hv2
          have HI : Hid (IsG s2 X3 (some ⟨gm, 0, none⟩) c.mem.length (c.mem.set i (x, b)) ∧ IsG s3 X3 Bp c.pl.length c.pl) := ⟨by rw [hl1]; exact hi1, by rw [hl2]; exact hi2⟩
          clear HC
          have HC : Hid (c.mem.length ≤ capm ∧ c.pl.length ≤ capp) := ⟨by rw [hl1]; exact hc1, by rw [hl2]; exact hc2⟩
          have HAP : Hid (ApartN (w.heap.size + 1) (some ⟨gm, 0, none⟩) c.mem.length ∧ ApartN (w.heap.size + 1) Bp c.pl.length) := ⟨fun _ b off e => by have := (hp3.lt b (by rw [e]; rfl)).1; have := HG2_.out; omega, fun _ b off e => by have := (hq3.lt b (by rw [e]; rfl)).1; have := HG2_.out; omega⟩
          clear hv1 hc1 hi1 hl1 hv2 hc2 hi2 hl2
          have hx_ := hx3
          have z0 := Blk.cell hx_ 0
          have z1 := Blk.cell hx_ 1
          have z2 := Blk.cell hx_ 2
          simp only [List.getElem?_toArray, List.getElem?_cons_zero, List.getElem?_cons_succ] at z0 z1 z2
          clear hx_
          have x0 := Blk.cell HZ.out 0
          have x1 := Blk.cell HZ.out 1
          have x2 := Blk.cell HZ.out 2
          simp only [List.getElem?_toArray, List.getElem?_cons_zero, List.getElem?_cons_succ] at x0 x1 x2
          have f0 := Blk.frozen HZ.out 0
          have f1 := Blk.frozen HZ.out 1
          have f2 := Blk.frozen HZ.out 2
          have hz3 := Blk.set (Blk.set (Blk.set HZ.out 0 (.int .i64 c.level) #[.int .i64 c.level, .slice none 0 0, .slice none 0 0] rfl) 1 (.slice (some ⟨gm, 0, none⟩) c.mem.length capm) #[.int .i64 c.level, .slice (some ⟨gm, 0, none⟩) c.mem.length capm, .slice none 0 0] rfl) 2 (.slice Bp c.pl.length capp) #[.int .i64 c.level, .slice (some ⟨gm, 0, none⟩) c.mem.length capm, .slice Bp c.pl.length capp] rfl
          have hb3 := ((HB.out.setCell (p := ⟨w.heap.size + 1, 0, none⟩) (Nat.le_succ _) (.int .i64 c.level)).setCell (p := ⟨w.heap.size + 1, 1, none⟩) (Nat.le_succ _) (.slice (some ⟨gm, 0, none⟩) c.mem.length capm)).setCell (p := ⟨w.heap.size + 1, 2, none⟩) (Nat.le_succ _) (.slice Bp c.pl.length capp)
          have hi3 := ((HI.out.1.far (j := 0) (u := .int .i64 c.level) HAP.out.1).far (j := 1) (u := .slice (some ⟨gm, 0, none⟩) c.mem.length capm) HAP.out.1).far (j := 2) (u := .slice Bp c.pl.length capp) HAP.out.1
          have hj3 := ((HI.out.2.far (j := 0) (u := .int .i64 c.level) HAP.out.2).far (j := 1) (u := .slice (some ⟨gm, 0, none⟩) c.mem.length capm) HAP.out.2).far (j := 2) (u := .slice Bp c.pl.length capp) HAP.out.2
          have HZ3 := Lib.hid hz3; clear hz3
          have HB3 := Lib.hid hb3; clear hb3
          have HI3 := Lib.hid hi3; clear hi3
          have HJ3 := Lib.hid hj3; clear hj3
          clear HZ HB HI HAP
          go_wp2_with fail
          have e0 := Blk.cell HZ3.out 0
          have e1 := Blk.cell HZ3.out 1
          have e2 := Blk.cell HZ3.out 2
          simp only [List.getElem?_toArray, List.getElem?_cons_zero, List.getElem?_cons_succ] at e0 e1 e2
          refine bodyPost_ret (v := .tuple #[.agg #[.int .i64 c.level, .slice (some ⟨gm, 0, none⟩) c.mem.length capm, .slice Bp c.pl.length capp], .int .i64 0]) (by simp [results, Try.results24, go_sem, e0, e1, e2]) rfl ?_
          rw [HE.out]
          exact ⟨_, _, _, _, _, _, rfl, HC.out.1, HC.out.2, ⟨HI3.out, HJ3.out⟩, HB3.out⟩
end Go.Proofs.Ytndkmepdnekigaa
