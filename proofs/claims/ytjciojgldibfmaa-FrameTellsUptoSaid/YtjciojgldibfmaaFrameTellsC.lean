import Derived.Test.YtjciojgldibfmaaFrSlice
import Derived.RegionTactic
import Derived.BigRegion
import Derived.BigQuiet
import Derived.IntWalk
import Derived.Deep.RegionHeld3
import Derived.Deep.DeepCutAuto
/-
  The walk of the law FrameTells, over what is asked of the program's Encode, Scan and Right (for texts of at most 2^20 bytes).
-/
namespace Go.Proofs.Ytjciojgldibfmaa
open Go.RowKit
set_option linter.unusedVariables false
set_option linter.unusedSimpArgs false

/-- A row of texts that are not too long. -/
def RowU (W : World) (B n : Nat) : Prop := B < W.heap.size ∧ ∀ j, j < n → ∃ X, W.cell? ⟨B, j, none⟩ = some (.string X) ∧ X.size ≤ 4194304
theorem RowU.below {W W' : World} {B n : Nat} (h : RowU W B n) (hb : Below W.heap.size W W') : RowU W' B n :=
  ⟨Nat.lt_of_lt_of_le h.1 hb.size, fun j hj => by
    obtain ⟨X, h1, h2⟩ := h.2 j hj
    exact ⟨X, (hb.cell (p := ⟨B, j, none⟩) h.1).trans h1, h2⟩⟩
/-- The versions that the law ranges over. -/
def vsT (v : Int) (i : Nat) : Int := if i = 0 then v else (i : Int)
/-- What stands through the walk: the frame's block, the versions' row, and all that was there. -/
def InvT (w : World) (F : Frm) (B1 : Nat) (v : Int) (W : World) : Prop :=
  Below w.heap.size w W ∧ FrBlk W w.heap.size F ∧ B1 < W.heap.size ∧ ∀ i, i < 3 → W.cell? ⟨B1, i, none⟩ = some (.int .i64 (vsT v i))
theorem InvT.below {w W W' : World} {F : Frm} {B1 : Nat} {v : Int} (h : InvT w F B1 v W) (b : Below W.heap.size W W') : InvT w F B1 v W' :=
  ⟨bch h.1 b, h.2.1.below b, Nat.lt_of_lt_of_le h.2.2.1 b.size, fun i hi => (b.cell (p := ⟨B1, i, none⟩) h.2.2.1).trans (h.2.2.2 i hi)⟩
theorem encA_le {v : Int} {f : Frm} (h : f.data.size ≤ 1048576) : (encA v f).length ≤ 4015 := by
  unfold encA
  by_cases hk : okF v f = true
  · have ho := okF_iff.1 hk
    have := head_le hk
    rw [if_pos hk, enc_len]; omega
  · rw [if_neg hk]; simp
theorem refencode_ok {v : Int} {f : Frm} (hf : okF v f = true) {S : ByteArray} (hS : bs (encF v f) = S) (w : World) :
    Calls Try.prog 13 #[.int .i64 v, .agg #[.int .i64 f.kind, .int .i64 f.flags, .string f.data]] w fun e w' => e = .returned (.tuple #[.string S, .int .i64 0]) ∧ Below w.heap.size w w' := by
  have h1 := refencode_any v f w
  have e1 : encA v f = encF v f := by unfold encA; rw [if_pos hf]
  have e2 : encE v f = 0 := by unfold encE; rw [if_pos hf]
  rwa [e1, e2, hS] at h1

set_option maxRecDepth 100000 in
set_option maxHeartbeats 8000000 in
theorem frameTells_core (hE : EncC) (hS : ScanC) (hR : RightC) (F : Frm) (v : Int) (A : Option Addr) (n cap : Nat) (f : Nat → Nat → Int) (B : Option Addr) (m cap2 : Nat) (g : Nat → ByteArray) (s0 : ByteArray) (at0 : Int) (more : ByteArray) (w : World) (hF : F.data.size ≤ 1048576) (hv : (Lit.int .i64 v).wf = true) (hra : IsRaw w A n 3 f) (hst : IsStrs w B m g) (hs0 : s0.size ≤ 1048576) (hat0 : (Lit.int .i64 at0).wf = true) (hmo : more.size ≤ 1048576) :
    Calls Try.prog 3 #[.agg #[.int .i64 F.kind, .int .i64 F.flags, .string F.data], .int .i64 v, .slice A n cap, .slice B m cap2, .string s0, .int .i64 at0, .string more] w fun e w' => e = .returned (.bool true) ∧ Below w.heap.size w w' := by
  have hfb := FrBlk.new w F
  have hb0 : Below w.heap.size w (w.alloc (.cells #[.int .i64 F.kind, .int .i64 F.flags, .string F.data] 23)) := (Below.refl _ _).alloc (Nat.le_refl _) _
  have HE := Lib.hid hE; clear hE
  have HS := Lib.hid hS; clear hS
  have HR := Lib.hid hR; clear hR
  have HMO := Lib.hid hmo; clear hmo
  have HS0 := Lib.hid hs0; clear hs0
  have HF := Lib.hid hF; clear hF
  have HRA := Lib.hid hra; clear hra
  have HST := Lib.hid hst; clear hst
  have HFB := Lib.hid hfb; clear hfb
  have HB0 := Lib.hid hb0; clear hb0
  go_enter Try.func3, Try.ntmps3
  go_wp2_with fail
  ((with_reducible refine (awake6_any HE.out HS.out HR.out _).mono ?_); rintro e W1 ⟨rfl, b1⟩)
  have hinv0 : InvT w F W1.heap.size v (W1.alloc (.cells #[.int .i64 v, .int .i64 1, .int .i64 2] 3)) := by
    have hx := World.alloc_heap_new W1 (.cells #[.int .i64 v, .int .i64 1, .int .i64 2] 3)
    refine ⟨(bch HB0.out b1).alloc (bch HB0.out b1).size _, (HFB.out.below b1).below ((Below.refl _ _).alloc (Nat.le_refl _) _), by simp, fun i hi => ?_⟩
    rcases (by omega : i = 0 ∨ i = 1 ∨ i = 2) with rfl | rfl | rfl
    · exact cell_blk hx 0
    · exact cell_blk hx 1
    · exact cell_blk hx 2
  have HI0 := Lib.hid hinv0; clear hinv0 b1 HFB HB0
  go_wp2_with fail
  go_loopw [40] (fun i wy => ∃ (j : Nat) (wq : World), wq = wy ∧ j ≤ 3 ∧ i = .int .i64 j ∧ InvT w F W1.heap.size v wq) (fun i _ => 3 - (intOf i).toNat)
  case atStart => exact ⟨0, _, rfl, by omega, rfl, HI0.out⟩
  case round =>
    clear HI0
    obtain ⟨j, wq, rfl, hj, rfl, hinv⟩ := hrel
    generalize W1.heap.size = B1 at *
    by_cases hj3 : j < 3
    · have hc := hinv.2.2.2 j hj3
      have hxw : (Lit.int .i64 (vsT v j)).wf = true := by
        unfold vsT
        split
        · exact hv
        · rcases (by omega : j = 1 ∨ j = 2) with rfl | rfl <;> decide
      generalize vsT v j = x at hc hxw
      have hj0 : (0 : Int) ≤ (j : Int) := by omega
      have hj1 : (j : Int) < (3 : Int) := by omega
      obtain ⟨c0, c1, c2⟩ := hinv.2.1.cells
      have p1 := fun W => HE.out x F (by have := HF.out; omega) W
      have p2 := fun W => refencode_any x F W
      have p3 := fun W => HR.out x F (by have := HF.out; omega) W
      have p4 := fun W => refright_any x F W
      have htl := encA_le (v := x) HF.out
      obtain ⟨T0, eT0⟩ : ∃ T, bs (encA x F) = T := ⟨_, rfl⟩
      have zT0 : T0.size ≤ 4015 := by rw [← eT0, bs_size]; exact htl
      obtain ⟨E0, eE0⟩ : ∃ E, encE x F = E := ⟨_, rfl⟩
      obtain ⟨ok, eok⟩ : ∃ b, okF x F = b := ⟨_, rfl⟩
      rw [eT0, eE0] at p1 p2
      rw [eok] at p3 p4
      have hTT : (T0.toList == T0.toList) = true := by simp
      have HINV := Lib.hid hinv; clear hinv
      clear eT0 eE0 eok htl
      go_wp2_with fail
      ((with_reducible refine (p1 _).mono ?_); rintro e W2 ⟨rfl, b2⟩)
      have hi2 := HINV.out.below b2
      clear c0 c1 c2 b2 HINV p1 hc
      obtain ⟨c0, c1, c2⟩ := hi2.2.1.cells
      have HINV := Lib.hid hi2; clear hi2
      go_wp2_with fail
      ((with_reducible refine (p2 _).mono ?_); rintro e W3 ⟨rfl, b3⟩)
      have hi3 := HINV.out.below b3
      clear c0 c1 c2 b3 HINV p2
      have hs3 : ∀ W, W = W3.drew → (W.cell? ⟨w.heap.size, 0, none⟩ = some (.int .i64 F.kind) ∧ W.cell? ⟨w.heap.size, 1, none⟩ = some (.int .i64 F.flags) ∧ W.cell? ⟨w.heap.size, 2, none⟩ = some (.string F.data) ∧ Below W3.heap.size W3 W) := by
        rintro W rfl
        obtain ⟨c0, c1, c2⟩ := hi3.2.1.cells
        exact ⟨c0, c1, c2, (Below.refl _ _).drew⟩
      have HS3 := Lib.hid hs3; clear hs3
      have HINV := Lib.hid hi3; clear hi3
      go_upto_region 7 with fail
      go_region_held3 (fun W => W.cell? ⟨w.heap.size, 0, none⟩ = some (.int .i64 F.kind) ∧ W.cell? ⟨w.heap.size, 1, none⟩ = some (.int .i64 F.flags) ∧ W.cell? ⟨w.heap.size, 2, none⟩ = some (.string F.data) ∧ Below W3.heap.size W3 W) (first | exact HS3.out _ rfl | exact fr_keep (by assumption) (by assumption)) (first | ((with_reducible refine (p3 _).mono ?_); rintro e w' ⟨rfl, bq⟩) | ((with_reducible refine (p4 _).mono ?_); rintro e w' ⟨rfl, bq⟩))
      rename_i hH
      obtain ⟨w4, hw4⟩ : ∃ W, W = w' := ⟨_, rfl⟩
      subst hw4
      have hi4 := HINV.out.below hH.2.2.2
      clear HINV HS3 p3 p4 hH
      have HI4 := Lib.hid hi4; clear hi4
      have q1 := pickF_nat x 2 (by omega) (by omega) hxw
      have k1 := pickN_lt x 2 (by omega)
      generalize pickN x 2 = pq at q1 k1
      obtain ⟨u, hu⟩ : ∃ u : Int, 1 + (pq : Int) = u := ⟨_, rfl⟩
      have hu12 : u = 1 ∨ u = 2 := by omega
      have hu1 : 1 ≤ u := by omega
      have hu2 : u ≤ 2 := by omega
      have HU := Lib.hid hu12; clear hu12
      have p5 := frames_any u HU.out A n cap f B m cap2 g w4 (HRA.out.below HI4.out.1) (HST.out.below HI4.out.1)
      go_wp2_with fail
      ((with_reducible refine (q1 _).mono ?_); rintro e V1 ⟨rfl, rfl⟩)
      go_wp2_with fail
      ((with_reducible refine p5.mono ?_); rintro e W5 ⟨A1, n1, cap1, fs, rfl, hc1, hc2, hfr, hni, b5⟩)
      have hi5 := HI4.out.below b5
      have hn12 : n1 ≤ 12 := by have := hfr.1; have := hni.1; omega
      have HFR := Lib.hid hfr; clear hfr
      have HNI := Lib.hid hni; clear hni
      have HI5 := Lib.hid hi5; clear hi5 b5 p5 HI4
      go_wp2_with fail
      go_loopw [22, 81] (fun t i wy => ∃ (k : Nat) (wr : World), wr = wy ∧ k ≤ n1 ∧ i = .int .i64 k ∧ t = .string (T0 ++ bs (encFs u (fs.take k))) ∧ Below W5.heap.size W5 wr) (fun _ i _ => n1 - (intOf i).toNat)
      case atStart => exact ⟨0, _, rfl, by omega, rfl, by show _ = Value.string (T0 ++ bs []); rw [show T0 ++ bs [] = T0 from by rw [bs_of T0, bs_append, List.append_nil]], Below.refl _ _⟩
      case round =>
        obtain ⟨k, wr, rfl, hk, rfl, rfl, hbr⟩ := hrel
        by_cases hlt : k < n1
        · obtain ⟨b, off, hA, hb, hat⟩ := HFR.out.2.2.2 (by omega)
          subst hA
          have hkl : k < fs.length := by have := HFR.out.1; omega
          obtain ⟨c0, c1, c2⟩ := hat k hkl
          have d0 := (hbr.cell (p := ⟨b, off + k * 3, none⟩) hb).trans c0
          have d1 := (hbr.cell (p := ⟨b, off + k * 3 + 1, none⟩) hb).trans c1
          have d2 := (hbr.cell (p := ⟨b, off + k * 3 + 2, none⟩) hb).trans c2
          clear hat c0 c1 c2
          have hf := HNI.out.2 fs[k] (List.getElem_mem _)
          rw [frm_at hkl] at hf
          have hst := encFs_take u fs k hkl
          rw [frm_at hkl] at hst
          have hle := encFs_take_le u fs (k + 1)
          have hlen := HNI.out.len
          clear hkl
          generalize kd fs k = x0 at *
          generalize fl fs k = x1 at *
          generalize da fs k = x2 at *
          obtain ⟨S, eS⟩ : ∃ S, bs (encF u ⟨x0, x1, x2⟩) = S := ⟨_, rfl⟩
          have r1 := fun W => refencode_ok hf.1 eS W
          try simp only at r1
          obtain ⟨P, hP⟩ : ∃ P, T0 ++ bs (encFs u (fs.take k)) = P := ⟨_, rfl⟩
          obtain ⟨P2, hP2⟩ : ∃ P, T0 ++ bs (encFs u (fs.take (k + 1))) = P := ⟨_, rfl⟩
          have hadd : ∀ W : World, (Op.stringOp .add P S).run Try.prog W = .ok (.string P2) W := fun W => by
            have hz : P2.size ≤ 8000 := by rw [← hP2, ByteArray.size_append, bs_size]; omega
            have e : P ++ S = P2 := by rw [← hP, ← hP2, ← eS, hst, bs_of T0, bs_append, bs_append, bs_append, List.append_assoc]
            rw [← e] at hz
            rw [ByteArray.size_append] at hz
            rw [str_add (by omega), e]
          rw [hP]
          have HP2 := Lib.hid hP2
          clear hP hP2 hst hle hlen eS hf
          have hk0 : (0 : Int) ≤ (k : Int) := by omega
          have hkn : (k : Int) < (n1 : Int) := by omega
          have hn1i : (n1 : Int) ≤ 12 := by omega
          have HBR := Lib.hid hbr; clear hbr
          go_upto_region 13 with fail
          have hnb := FrBlk.new wr ⟨x0, x1, x2⟩
          have hbb := HBR.out.alloc HBR.out.size (.cells #[.int .i64 x0, .int .i64 x1, .string x2] 23)
          simp only at hnb
          obtain ⟨W7, hW7⟩ : ∃ W, wr.alloc (.cells #[.int .i64 x0, .int .i64 x1, .string x2] 23) = W := ⟨_, rfl⟩
          rw [hW7] at hnb hbb
          rw [hW7]
          clear hW7 d0 d1 d2
          generalize wr.heap.size = bk at *
          have hs7 : ∀ W, W = W7.drew → (W.cell? ⟨bk, 0, none⟩ = some (.int .i64 x0) ∧ W.cell? ⟨bk, 1, none⟩ = some (.int .i64 x1) ∧ W.cell? ⟨bk, 2, none⟩ = some (.string x2) ∧ Below W5.heap.size W5 W) := by
            rintro W rfl
            obtain ⟨c0, c1, c2⟩ := hnb.cells
            exact ⟨c0, c1, c2, hbb.drew⟩
          have HS7 := Lib.hid hs7; clear hs7 hnb hbb HBR
          have hv1 : IntKind.i64.wrap (1 + (pq : Int)) = u := by rw [hu]; exact IntWalk.i64_in _ (by omega)
          have hv2 : IntKind.i64.wrap u = u := IntWalk.i64_in _ (by omega)
          go_region_held3 (fun W => W.cell? ⟨bk, 0, none⟩ = some (.int .i64 x0) ∧ W.cell? ⟨bk, 1, none⟩ = some (.int .i64 x1) ∧ W.cell? ⟨bk, 2, none⟩ = some (.string x2) ∧ Below W5.heap.size W5 W) (first | exact HS7.out _ rfl | assumption | exact fr_keep (by assumption) (by assumption)) (first | ((with_reducible refine (q1 _).mono ?_); rintro e w' ⟨rfl, rfl⟩) | ((with_reducible refine (r1 _).mono ?_); rintro e w' ⟨rfl, bq⟩))
          rename_i hH
          have HHB := Lib.hid hH.2.2.2
          clear hH HS7
          go_wp2_with fail
          go_roundw
          case rel => exact ⟨k + 1, _, rfl, by omega, by go_num, by rw [HP2.out], HHB.out⟩
          case measure => simp [intOf]; omega
        · have hkn : k = n1 := by omega
          have hte : fs.take k = fs := List.take_of_length_le (by have := HFR.out.1; omega)
          rw [hte]
          obtain ⟨T, hTe⟩ : ∃ T, T0 ++ bs (encFs u fs) = T := ⟨_, rfl⟩
          have hSl : T.size ≤ 8000 := by rw [← hTe, ByteArray.size_append, bs_size]; have := HNI.out.len; omega
          rw [hTe]
          have hi6 := HI5.out.below hbr
          have hkf : ((k : Int) < (n1 : Int)) = False := by simp; omega
          have HI6 := Lib.hid hi6; clear hi6 hbr HI5 HFR HNI hTe hte
          subst hkn
          have hq := pickF_nat at0 ((T.size : Int) + 1) (by omega) (by omega) hat0
          have kq := pickN_lt at0 ((T.size : Int) + 1) (by omega)
          generalize pickN at0 ((T.size : Int) + 1) = ka at hq kq
          have hkT : ka ≤ T.size := by omega
          have hmo := HMO.out
          have hs0 := HS0.out
          go_wp2_with fail
          ((with_reducible refine (hq _).mono ?_); rintro e V1 ⟨rfl, rfl⟩)
          clear hq q1
          go_wp2_with fail
          obtain ⟨P, hP⟩ : ∃ P, T.extract 0 ka = P := ⟨_, rfl⟩
          obtain ⟨U, hU⟩ : ∃ U, T.extract ka T.size = U := ⟨_, rfl⟩
          obtain ⟨mm, hmm, mm1⟩ : ∃ mm : Nat, (if (T.size : Int) < (ka : Int) + (more.size : Int) then (T.size : Int) else (ka : Int) + (more.size : Int)) = (mm : Int) ∧ mm ≤ T.size := by
            by_cases h9 : (T.size : Int) < (ka : Int) + (more.size : Int)
            · exact ⟨T.size, if_pos h9, Nat.le_refl _⟩
            · exact ⟨ka + more.size, by rw [if_neg h9]; omega, by omega⟩
          obtain ⟨R, hR⟩ : ∃ R, T.extract mm T.size = R := ⟨_, rfl⟩
          have zP : P.size ≤ 8000 := by rw [← hP, ByteArray.size_extract]; omega
          have zU : U.size ≤ 8000 := by rw [← hU, ByteArray.size_extract]; omega
          have zR : R.size ≤ 8000 := by rw [← hR, ByteArray.size_extract]; omega
          obtain ⟨Q, hQ⟩ : ∃ Q, P ++ more = Q := ⟨_, rfl⟩
          have zQ : Q.size ≤ 1060000 := by rw [← hQ, ByteArray.size_append]; omega
          have ha1 : ∀ W : World, (Op.stringOp .add P more).run Try.prog W = .ok (.string Q) W := fun W => by rw [← hQ]; exact str_add (by omega) W
          obtain ⟨Y, hY⟩ : ∃ Y, Q ++ R = Y := ⟨_, rfl⟩
          obtain ⟨Z, hZ⟩ : ∃ Z, Q ++ U = Z := ⟨_, rfl⟩
          have zY : Y.size ≤ 4194304 := by rw [← hY, ByteArray.size_append]; omega
          have zZ : Z.size ≤ 4194304 := by rw [← hZ, ByteArray.size_append]; omega
          have ha2 : ∀ W : World, (Op.stringOp .add Q R).run Try.prog W = .ok (.string Y) W := fun W => by rw [← hY]; exact str_add (by omega) W
          have ha3 : ∀ W : World, (Op.stringOp .add Q U).run Try.prog W = .ok (.string Z) W := fun W => by rw [← hZ]; exact str_add (by omega) W
          have hw1 : IntKind.i64.wrap ((ka : Int) + (more.size : Int)) = (ka : Int) + (more.size : Int) := IntWalk.i64_in _ (by omega)
          have hmin0 : (0 : Int) ≤ (mm : Int) := by omega
          have hmin1 : (mm : Int) ≤ (T.size : Int) := by omega
          have hrow : ∀ W : World, RowU (W.alloc (.cells #[.string s0, .string T, .string P, .string Y, .string Z] 9)) W.heap.size 5 := by
            intro W
            refine ⟨by simp, fun j hj => ?_⟩
            have hx := World.alloc_heap_new W (.cells #[.string s0, .string T, .string P, .string Y, .string Z] 9)
            rcases (by omega : j = 0 ∨ j = 1 ∨ j = 2 ∨ j = 3 ∨ j = 4) with rfl | rfl | rfl | rfl | rfl
            · exact ⟨s0, cell_blk hx 0, by omega⟩
            · exact ⟨T, cell_blk hx 1, by omega⟩
            · exact ⟨P, cell_blk hx 2, by omega⟩
            · exact ⟨Y, cell_blk hx 3, zY⟩
            · exact ⟨Z, cell_blk hx 4, zZ⟩
          have HROW := Lib.hid hrow; clear hrow
          clear hQ hY hZ zY zZ zP zU zR hs0 hmo kq
          go_region
          have hr2 : RowU (wr.alloc (.cells #[.string s0, .string T, .string P, .string Y, .string Z] 9)).drew wr.heap.size 5 := HROW.out wr
          have bb : InvT w F B1 v (wr.alloc (.cells #[.string s0, .string T, .string P, .string Y, .string Z] 9)).drew := HI6.out.below (((Below.refl _ _).alloc (Nat.le_refl _) _).drew)
          generalize (wr.alloc (.cells #[.string s0, .string T, .string P, .string Y, .string Z] 9)).drew = W8 at hr2 bb ⊢
          generalize wr.heap.size = B3 at *
          have HR2 := Lib.hid hr2; clear hr2
          have HBB := Lib.hid bb; clear bb
          clear hw1 ha1 ha2 ha3 hR hP hU zQ hmm mm1 hmin0 hmin1 HROW HI6
          go_wp2_with fail
          go_loopw [133] (fun i wy => ∃ (l : Nat) (wt : World), wt = wy ∧ l ≤ 5 ∧ i = .int .i64 l ∧ InvT w F B1 v wt ∧ RowU wt B3 5) (fun i _ => 5 - (intOf i).toNat)
          case atStart => exact ⟨0, _, rfl, by omega, rfl, HBB.out, HR2.out⟩
          case round =>
            obtain ⟨l, wt, rfl, hl, rfl, hbw, hrr⟩ := hrel
            clear HBB HR2
            by_cases hlt : l < 5
            · obtain ⟨X, cX, zX⟩ := hrr.2 l hlt
              have t3 := fun W => HS.out x X (by omega) W
              have t4 := fun W => refscan_any x X (by omega) W
              generalize scanV x X.data.toList = r at *
              obtain ⟨ls, nl, er⟩ := r
              have hs6 := sameR_self ls
              have hl0 : (0 : Int) ≤ (l : Int) := by omega
              have hl1 : (l : Int) < (5 : Int) := by omega
              have HS6 := Lib.hid hs6; clear hs6
              have HRR := Lib.hid hrr; clear hrr
              have HBW := Lib.hid hbw; clear hbw zX
              go_wp2_with fail
              ((with_reducible refine (t3 _).mono ?_); rintro e Wa ⟨Aa, na, capa, rfl, hca, hca2, hfa, ba⟩)
              have hia := HBW.out.below ba
              have hra := HRR.out.below ba
              have HFA := Lib.hid hfa; clear hfa
              have HIA := Lib.hid hia; clear hia
              have HRA2 := Lib.hid hra; clear hra
              clear ba t3 HBW HRR cX
              go_wp2_with fail
              ((with_reducible refine (t4 _).mono ?_); rintro e Wb ⟨Ab, nb, capb, rfl, hcb, hcb2, hfb, bb⟩)
              have p6 := same_fr Aa Ab na nb capa capb ls ls Wb (HFA.out.below bb) hfb
              rw [HS6.out] at p6
              have hib := HIA.out.below bb
              have hrb := HRA2.out.below bb
              have HIB := Lib.hid hib; clear hib
              have HRB := Lib.hid hrb; clear hrb
              clear bb t4 HIA HRA2 HFA hfb
              go_wp2_with fail
              ((with_reducible refine p6.mono ?_); rintro e Wc ⟨rfl, bc⟩)
              have hic := HIB.out.below bc
              have hrc := HRB.out.below bc
              have HIC := Lib.hid hic; clear hic
              have HRC := Lib.hid hrc; clear hrc
              clear bc p6 HIB HRB
              go_wp2_with fail
              go_roundw
              case rel => exact ⟨l + 1, _, rfl, by omega, by go_num, HIC.out, HRC.out⟩
              case measure => simp [intOf]; omega
            · have hl5 : l = 5 := by omega
              subst hl5
              have HBW := Lib.hid hbw; clear hbw hrr
              go_wp2_with fail
              go_roundw
              case rel => exact ⟨j + 1, _, rfl, by omega, by go_num, HBW.out⟩
              case measure => simp [intOf]; omega
    · have hj3' : j = 3 := by omega
      subst hj3'
      have hbw := hinv.1
      clear hinv
      go_wp2_with fail
      go_ret
      exact ⟨rfl, hbw⟩
end Go.Proofs.Ytjciojgldibfmaa
