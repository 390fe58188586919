import Derived.Test.YtjciojgldibfmaaFrSlice
import Derived.Test.YtjciojgldibfmaaRowB
import Derived.Deep.RegionLaw
import Derived.BigRegion
import Derived.Deep.DeepCutAuto
import Derived.BigQuiet
/-
  The walk of the law FrameWrong, over what is asked of the program's Encode, Scan and Right.
-/
namespace Go.Proofs.Ytjciojgldibfmaa
open Go.RowKit
set_option linter.unusedVariables false
set_option linter.unusedSimpArgs false

set_option maxRecDepth 100000 in
set_option maxHeartbeats 8000000 in
theorem frameWrong_core (hE : EncC) (hS : ScanC) (hR : RightC) (A : Option Addr) (n cap : Nat) (f : Nat → Nat → Int) (B : Option Addr) (m cap2 : Nat) (g : Nat → ByteArray) (a2 a3 a4 : Int) (w : World) (hra : IsRaw w A n 3 f) (hst : IsStrs w B m g) (w2 : (Lit.int .i64 a2).wf = true) (w3 : (Lit.int .i64 a3).wf = true) (w4 : (Lit.int .i64 a4).wf = true) :
    Calls Try.prog 6 #[.slice A n cap, .slice B m cap2, .int .i64 a2, .int .i64 a3, .int .i64 a4] w fun e w' => e = .returned (.bool true) ∧ Below w.heap.size w w' := by
  have HE := Lib.hid hE; clear hE
  have HS := Lib.hid hS; clear hS
  have HR := Lib.hid hR; clear hR
  go_enter Try.func6, Try.ntmps6
  go_wp2_with fail
  ((with_reducible refine (awake6_any HE.out HS.out HR.out _).mono ?_); rintro e W1 ⟨rfl, b1⟩)
  have hb := b1
  clear b1
  go_wp2_with fail
  go_loopw [12] (fun v wy => ∃ (j : Int) (wq : World), wq = wy ∧ (j = 1 ∨ j = 2 ∨ j = 3) ∧ v = .int .i64 j ∧ Below w.heap.size w wq) (fun v _ => 3 - (intOf v).toNat)
  case atStart => exact ⟨1, _, rfl, .inl rfl, rfl, hb⟩
  case round =>
    clear hb
    obtain ⟨j, wq, rfl, hj, rfl, hb⟩ := hrel
    rcases hj with rfl | rfl | rfl
    · have dummy := 0
      have p1 := frames_any 1 (by omega) A n cap f B m cap2 g wq (hra.below hb) (hst.below hb)
      go_wp2_with fail
      ((with_reducible refine p1.mono ?_); rintro e W2 ⟨A1, n1, cap1, fs, rfl, hc1, hc2, hfr, hni, b2⟩)
      clear p1
      replace hb := bch hb b2
      clear b2
      by_cases h0 : n1 = 0
      · subst h0
        clear hfr hni
        go_wp2_with fail
        go_roundw
        case rel => exact ⟨2, _, rfl, by omega, rfl, hb⟩
        case measure => simp [intOf]
      · have hn0 : ((n1 : Int) == 0) = false := by simp; omega
        have hn1l : n1 ≤ 12 := by have := hfr.1; have := hni.1; omega
        have q1 := pickF_nat a2 (n1 : Int) (by omega) (by omega) w2
        have k1 := pickN_lt a2 (n1 : Int) (by omega)
        generalize pickN a2 (n1 : Int) = i at q1 k1
        have hi : i < n1 := by omega
        have hil : i < fs.length := by have := hfr.1; omega
        obtain ⟨A3, hs3, hf3⟩ := fr_to hfr (k := i) (by omega) hc1
        obtain ⟨A4, hs4, hf4⟩ := fr_mid hfr (i := i) (j := i + 1) (by omega) (by omega) hc1
        obtain ⟨A5, hs5, hf5⟩ := fr_from hfr (k := i + 1) (by omega) hc1
        have hi1 : (i : Int) + 1 = ((i + 1 : Nat) : Int) := by omega
        have e1 : i + 1 - i = 1 := by omega
        rw [e1] at hf4
        rw [e1] at hs4
        have hs4' : ∀ W : World, (Instr.slice 32 (.slice A1 n1 cap1) (some (.int .i64 (i : Int))) (some (.int .i64 ((i : Int) + 1))) none).run Try.prog W = .ok (.slice A4 1 (cap1 - i)) W := fun W => by rw [hi1]; exact hs4 W
        have hs5' : ∀ W : World, (Instr.slice 32 (.slice A1 n1 cap1) (some (.int .i64 ((i : Int) + 1))) none none).run Try.prog W = .ok (.slice A5 (n1 - (i + 1)) (cap1 - (i + 1))) W := fun W => by rw [hi1]; exact hs5 W
        have hfi := hni.2 fs[i] (List.getElem_mem _)
        have hone : (fs.drop i).take 1 = [fs[i]] := by rw [List.drop_eq_getElem_cons hil]; rfl
        rw [hone] at hf4
        obtain ⟨fi, hfie⟩ : ∃ x, fs[i] = x := ⟨_, rfl⟩
        rw [hfie] at hf4 hfi
        have hok3 : ∀ x ∈ fs.take i, okF 1 x = true := fun x hx => hni.ok x (List.mem_of_mem_take hx)
        have hok5 : ∀ x ∈ fs.drop (i + 1), okF 1 x = true := fun x hx => hni.ok x (List.mem_of_mem_drop hx)
        have hlen := hni.len
        have hcut : encFs 1 fs = encFs 1 (fs.take i) ++ (encF 1 fi ++ encFs 1 (fs.drop (i + 1))) := by
          have h9 : fs = fs.take i ++ (fs[i] :: fs.drop (i + 1)) := by rw [← List.drop_eq_getElem_cons hil, List.take_append_drop]
          have h8 := congrArg (encFs 1) h9
          rw [encFs_append, encFs_cons, hfie] at h8
          exact h8
        rw [hcut, List.length_append, List.length_append] at hlen
        have hle := enc_len 1 fi
        obtain ⟨P, eP⟩ : ∃ S, bs (encFs 1 (fs.take i)) = S := ⟨_, rfl⟩
        obtain ⟨Q, eQ⟩ : ∃ S, bs (encF 1 fi) = S := ⟨_, rfl⟩
        obtain ⟨R, eR⟩ : ∃ S, bs (encFs 1 (fs.drop (i + 1))) = S := ⟨_, rfl⟩
        have hone2 : encFs 1 [fi] = encF 1 fi := by simp [encFs]
        have p3 := fun W hf => bytes6_any HE.out 1 A3 i cap1 (fs.take i) W hf hok3 (by omega)
        have p4 := fun W hf => bytes6_any HE.out 1 A4 1 (cap1 - i) [fi] W hf (by intro x hx; simp at hx; subst hx; exact hfi.1) (by rw [hone2]; omega)
        have p5 := fun W hf => bytes6_any HE.out 1 A5 (n1 - (i + 1)) (cap1 - (i + 1)) (fs.drop (i + 1)) W hf hok5 (by omega)
        rw [hone2, eQ] at p4
        rw [eP] at p3
        rw [eR] at p5
        have zQ : Q.size = (headF 1 fi).length + fi.data.size + 4 := by rw [← eQ, bs_size]; exact hle
        have zP : P.size = (encFs 1 (fs.take i)).length := by rw [← eP, bs_size]
        have zR : R.size = (encFs 1 (fs.drop (i + 1))).length := by rw [← eR, bs_size]
        have dP : P.data.toList = encFs 1 (fs.take i) := by rw [← eP, bs_data]
        have dQ : Q.data.toList = encF 1 fi := by rw [← eQ, bs_data]
        have dR : R.data.toList = encFs 1 (fs.drop (i + 1)) := by rw [← eR, bs_data]
        have hda : da fs i = fi.data := by
          have := frm_at hil
          rw [hfie] at this
          rw [this]
        obtain ⟨ds, hds⟩ : ∃ x, fi.data.size = x := ⟨_, rfl⟩
        have hds3 : ds ≤ 300 := by rw [← hds]; exact hfi.2
        obtain ⟨hh, hhe⟩ : ∃ x, (headF 1 fi).length = x := ⟨_, rfl⟩
        have hhl : hh ≤ 11 := by rw [← hhe]; exact head_le hfi.1
        rw [hds, hhe] at zQ
        have q2 := pickF_nat a3 ((ds : Int) + 4) (by omega) (by omega) w3
        have k2 := pickN_lt a3 ((ds : Int) + 4) (by omega)
        generalize pickN a3 ((ds : Int) + 4) = p at q2 k2
        have q3 := pickF_nat a4 255 (by omega) (by omega) w4
        have k3 := pickN_lt a4 255 (by omega)
        generalize pickN a4 255 = x at q3 k3
        have hx255 : x < 255 := by omega
        have hv1 : IntKind.i64.wrap (1 + (x : Int)) = 1 + (x : Int) := IntWalk.i64_in _ (by omega)
        have hv2 : IntKind.u8.wrap (1 + (x : Int)) = 1 + (x : Int) := by rw [IntKind.wrap_u8]; omega
        have hp4 : p < ds + 4 := by omega
        obtain ⟨pp, hpp⟩ : ∃ q, ds + 3 - p = q := ⟨_, rfl⟩
        obtain ⟨kk, hkk⟩ : ∃ q, hh + pp = q := ⟨_, rfl⟩
        have hkl : kk < (encF 1 fi).length := by rw [hle]; omega
        obtain ⟨c, hc⟩ : ∃ c, (encF 1 fi)[kk] = c := ⟨_, rfl⟩
        obtain ⟨b_, hb_⟩ : ∃ c2, c ^^^ UInt8.ofNat (1 + x) = c2 := ⟨_, rfl⟩
        have hxor : bits .xor .u8 ((c.toNat : Nat) : Int) (1 + (x : Int)) = ((b_.toNat : Nat) : Int) := by
          have h9 := u8_xor_nat c.toNat (1 + x) c.toNat_lt (by omega)
          rw [← hb_, UInt8.toNat_xor, toNat_ofNat_lt (by omega), ← h9]
          congr 1
        have hneb : (encF 1 fi)[hh + pp]? ≠ some b_ := by
          rw [hkk, List.getElem?_eq_getElem hkl, hc, ← hb_]
          intro e
          injection e with e
          have h9 := congrArg UInt8.toNat e
          rw [UInt8.toNat_xor, toNat_ofNat_lt (by omega)] at h9
          have h8 := congrArg (fun z => c.toNat ^^^ z) h9
          simp only [Nat.xor_self, xor_self_left] at h8
          omega
        have hscw := scan_wrong (fs.take i) fi hok3 hfi.1 (encFs 1 (fs.drop (i + 1))) pp b_ (by omega) (by rw [hhe]; exact hneb)
        rw [hhe, hkk] at hscw
        obtain ⟨Z, eZ⟩ : ∃ S, bs ((encF 1 fi).set kk b_) = S := ⟨_, rfl⟩
        have zZ : Z.size = Q.size := by rw [← eZ, bs_size, List.length_set, hle]; omega
        obtain ⟨PZ, ePZ⟩ : ∃ S, P ++ Z = S := ⟨_, rfl⟩
        have zPZ : PZ.size = P.size + Z.size := by rw [← ePZ]; exact ByteArray.size_append
        obtain ⟨X, eX⟩ : ∃ S, PZ ++ R = S := ⟨_, rfl⟩
        have zX : X.size = PZ.size + R.size := by rw [← eX]; exact ByteArray.size_append
        have ha1 : ∀ W : World, (Op.stringOp .add P Z).run Try.prog W = .ok (.string PZ) W := fun W => by rw [str_add (by omega), ePZ]
        have ha2 : ∀ W : World, (Op.stringOp .add PZ R).run Try.prog W = .ok (.string X) W := fun W => by rw [str_add (by omega), eX]
        have dX : X.data.toList = encFs 1 (fs.take i) ++ ((encF 1 fi).set kk b_ ++ encFs 1 (fs.drop (i + 1))) := by rw [← eX, add_data, ← ePZ, add_data, dP, dR, ← eZ, bs_data, List.append_assoc]
        have p6 := fun W => HS.out 1 X (by omega) W
        have hsc : scanV 1 X.data.toList = (fs.take i, (encFs 1 (fs.take i)).length, 11) := by unfold scanV; rw [if_pos (by omega), dX]; exact hscw
        rw [hsc, ← zP] at p6
        have hs6 := sameR_self (fs.take i)
        have htl : (fs.take i).length = i := by rw [List.length_take]; omega
        obtain ⟨b, off, hA1, hbb, hat⟩ := hfr.2.2.2 (by omega)
        subst hA1
        obtain ⟨_, _, d2⟩ := hat i hil
        rw [hda] at d2
        have htb := text_bytes Q
        have hQs : Q.size = (encF 1 fi).length := by rw [hle]; omega
        have hsub : (Q.size : Int) - 1 - (p : Int) = (kk : Int) := by omega
        have hge : (ds : Int) + 4 ≤ (Q.size : Int) := by omega
        have hkQ : (kk : Int) < (Q.size : Int) := by omega
        have hk1 : k1 = k1 := rfl
        have HDQ := Lib.hid dQ
        have HDS := Lib.hid hds
        have HQS := Lib.hid hQs
        have HKL := Lib.hid hkl
        have hc2 : (encF 1 fi)[kk]? = some c := by rw [List.getElem?_eq_getElem hkl, hc]
        have HC_ := Lib.hid hc2
        have HZ_ := Lib.hid eZ
        have HS6 := Lib.hid hs6
        have HTL := Lib.hid htl
        have HF3 := Lib.hid hf3
        have HF4 := Lib.hid hf4
        have HF5 := Lib.hid hf5
        have HHE := Lib.hid hhe
        have hQl : (Q.size : Int) ≤ 4000 := by omega
        have hdsl : (ds : Int) ≤ 300 := by omega
        have hil2 : (i : Int) < (n1 : Int) := by omega
        have hnil : (n1 : Int) ≤ 12 := by omega
        clear hi hil hs4 hs5 hi1 e1 hfi hone hok3 hok5 hlen hcut hle eP eQ eR hone2 zP zR dP dQ dR hda hds3 hhl k2 k3 hx255 hp4 hpp hkk hc hc2 hkl hb_ hneb hscw eZ zZ ePZ zPZ eX zX dX hsc hs6 htl hat hQs k1 hk1 hn1l h0 hfie hhe zQ hni hf3 hf4 hf5
        go_wp2_with fail
        ((with_reducible refine (q1 _).mono ?_); rintro e V1 ⟨rfl, rfl⟩)
        go_wp2_with fail
        ((with_reducible refine (p3 _ HF3.out).mono ?_); rintro e W3 ⟨rfl, b3⟩)
        replace hb := bch hb b3
        have d3 := (b3.cell (p := ⟨b, off + i * 3 + 2, none⟩) hbb).trans d2
        have hbb3 := Nat.lt_of_lt_of_le hbb b3.size
        have HF3B := Lib.hid (HF3.out.below b3)
        have HF4B := Lib.hid (HF4.out.below b3)
        have HF5B := Lib.hid (HF5.out.below b3)
        clear b3 d2 hbb HF3 HF4 HF5 p3
        go_wp2_with fail
        ((with_reducible refine (p4 _ HF4B.out).mono ?_); rintro e W4 ⟨rfl, b4⟩)
        replace hb := bch hb b4
        have d4 := (b4.cell (p := ⟨b, off + i * 3 + 2, none⟩) hbb3).trans d3
        have hbb4 := Nat.lt_of_lt_of_le hbb3 b4.size
        have HF3C := Lib.hid (HF3B.out.below b4)
        have HF5C := Lib.hid (HF5B.out.below b4)
        clear b4 d3 hbb3 HF3B HF4B HF5B p4
        go_wp2_with fail
        ((with_reducible refine (p5 _ HF5C.out).mono ?_); rintro e W5 ⟨rfl, b5⟩)
        replace hb := bch hb b5
        have d5 := (b5.cell (p := ⟨b, off + i * 3 + 2, none⟩) hbb4).trans d4
        have hbb5 := Nat.lt_of_lt_of_le hbb4 b5.size
        have HF3D := Lib.hid (HF3C.out.below b5)
        have HBW := Lib.hid hb
        clear b5 d4 hbb4 HF3C HF5C p5
        go_upto_region 14 with fail
        have hrow0 := rowB_new W5 Q (grownCap W5 Q.size 0 5) 5
        rw [HDQ.out] at hrow0
        have hb6 : Below W5.heap.size W5 (W5.alloc (.cells (bytesRow Q (grownCap W5 Q.size 0 5)) 5 ((bytesRow Q (grownCap W5 Q.size 0 5)).size, (bytesRow Q (grownCap W5 Q.size 0 5)).size + 1))).drew := ((Below.refl _ _).alloc (Nat.le_refl _) _).drew
        obtain ⟨W6, hW6⟩ : ∃ W, (W5.alloc (.cells (bytesRow Q (grownCap W5 Q.size 0 5)) 5 ((bytesRow Q (grownCap W5 Q.size 0 5)).size, (bytesRow Q (grownCap W5 Q.size 0 5)).size + 1))).drew = W := ⟨_, rfl⟩
        rw [hW6] at hb6
        replace hrow0 : RowB W6 W5.heap.size (encF 1 fi) := by rw [← hW6]; exact hrow0
        rw [hW6]
        replace hb := bch hb hb6
        have d6 := (hb6.cell (p := ⟨b, off + i * 3 + 2, none⟩) hbb5).trans d5
        have HB56 := Lib.hid hb6
        have hwB : w.heap.size ≤ W5.heap.size := by
          have h1 := HBW.out
          exact h1.size
        clear hW6 hb6 d5 hbb5 htb HBW
        generalize grownCap W5 Q.size 0 5 = cap6
        have hcell := hrow0.cell2 HC_.out
        have hfz := hrow0.frozen kk HKL.out
        have HROW := Lib.hid hrow0; clear hrow0
        have HWB := Lib.hid hwB; clear hwB
        have HB6 := Lib.hid hb; clear hb
        go_wp2_with fail
        ((with_reducible refine (q2 _).mono ?_); rintro e V1 ⟨rfl, rfl⟩)
        go_wp2_with fail
        clear d6 q2
        go_region_law (first | (go_simp; go_at_call 17; refine (q3 _).mono ?_; rintro e V1 ⟨rfl, rfl⟩))
        all_goals
          have hrow7 : RowB (W6.setCell ⟨W5.heap.size, kk, none⟩ (.int .u8 ((b_.toNat : Nat) : Int))).drew W5.heap.size ((encF 1 fi).set kk b_) := (HROW.out.put kk HKL.out b_).drew
          have hb7 : Below w.heap.size w (W6.setCell ⟨W5.heap.size, kk, none⟩ (.int .u8 ((b_.toNat : Nat) : Int))).drew := (HB6.out.setCell (p := ⟨W5.heap.size, kk, none⟩) HWB.out _).drew
          have hf7 : IsFr (W6.setCell ⟨W5.heap.size, kk, none⟩ (.int .u8 ((b_.toNat : Nat) : Int))).drew A3 i (fs.take i) := HF3D.out.below ((HB56.out.setCell (p := ⟨W5.heap.size, kk, none⟩) (Nat.le_refl _) _).drew)
          obtain ⟨W7, hW7⟩ : ∃ W, (W6.setCell ⟨W5.heap.size, kk, none⟩ (.int .u8 ((b_.toNat : Nat) : Int))).drew = W := ⟨_, rfl⟩
          rw [hW7] at hrow7 hb7 hf7
          rw [hW7]
          clear hW7 HROW HWB HB6 HF3D HB56 hcell hfz q3
          have hcv := rowB_text (cap := cap6) (n := Q.size) hrow7 (by rw [List.length_set]; exact HQS.out)
          rw [HZ_.out] at hcv
          have HF7 := Lib.hid hf7; clear hf7 hrow7
          have HB7 := Lib.hid hb7; clear hb7
          go_wp2_with fail
          ((with_reducible refine (p6 _).mono ?_); rintro e W8 ⟨A6, n6, cap8, rfl, hc6, hc7, hfr6, b8⟩)
          have hb8 := bch HB7.out b8
          obtain rfl : n6 = i := hfr6.1.trans HTL.out
          have p7 := same_fr A6 A3 n6 n6 cap8 cap1 (fs.take n6) (fs.take n6) W8 hfr6 (HF7.out.below b8)
          rw [HS6.out] at p7
          clear b8 hfr6 HF7 HB7 p6
          go_wp2_with fail
          ((with_reducible refine p7.mono ?_); rintro e W9 ⟨rfl, b9⟩)
          replace hb8 := bch hb8 b9
          clear b9 p7
          go_wp2_with fail
          go_roundw
          case rel => exact ⟨2, _, rfl, by omega, rfl, hb8⟩
          case measure => simp [intOf]
    · have dummy := 0
      have p1 := frames_any 2 (by omega) A n cap f B m cap2 g wq (hra.below hb) (hst.below hb)
      go_wp2_with fail
      ((with_reducible refine p1.mono ?_); rintro e W2 ⟨A1, n1, cap1, fs, rfl, hc1, hc2, hfr, hni, b2⟩)
      clear p1
      replace hb := bch hb b2
      clear b2
      by_cases h0 : n1 = 0
      · subst h0
        clear hfr hni
        go_wp2_with fail
        go_roundw
        case rel => exact ⟨3, _, rfl, by omega, rfl, hb⟩
        case measure => simp [intOf]
      · have hn0 : ((n1 : Int) == 0) = false := by simp; omega
        have hn1l : n1 ≤ 12 := by have := hfr.1; have := hni.1; omega
        have q1 := pickF_nat a2 (n1 : Int) (by omega) (by omega) w2
        have k1 := pickN_lt a2 (n1 : Int) (by omega)
        generalize pickN a2 (n1 : Int) = i at q1 k1
        have hi : i < n1 := by omega
        have hil : i < fs.length := by have := hfr.1; omega
        obtain ⟨A3, hs3, hf3⟩ := fr_to hfr (k := i) (by omega) hc1
        obtain ⟨A4, hs4, hf4⟩ := fr_mid hfr (i := i) (j := i + 1) (by omega) (by omega) hc1
        obtain ⟨A5, hs5, hf5⟩ := fr_from hfr (k := i + 1) (by omega) hc1
        have hi1 : (i : Int) + 1 = ((i + 1 : Nat) : Int) := by omega
        have e1 : i + 1 - i = 1 := by omega
        rw [e1] at hf4
        rw [e1] at hs4
        have hs4' : ∀ W : World, (Instr.slice 32 (.slice A1 n1 cap1) (some (.int .i64 (i : Int))) (some (.int .i64 ((i : Int) + 1))) none).run Try.prog W = .ok (.slice A4 1 (cap1 - i)) W := fun W => by rw [hi1]; exact hs4 W
        have hs5' : ∀ W : World, (Instr.slice 32 (.slice A1 n1 cap1) (some (.int .i64 ((i : Int) + 1))) none none).run Try.prog W = .ok (.slice A5 (n1 - (i + 1)) (cap1 - (i + 1))) W := fun W => by rw [hi1]; exact hs5 W
        have hfi := hni.2 fs[i] (List.getElem_mem _)
        have hone : (fs.drop i).take 1 = [fs[i]] := by rw [List.drop_eq_getElem_cons hil]; rfl
        rw [hone] at hf4
        obtain ⟨fi, hfie⟩ : ∃ x, fs[i] = x := ⟨_, rfl⟩
        rw [hfie] at hf4 hfi
        have hok3 : ∀ x ∈ fs.take i, okF 2 x = true := fun x hx => hni.ok x (List.mem_of_mem_take hx)
        have hok5 : ∀ x ∈ fs.drop (i + 1), okF 2 x = true := fun x hx => hni.ok x (List.mem_of_mem_drop hx)
        have hlen := hni.len
        have hcut : encFs 2 fs = encFs 2 (fs.take i) ++ (encF 2 fi ++ encFs 2 (fs.drop (i + 1))) := by
          have h9 : fs = fs.take i ++ (fs[i] :: fs.drop (i + 1)) := by rw [← List.drop_eq_getElem_cons hil, List.take_append_drop]
          have h8 := congrArg (encFs 2) h9
          rw [encFs_append, encFs_cons, hfie] at h8
          exact h8
        rw [hcut, List.length_append, List.length_append] at hlen
        have hle := enc_len 2 fi
        obtain ⟨P, eP⟩ : ∃ S, bs (encFs 2 (fs.take i)) = S := ⟨_, rfl⟩
        obtain ⟨Q, eQ⟩ : ∃ S, bs (encF 2 fi) = S := ⟨_, rfl⟩
        obtain ⟨R, eR⟩ : ∃ S, bs (encFs 2 (fs.drop (i + 1))) = S := ⟨_, rfl⟩
        have hone2 : encFs 2 [fi] = encF 2 fi := by simp [encFs]
        have p3 := fun W hf => bytes6_any HE.out 2 A3 i cap1 (fs.take i) W hf hok3 (by omega)
        have p4 := fun W hf => bytes6_any HE.out 2 A4 1 (cap1 - i) [fi] W hf (by intro x hx; simp at hx; subst hx; exact hfi.1) (by rw [hone2]; omega)
        have p5 := fun W hf => bytes6_any HE.out 2 A5 (n1 - (i + 1)) (cap1 - (i + 1)) (fs.drop (i + 1)) W hf hok5 (by omega)
        rw [hone2, eQ] at p4
        rw [eP] at p3
        rw [eR] at p5
        have zQ : Q.size = (headF 2 fi).length + fi.data.size + 4 := by rw [← eQ, bs_size]; exact hle
        have zP : P.size = (encFs 2 (fs.take i)).length := by rw [← eP, bs_size]
        have zR : R.size = (encFs 2 (fs.drop (i + 1))).length := by rw [← eR, bs_size]
        have dP : P.data.toList = encFs 2 (fs.take i) := by rw [← eP, bs_data]
        have dQ : Q.data.toList = encF 2 fi := by rw [← eQ, bs_data]
        have dR : R.data.toList = encFs 2 (fs.drop (i + 1)) := by rw [← eR, bs_data]
        have hda : da fs i = fi.data := by
          have := frm_at hil
          rw [hfie] at this
          rw [this]
        obtain ⟨ds, hds⟩ : ∃ x, fi.data.size = x := ⟨_, rfl⟩
        have hds3 : ds ≤ 300 := by rw [← hds]; exact hfi.2
        obtain ⟨hh, hhe⟩ : ∃ x, (headF 2 fi).length = x := ⟨_, rfl⟩
        have hhl : hh ≤ 11 := by rw [← hhe]; exact head_le hfi.1
        rw [hds, hhe] at zQ
        have q2 := pickF_nat a3 ((ds : Int) + 4) (by omega) (by omega) w3
        have k2 := pickN_lt a3 ((ds : Int) + 4) (by omega)
        generalize pickN a3 ((ds : Int) + 4) = p at q2 k2
        have q3 := pickF_nat a4 255 (by omega) (by omega) w4
        have k3 := pickN_lt a4 255 (by omega)
        generalize pickN a4 255 = x at q3 k3
        have hx255 : x < 255 := by omega
        have hv1 : IntKind.i64.wrap (1 + (x : Int)) = 1 + (x : Int) := IntWalk.i64_in _ (by omega)
        have hv2 : IntKind.u8.wrap (1 + (x : Int)) = 1 + (x : Int) := by rw [IntKind.wrap_u8]; omega
        have hp4 : p < ds + 4 := by omega
        obtain ⟨pp, hpp⟩ : ∃ q, ds + 3 - p = q := ⟨_, rfl⟩
        obtain ⟨kk, hkk⟩ : ∃ q, hh + pp = q := ⟨_, rfl⟩
        have hkl : kk < (encF 2 fi).length := by rw [hle]; omega
        obtain ⟨c, hc⟩ : ∃ c, (encF 2 fi)[kk] = c := ⟨_, rfl⟩
        obtain ⟨b_, hb_⟩ : ∃ c2, c ^^^ UInt8.ofNat (1 + x) = c2 := ⟨_, rfl⟩
        have hxor : bits .xor .u8 ((c.toNat : Nat) : Int) (1 + (x : Int)) = ((b_.toNat : Nat) : Int) := by
          have h9 := u8_xor_nat c.toNat (1 + x) c.toNat_lt (by omega)
          rw [← hb_, UInt8.toNat_xor, toNat_ofNat_lt (by omega), ← h9]
          congr 1
        have hneb : (encF 2 fi)[hh + pp]? ≠ some b_ := by
          rw [hkk, List.getElem?_eq_getElem hkl, hc, ← hb_]
          intro e
          injection e with e
          have h9 := congrArg UInt8.toNat e
          rw [UInt8.toNat_xor, toNat_ofNat_lt (by omega)] at h9
          have h8 := congrArg (fun z => c.toNat ^^^ z) h9
          simp only [Nat.xor_self, xor_self_left] at h8
          omega
        have hscw := scan_wrong (fs.take i) fi hok3 hfi.1 (encFs 2 (fs.drop (i + 1))) pp b_ (by omega) (by rw [hhe]; exact hneb)
        rw [hhe, hkk] at hscw
        obtain ⟨Z, eZ⟩ : ∃ S, bs ((encF 2 fi).set kk b_) = S := ⟨_, rfl⟩
        have zZ : Z.size = Q.size := by rw [← eZ, bs_size, List.length_set, hle]; omega
        obtain ⟨PZ, ePZ⟩ : ∃ S, P ++ Z = S := ⟨_, rfl⟩
        have zPZ : PZ.size = P.size + Z.size := by rw [← ePZ]; exact ByteArray.size_append
        obtain ⟨X, eX⟩ : ∃ S, PZ ++ R = S := ⟨_, rfl⟩
        have zX : X.size = PZ.size + R.size := by rw [← eX]; exact ByteArray.size_append
        have ha1 : ∀ W : World, (Op.stringOp .add P Z).run Try.prog W = .ok (.string PZ) W := fun W => by rw [str_add (by omega), ePZ]
        have ha2 : ∀ W : World, (Op.stringOp .add PZ R).run Try.prog W = .ok (.string X) W := fun W => by rw [str_add (by omega), eX]
        have dX : X.data.toList = encFs 2 (fs.take i) ++ ((encF 2 fi).set kk b_ ++ encFs 2 (fs.drop (i + 1))) := by rw [← eX, add_data, ← ePZ, add_data, dP, dR, ← eZ, bs_data, List.append_assoc]
        have p6 := fun W => HS.out 2 X (by omega) W
        have hsc : scanV 2 X.data.toList = (fs.take i, (encFs 2 (fs.take i)).length, 11) := by unfold scanV; rw [if_pos (by omega), dX]; exact hscw
        rw [hsc, ← zP] at p6
        have hs6 := sameR_self (fs.take i)
        have htl : (fs.take i).length = i := by rw [List.length_take]; omega
        obtain ⟨b, off, hA1, hbb, hat⟩ := hfr.2.2.2 (by omega)
        subst hA1
        obtain ⟨_, _, d2⟩ := hat i hil
        rw [hda] at d2
        have htb := text_bytes Q
        have hQs : Q.size = (encF 2 fi).length := by rw [hle]; omega
        have hsub : (Q.size : Int) - 1 - (p : Int) = (kk : Int) := by omega
        have hge : (ds : Int) + 4 ≤ (Q.size : Int) := by omega
        have hkQ : (kk : Int) < (Q.size : Int) := by omega
        have hk1 : k1 = k1 := rfl
        have HDQ := Lib.hid dQ
        have HDS := Lib.hid hds
        have HQS := Lib.hid hQs
        have HKL := Lib.hid hkl
        have hc2 : (encF 2 fi)[kk]? = some c := by rw [List.getElem?_eq_getElem hkl, hc]
        have HC_ := Lib.hid hc2
        have HZ_ := Lib.hid eZ
        have HS6 := Lib.hid hs6
        have HTL := Lib.hid htl
        have HF3 := Lib.hid hf3
        have HF4 := Lib.hid hf4
        have HF5 := Lib.hid hf5
        have HHE := Lib.hid hhe
        have hQl : (Q.size : Int) ≤ 4000 := by omega
        have hdsl : (ds : Int) ≤ 300 := by omega
        have hil2 : (i : Int) < (n1 : Int) := by omega
        have hnil : (n1 : Int) ≤ 12 := by omega
        clear hi hil hs4 hs5 hi1 e1 hfi hone hok3 hok5 hlen hcut hle eP eQ eR hone2 zP zR dP dQ dR hda hds3 hhl k2 k3 hx255 hp4 hpp hkk hc hc2 hkl hb_ hneb hscw eZ zZ ePZ zPZ eX zX dX hsc hs6 htl hat hQs k1 hk1 hn1l h0 hfie hhe zQ hni hf3 hf4 hf5
        go_wp2_with fail
        ((with_reducible refine (q1 _).mono ?_); rintro e V1 ⟨rfl, rfl⟩)
        go_wp2_with fail
        ((with_reducible refine (p3 _ HF3.out).mono ?_); rintro e W3 ⟨rfl, b3⟩)
        replace hb := bch hb b3
        have d3 := (b3.cell (p := ⟨b, off + i * 3 + 2, none⟩) hbb).trans d2
        have hbb3 := Nat.lt_of_lt_of_le hbb b3.size
        have HF3B := Lib.hid (HF3.out.below b3)
        have HF4B := Lib.hid (HF4.out.below b3)
        have HF5B := Lib.hid (HF5.out.below b3)
        clear b3 d2 hbb HF3 HF4 HF5 p3
        go_wp2_with fail
        ((with_reducible refine (p4 _ HF4B.out).mono ?_); rintro e W4 ⟨rfl, b4⟩)
        replace hb := bch hb b4
        have d4 := (b4.cell (p := ⟨b, off + i * 3 + 2, none⟩) hbb3).trans d3
        have hbb4 := Nat.lt_of_lt_of_le hbb3 b4.size
        have HF3C := Lib.hid (HF3B.out.below b4)
        have HF5C := Lib.hid (HF5B.out.below b4)
        clear b4 d3 hbb3 HF3B HF4B HF5B p4
        go_wp2_with fail
        ((with_reducible refine (p5 _ HF5C.out).mono ?_); rintro e W5 ⟨rfl, b5⟩)
        replace hb := bch hb b5
        have d5 := (b5.cell (p := ⟨b, off + i * 3 + 2, none⟩) hbb4).trans d4
        have hbb5 := Nat.lt_of_lt_of_le hbb4 b5.size
        have HF3D := Lib.hid (HF3C.out.below b5)
        have HBW := Lib.hid hb
        clear b5 d4 hbb4 HF3C HF5C p5
        go_upto_region 14 with fail
        have hrow0 := rowB_new W5 Q (grownCap W5 Q.size 0 5) 5
        rw [HDQ.out] at hrow0
        have hb6 : Below W5.heap.size W5 (W5.alloc (.cells (bytesRow Q (grownCap W5 Q.size 0 5)) 5 ((bytesRow Q (grownCap W5 Q.size 0 5)).size, (bytesRow Q (grownCap W5 Q.size 0 5)).size + 1))).drew := ((Below.refl _ _).alloc (Nat.le_refl _) _).drew
        obtain ⟨W6, hW6⟩ : ∃ W, (W5.alloc (.cells (bytesRow Q (grownCap W5 Q.size 0 5)) 5 ((bytesRow Q (grownCap W5 Q.size 0 5)).size, (bytesRow Q (grownCap W5 Q.size 0 5)).size + 1))).drew = W := ⟨_, rfl⟩
        rw [hW6] at hb6
        replace hrow0 : RowB W6 W5.heap.size (encF 2 fi) := by rw [← hW6]; exact hrow0
        rw [hW6]
        replace hb := bch hb hb6
        have d6 := (hb6.cell (p := ⟨b, off + i * 3 + 2, none⟩) hbb5).trans d5
        have HB56 := Lib.hid hb6
        have hwB : w.heap.size ≤ W5.heap.size := by
          have h1 := HBW.out
          exact h1.size
        clear hW6 hb6 d5 hbb5 htb HBW
        generalize grownCap W5 Q.size 0 5 = cap6
        have hcell := hrow0.cell2 HC_.out
        have hfz := hrow0.frozen kk HKL.out
        have HROW := Lib.hid hrow0; clear hrow0
        have HWB := Lib.hid hwB; clear hwB
        have HB6 := Lib.hid hb; clear hb
        go_wp2_with fail
        ((with_reducible refine (q2 _).mono ?_); rintro e V1 ⟨rfl, rfl⟩)
        go_wp2_with fail
        clear d6 q2
        go_region_law (first | (go_simp; go_at_call 17; refine (q3 _).mono ?_; rintro e V1 ⟨rfl, rfl⟩))
        all_goals
          have hrow7 : RowB (W6.setCell ⟨W5.heap.size, kk, none⟩ (.int .u8 ((b_.toNat : Nat) : Int))).drew W5.heap.size ((encF 2 fi).set kk b_) := (HROW.out.put kk HKL.out b_).drew
          have hb7 : Below w.heap.size w (W6.setCell ⟨W5.heap.size, kk, none⟩ (.int .u8 ((b_.toNat : Nat) : Int))).drew := (HB6.out.setCell (p := ⟨W5.heap.size, kk, none⟩) HWB.out _).drew
          have hf7 : IsFr (W6.setCell ⟨W5.heap.size, kk, none⟩ (.int .u8 ((b_.toNat : Nat) : Int))).drew A3 i (fs.take i) := HF3D.out.below ((HB56.out.setCell (p := ⟨W5.heap.size, kk, none⟩) (Nat.le_refl _) _).drew)
          obtain ⟨W7, hW7⟩ : ∃ W, (W6.setCell ⟨W5.heap.size, kk, none⟩ (.int .u8 ((b_.toNat : Nat) : Int))).drew = W := ⟨_, rfl⟩
          rw [hW7] at hrow7 hb7 hf7
          rw [hW7]
          clear hW7 HROW HWB HB6 HF3D HB56 hcell hfz q3
          have hcv := rowB_text (cap := cap6) (n := Q.size) hrow7 (by rw [List.length_set]; exact HQS.out)
          rw [HZ_.out] at hcv
          have HF7 := Lib.hid hf7; clear hf7 hrow7
          have HB7 := Lib.hid hb7; clear hb7
          go_wp2_with fail
          ((with_reducible refine (p6 _).mono ?_); rintro e W8 ⟨A6, n6, cap8, rfl, hc6, hc7, hfr6, b8⟩)
          have hb8 := bch HB7.out b8
          obtain rfl : n6 = i := hfr6.1.trans HTL.out
          have p7 := same_fr A6 A3 n6 n6 cap8 cap1 (fs.take n6) (fs.take n6) W8 hfr6 (HF7.out.below b8)
          rw [HS6.out] at p7
          clear b8 hfr6 HF7 HB7 p6
          go_wp2_with fail
          ((with_reducible refine p7.mono ?_); rintro e W9 ⟨rfl, b9⟩)
          replace hb8 := bch hb8 b9
          clear b9 p7
          go_wp2_with fail
          go_roundw
          case rel => exact ⟨3, _, rfl, by omega, rfl, hb8⟩
          case measure => simp [intOf]
    · go_wp2_with fail
      go_ret
      exact ⟨rfl, hb⟩
end Go.Proofs.Ytjciojgldibfmaa
