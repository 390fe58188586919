import Derived.Test.YtljjbpgbddaekaaMailSteps
import Derived.Test.YtljjbpgbddaekaaMailAwake
/-
  The walk of the law MailMixed, over what is asked of the program (stage 11).
-/
namespace Go.Proofs.Ytljjbpgbddaekaa
open Go.RowKit
set_option linter.unusedVariables false
set_option linter.unusedSimpArgs false
/-- A letter's place among the twelve; how many stand at a place. -/
def plc (m : Lt) : Nat := m.to.toNat * 4 + min m.bytes.size 3
def cnt (l : List Lt) (j : Nat) : Int := ((l.filter fun m => decide (plc m = j)).length : Int)
theorem cnt_nil : cnt [] = fun _ => 0 := rfl
theorem cnt_append (a b : List Lt) (j : Nat) : cnt (a ++ b) j = cnt a j + cnt b j := by unfold cnt; rw [List.filter_append, List.length_append]; omega
theorem cnt_one (m : Lt) (j : Nat) : cnt [m] j = if plc m = j then 1 else 0 := by
  unfold cnt
  by_cases h : plc m = j <;> simp [h]
theorem cnt_take {l : List Lt} {k : Nat} (h : k < l.length) (j : Nat) : cnt (l.take (k + 1)) j = cnt (l.take k) j + (if plc (atL l k) = j then 1 else 0) := by
  rw [take_succL h, cnt_append, cnt_one]
theorem cnt_rest {l : List Lt} {k : Nat} (h : k < l.length) (j : Nat) : cnt (restL l (k : Int)) j = cnt l j - (if plc (atL l k) = j then 1 else 0) := by
  have e : l = l.take k ++ ([atL l k] ++ l.drop (k + 1)) := by rw [List.singleton_append, atL_get h, List.getElem_cons_drop, List.take_append_drop]
  have h1 : cnt l j = cnt (l.take k ++ ([atL l k] ++ l.drop (k + 1))) j := congrArg (fun x => cnt x j) e
  rw [cnt_append, cnt_append, cnt_one] at h1
  rw [rest_yes h, cnt_append]
  omega
theorem cnt_bound (l : List Lt) (j : Nat) : 0 ≤ cnt l j ∧ cnt l j ≤ l.length := by
  unfold cnt
  have := List.length_filter_le (fun m => decide (plc m = j)) l
  omega
/-- Twelve numbers in a block. -/
def CtBlk (W : World) (g : Nat) (c : Nat → Int) : Prop := Blk W g (.cells #[.int .i64 (c 0), .int .i64 (c 1), .int .i64 (c 2), .int .i64 (c 3), .int .i64 (c 4), .int .i64 (c 5), .int .i64 (c 6), .int .i64 (c 7), .int .i64 (c 8), .int .i64 (c 9), .int .i64 (c 10), .int .i64 (c 11)] 46 (0, 0))
theorem CtBlk.below {w w' : World} {g : Nat} {c : Nat → Int} (h : CtBlk w g c) (hb : Below w.heap.size w w') : CtBlk w' g c := Blk.below h hb
theorem CtBlk.cell {W : World} {g : Nat} {c : Nat → Int} (h : CtBlk W g c) {j : Nat} (hj : j < 12) : W.cell? ⟨g, j, none⟩ = some (.int .i64 (c j)) := by
  rcases (by omega : j = 0 ∨ j = 1 ∨ j = 2 ∨ j = 3 ∨ j = 4 ∨ j = 5 ∨ j = 6 ∨ j = 7 ∨ j = 8 ∨ j = 9 ∨ j = 10 ∨ j = 11) with rfl | rfl | rfl | rfl | rfl | rfl | rfl | rfl | rfl | rfl | rfl | rfl <;> exact Blk.cell h _
theorem CtBlk.frozen {W : World} {g : Nat} {c : Nat → Int} (h : CtBlk W g c) (j : Nat) : W.frozen? ⟨g, j, none⟩ = false := Blk.frozen h j
theorem CtBlk.set {W : World} {g : Nat} {c : Nat → Int} (h : CtBlk W g c) {j : Nat} (hj : j < 12) (z : Int) : CtBlk (W.setCell ⟨g, j, none⟩ (.int .i64 z)) g (fun i => if j = i then z else c i) := by
  rcases (by omega : j = 0 ∨ j = 1 ∨ j = 2 ∨ j = 3 ∨ j = 4 ∨ j = 5 ∨ j = 6 ∨ j = 7 ∨ j = 8 ∨ j = 9 ∨ j = 10 ∨ j = 11) with rfl | rfl | rfl | rfl | rfl | rfl | rfl | rfl | rfl | rfl | rfl | rfl <;> exact Blk.set h _ _ _ rfl
theorem CtBlk.drew {W : World} {g : Nat} {c : Nat → Int} (h : CtBlk W g c) : CtBlk W.drew g c := h
theorem eqZ12 (W : World) : (Op.equalIn 10000 46 (.agg #[.int .i64 0, .int .i64 0, .int .i64 0, .int .i64 0, .int .i64 0, .int .i64 0, .int .i64 0, .int .i64 0, .int .i64 0, .int .i64 0, .int .i64 0, .int .i64 0]) (.agg #[.int .i64 0, .int .i64 0, .int .i64 0, .int .i64 0, .int .i64 0, .int .i64 0, .int .i64 0, .int .i64 0, .int .i64 0, .int .i64 0, .int .i64 0, .int .i64 0])).run Try.prog W = .ok true W := by kernel_rfl
theorem letters_plc (f : Nat → Nat → Int) (k : Nat) : ∀ m ∈ lettersR f k, ∃ t b : Nat, m.to = (t : Int) ∧ t < 3 ∧ m.bytes.size = b ∧ b ≤ 2 := fun m hm => by
  unfold lettersR at hm
  obtain ⟨i, _, rfl⟩ := List.mem_map.1 hm
  exact ⟨_, _, rfl, by have := pickN_lt (f i 1) 3 (by omega); omega, rfl, bytes4_size _⟩
set_option maxRecDepth 100000 in
set_option maxHeartbeats 8000000 in
theorem mailMixed_core (kP : PostQ) (kC : CopyQ) (kL : LoseQ) (kT : TakeM) (kF : ForQ) (a0 : Option Addr) (n0 cap0 : Nat) (f0 : Nat → Nat → Int) (a1 : Option Addr) (len1 cap1 : Nat) (zs : List Int) (w : World) (h0 : IsRaw w a0 n0 3 f0) (h1 : IsRow .i64 w a1 len1 cap1 zs) :
    Calls Try.prog 8 #[.slice a0 n0 cap0, .slice a1 len1 cap1] w fun e w' => e = .returned (.bool true) ∧ Below w.heap.size w w' := by
  obtain ⟨_, hns0⟩ := h1.isNs
  generalize zs.take len1 = come at *
  clear h1
  have hl0 := hns0.2.1
  unfold maxLen at hl0
  have HCM := Lib.hid hns0; clear hns0
  have qw := awakeM_any kP kC kL kT kF
  have KT := Lib.hid kT; clear kT
  clear kC kF kP kL
  have HC := Lib.hid h0; clear h0
  go_enter Try.func8, Try.ntmps8
  go_wp2_with fail
  ((with_reducible refine (qw _).mono ?_); rintro e Wa ⟨rfl, ba⟩)
  have ql := letters_any a0 n0 cap0 f0 Wa (HC.out.below ba)
  have HBa := Lib.hid ba; clear ba qw
  go_wp2_with fail
  ((with_reducible refine ql.mono ?_); rintro e W0 ⟨A, n, cap, rfl, hcap, hls, hnw, b0⟩)
  try simp only [id]
  have HPC := Lib.hid (letters_plc f0 (min n0 30))
  have hlen := letters_len f0 (min n0 30)
  generalize lettersR f0 (min n0 30) = l at *
  have hn30 : n ≤ 30 := by rw [hls.1, hlen]; omega
  have HN : Hid (n = l.length) := hls.1
  have HL := Lib.hid hls
  have HB0 := Lib.hid (bch HBa.out b0)
  clear ql hls hnw b0 HBa hlen
  go_upto_region 4 with fail
  have hg0 := Blk.new W0 (.cells #[.int .i64 0, .int .i64 0, .int .i64 0, .int .i64 0, .int .i64 0, .int .i64 0, .int .i64 0, .int .i64 0, .int .i64 0, .int .i64 0, .int .i64 0, .int .i64 0] 46 (0, 0))
  have hal := (Below.refl W0.heap.size W0).alloc (Nat.le_refl _) (.cells #[.int .i64 0, .int .i64 0, .int .i64 0, .int .i64 0, .int .i64 0, .int .i64 0, .int .i64 0, .int .i64 0, .int .i64 0, .int .i64 0, .int .i64 0, .int .i64 0] 46)
  have hsz : W0.heap.size < (W0.alloc (.cells #[.int .i64 0, .int .i64 0, .int .i64 0, .int .i64 0, .int .i64 0, .int .i64 0, .int .i64 0, .int .i64 0, .int .i64 0, .int .i64 0, .int .i64 0, .int .i64 0] 46)).heap.size := by rw [World.size_alloc]; omega
  obtain ⟨V0, hV⟩ : ∃ W, W0.alloc (.cells #[.int .i64 0, .int .i64 0, .int .i64 0, .int .i64 0, .int .i64 0, .int .i64 0, .int .i64 0, .int .i64 0, .int .i64 0, .int .i64 0, .int .i64 0, .int .i64 0] 46) = W := ⟨_, rfl⟩
  rw [hV] at hal hg0 hsz ⊢
  clear hV
  have HAP : Hid (ApartN W0.heap.size A n) := fun hn b off e => by
    obtain ⟨b2, o2, e2, hlt, _⟩ := HL.out.2.2.2 (by have := HN.out; omega)
    rw [e] at e2
    simp only [Option.some.injEq, Addr.mk.injEq, and_true] at e2
    omega
  have HCT : Hid (CtBlk V0 W0.heap.size (cnt [])) := hg0
  have HL0 := Lib.hid (HL.out.below hal)
  have HBA : Hid (∀ W, Below W0.heap.size V0 W → Below w.heap.size w W) := fun W hb => (bch HB0.out hal).trans (hb.mono HB0.out.size)
  generalize W0.heap.size = g at *
  have HSZ := Lib.hid hsz
  clear hg0 hal hsz HL
  go_wp2_with fail
  go_loopw [8] (fun i wy => ∃ (k : Nat) (wr : World), wr = wy ∧ k ≤ n ∧ i = .int .i64 k ∧ CtBlk wr g (cnt (l.take k)) ∧ Below g V0 wr ∧ IsLs wr A n l) (fun i _ => n - (intOf i).toNat)
  case atStart => exact ⟨0, _, rfl, by omega, rfl, HCT.out, Below.refl _ _, HL0.out⟩
  case round =>
    obtain ⟨k, wr, rfl, hk, rfl, hct, hb, hls⟩ := hrel
    have HB := Lib.hid hb; clear hb
    have HCK := Lib.hid hct; clear hct
    have HLK := Lib.hid hls; clear hls
    by_cases hlt : k < n
    · have hki : (k : Int) < (n : Int) := by omega
      have hk0 : (0 : Int) ≤ (k : Int) := by omega
      have hkl : k < l.length := by have := HN.out; omega
      have HST : Hid (cnt (l.take (k + 1)) = fun i => if plc (atL l k) = i then cnt (l.take k) (plc (atL l k)) + 1 else cnt (l.take k) i) := by
        show _ = _
        funext i
        rw [cnt_take hkl]
        by_cases h : plc (atL l k) = i
        · rw [if_pos h, if_pos h, h]
        · rw [if_neg h, if_neg h]; omega
      have hbd := cnt_bound (l.take k) (plc (atL l k))
      have hln : (l.take k).length ≤ 30 := by rw [List.length_take]; omega
      obtain ⟨t, b, ht, ht3, hb, hb2⟩ := HPC.out _ (atL_mem hkl)
      have hpl : plc (atL l k) = t * 4 + b := by unfold plc; rw [ht, hb]; simp; omega
      obtain ⟨bl, ol, hAl, _, _⟩ := HLK.out.2.2.2 (by have := HN.out; omega)
      subst hAl
      obtain ⟨x0, x1, x2⟩ := HLK.out.cells hkl rfl (Below.refl _ _)
      rw [ht] at x1
      rw [hpl] at HST hbd
      have y := HCK.out.cell (j := t * 4 + b) (by omega)
      have fz := HCK.out.frozen (t * 4 + b)
      generalize cnt (l.take k) (t * 4 + b) = v at *
      have hmn : min b 3 = b := by omega
      have hmi : (if (3 : Int) < (b : Int) then (3 : Int) else (b : Int)) = (b : Int) := by rw [if_neg (by omega)]
      have hmi2 : min (b : Int) 3 = (b : Int) := by omega
      have hbz : ((atL l k).bytes.size : Int) = (b : Int) := by rw [hb]
      have hv1 : IntKind.i64.wrap (v + 1) = v + 1 := IntWalk.i64_in _ (by omega)
      have ht0 : (0 : Int) ≤ (t : Int) := by omega
      have ht3i : (t : Int) < 3 := by omega
      have hb0 : (0 : Int) ≤ (b : Int) := by omega
      have hb4 : (b : Int) < 4 := by omega
      clear hkl hbd hln ht hpl
      go_upto_region 7 with fail
      go_region
      have hct2 : CtBlk (wr.setCell ⟨g, t * 4 + b, none⟩ (.int .i64 (v + 1))).drew g (cnt (l.take (k + 1))) := by rw [HST.out]; exact (HCK.out.set (by omega) (v + 1)).drew
      have hls2 : IsLs (wr.setCell ⟨g, t * 4 + b, none⟩ (.int .i64 (v + 1))).drew (some ⟨bl, ol, none⟩) n l := (HLK.out.far HAP.out).drew
      have hbe : Below g V0 (wr.setCell ⟨g, t * 4 + b, none⟩ (.int .i64 (v + 1))).drew := (HB.out.setCell (p := ⟨g, t * 4 + b, none⟩) (Nat.le_refl _) _).drew
      have H1 := Lib.hid hct2; clear hct2
      have H2 := Lib.hid hls2; clear hls2
      have H3 := Lib.hid hbe; clear hbe
      go_wp2_with fail
      go_roundw
      case rel => exact ⟨k + 1, _, rfl, by omega, by go_num, H1.out, H3.out, H2.out⟩
      case measure => simp [intOf]; omega
    · have hke : k = n := by omega
      subst hke
      have htl : l.take k = l := by rw [List.take_of_length_le]; have := HN.out; omega
      rw [htl] at HCK
      clear htl hlt hk
      go_wp2_with fail
      go_loopw [6, 10] (fun a i wy => ∃ (j m c : Nat) (P : Option Addr) (L : List Lt) (wq : World), wq = wy ∧ j + m = k ∧ i = .int .i64 j ∧ a = .slice P m c ∧ m ≤ c ∧ IsLs wq P m L ∧ CtBlk wq g (cnt L) ∧ (∀ m ∈ L, ∃ t b : Nat, m.to = (t : Int) ∧ t < 3 ∧ m.bytes.size = b ∧ b ≤ 2) ∧ ApartN g P m ∧ Below g V0 wq) (fun _ i _ => k - (intOf i).toNat)
      case atStart => exact ⟨0, k, cap, A, l, _, rfl, by omega, rfl, rfl, hcap, HLK.out, HCK.out, HPC.out, HAP.out, HB.out⟩
      case round =>
        obtain ⟨j, m, c2, P, L, wq, rfl, hjm, rfl, rfl, hmc, hP, hct, hpc, hap, hbq⟩ := hrel
        have HPL := Lib.hid hP; clear hP
        have HCQ := Lib.hid hct; clear hct
        have HPQ := Lib.hid hpc; clear hpc
        have HAQ := Lib.hid hap; clear hap
        have HBQ := Lib.hid hbq; clear hbq
        have HML : Hid (m = L.length) := HPL.out.1
        have hgw : g < wq.heap.size := Blk.lt HCQ.out
        have HGW := Lib.hid hgw; clear hgw
        by_cases hj : j < k
        · have hji : (j : Int) < (k : Int) := by omega
          have hj0 : (0 : Int) ≤ (j : Int) := by omega
          have hm0 : 0 < m := by omega
          by_cases hw : j < len1
          · have hwi : (j : Int) < (len1 : Int) := by omega
            obtain ⟨bw, ow, hAw, hbw, hcw⟩ := HCM.out.2.2.2 (by omega)
            subst hAw
            have hjc : j < come.length := by have := HCM.out.1; omega
            have HZW : Hid ((Lit.int .i64 (come.getD j 0)).wf = true) := ints_at HCM.out.2.2.1 hjc
            have hWa : Below w.heap.size w wq := HBA.out wq HBQ.out
            have y0 := (hWa.cell (p := ⟨bw, ow + j, none⟩) hbw).trans (hcw j hjc)
            generalize come.getD j 0 = z at *
            have qp := fun W => pickN11_nat z m (by omega) (by omega) HZW.out W
            have hp := pickN_lt z m (by omega)
            generalize pickN z m = p at *
            clear hcw hjc hWa
            go_wp2_with fail
            ((with_reducible refine (qp _).mono ?_); rintro e W_ ⟨rfl, rfl⟩)
            clear qp y0
            obtain ⟨x, hx⟩ : ∃ x, atL L p = x := ⟨_, rfl⟩
            have hpl : p < L.length := by have := HML.out; omega
            have HTK : Hid (takeL L (p : Int) = (x, restL L (p : Int), true)) := by
              show _ = _
              unfold takeL
              rw [if_pos (show thereL L ((p : Int) : Int) = true from thereL_nat (k := p) hpl), show ((p : Int) : Int).toNat = p from rfl, hx]
            have hrl : (restL L ((p : Int) : Int)).length + 1 = L.length := rest_len (j := p) hpl
            have HRS : Hid (cnt (restL L (p : Int)) = fun i => if plc x = i then cnt L (plc x) - 1 else cnt L i) := by
              show _ = _
              funext i
              have h : cnt (restL L ((p : Int) : Int)) i = _ := cnt_rest (k := p) hpl i
              rw [hx] at h
              rw [h]
              by_cases e : plc x = i
              · rw [if_pos e, if_pos e, e]
              · rw [if_neg e, if_neg e]; omega
            have HPR : Hid (∀ m ∈ restL L (p : Int), m ∈ L) := fun y hy => skip_mem L (p : Int) _ (Nat.le_refl _) y hy
            obtain ⟨t, b, ht, ht3, hb, hb2⟩ := HPQ.out x (by rw [← hx]; exact atL_mem hpl)
            have hplc : plc x = t * 4 + b := by unfold plc; rw [ht, hb]; simp; omega
            have hbd := cnt_bound L (plc x)
            rw [hplc] at HRS hbd
            generalize restL L (p : Int) = r at *
            have HRN : Hid (r.length + 1 = m) := by show _ = _; have := HML.out; have h2 : r.length + 1 = L.length := hrl; omega
            have q1 := KT.out L (p : Int) P m c2 wq (wf_within (by omega) (by omega)) hmc HPL.out (by omega)
            rw [HTK.out] at q1
            have HTo := Lib.hid ht; clear ht
            have HBs := Lib.hid hb; clear hb
            clear hx hrl hpl
            go_wp2_with fail
            ((with_reducible refine q1.mono ?_); rintro e W1 ⟨A1, n1, cap1_, rfl, hcap1, hls1, hnw1, b1⟩)
            go_upto_region 16 with fail
            have hal := (Below.refl W1.heap.size W1).alloc (Nat.le_refl _) (.cells #[.int .i64 x.frm, .int .i64 x.to, .string x.bytes] 25)
            have htb : LtBlk (W1.alloc (.cells #[.int .i64 x.frm, .int .i64 x.to, .string x.bytes] 25)) W1.heap.size x := LtBlk.new W1 x
            have hgs : wq.heap.size ≤ W1.heap.size := b1.size
            obtain ⟨V1, hV⟩ : ∃ W, W1.alloc (.cells #[.int .i64 x.frm, .int .i64 x.to, .string x.bytes] 25) = W := ⟨_, rfl⟩
            rw [hV] at hal htb ⊢
            clear hV
            have bb := bch b1 hal
            have hn1 : n1 + 1 = m := by rw [hls1.1]; exact HRN.out
            have HL1 := Lib.hid (hls1.below hal)
            have HCV := Lib.hid (HCQ.out.below bb)
            have hgw : g < W1.heap.size := Nat.lt_of_lt_of_le HGW.out hgs
            have HAN : Hid (ApartN g A1 n1) := hnw1.apart HGW.out HAQ.out
            have HBV : Hid (Below g V0 V1) := HBQ.out.trans (bb.mono (Nat.le_of_lt HGW.out))
            obtain ⟨c0, c1, c2_⟩ := htb.cells
            rw [HTo.out] at c1
            have y := HCV.out.cell (j := t * 4 + b) (by omega)
            have fz := HCV.out.frozen (t * 4 + b)
            generalize cnt L (t * 4 + b) = v at *
            have HN1 := Lib.hid hn1
            have hn1i : (n1 : Int) + 1 = (m : Int) := by omega
            have hmn : (m : Int) - 1 = (n1 : Int) := by omega
            have hnw : IntKind.i64.wrap (n1 : Int) = (n1 : Int) := IntWalk.i64_in _ (by omega)
            have hmi : (if (3 : Int) < (b : Int) then (3 : Int) else (b : Int)) = (b : Int) := by rw [if_neg (by omega)]
            have hmi2 : min (b : Int) 3 = (b : Int) := by omega
            have hbz : (x.bytes.size : Int) = (b : Int) := by rw [HBs.out]
            have hml : L.length ≤ 30 := by have := HML.out; omega
            have hv1 : IntKind.i64.wrap (v - 1) = v - 1 := IntWalk.i64_in _ (by omega)
            have ht0 : (0 : Int) ≤ (t : Int) := by omega
            have ht3i : (t : Int) < 3 := by omega
            have hb0 : (0 : Int) ≤ (b : Int) := by omega
            have hb4 : (b : Int) < 4 := by omega
            have e1 : decide ((t : Int) < 0) = false := decide_eq_false (by omega)
            have e2 : decide ((2 : Int) < (t : Int)) = false := decide_eq_false (by omega)
            have e3 : ((n1 : Int) != (n1 : Int)) = false := by simp
            clear q1 hls1 hnw1 b1 bb hal htb hplc hbd hn1 hgs
            go_upto_region 18 with fail
            go_region
            have hct2 : CtBlk (V1.setCell ⟨g, t * 4 + b, none⟩ (.int .i64 (v - 1))).drew g (cnt r) := by rw [HRS.out]; exact (HCV.out.set (by omega) (v - 1)).drew
            have hls2 : IsLs (V1.setCell ⟨g, t * 4 + b, none⟩ (.int .i64 (v - 1))).drew A1 n1 r := (HL1.out.far HAN.out).drew
            have hbe : Below g V0 (V1.setCell ⟨g, t * 4 + b, none⟩ (.int .i64 (v - 1))).drew := (HBV.out.setCell (p := ⟨g, t * 4 + b, none⟩) (Nat.le_refl _) _).drew
            have H1 := Lib.hid hct2; clear hct2
            have H2 := Lib.hid hls2; clear hls2
            have H3 := Lib.hid hbe; clear hbe
            go_wp2_with fail
            go_roundw
            case rel => exact ⟨j + 1, n1, cap1_, A1, r, _, rfl, by omega, by go_num, rfl, hcap1, H2.out, H1.out, fun y hy => HPQ.out y (HPR.out y hy), HAN.out, H3.out⟩
            case measure => simp [intOf]; omega
          · have hwi : (len1 : Int) ≤ (j : Int) := by omega
            have hwd : decide ((j : Int) < (len1 : Int)) = false := decide_eq_false (by omega)
            obtain ⟨x, hx⟩ : ∃ x, atL L 0 = x := ⟨_, rfl⟩
            have hpl : 0 < L.length := by have := HML.out; omega
            have HTK : Hid (takeL L 0 = (x, restL L 0, true)) := by
              show _ = _
              unfold takeL
              rw [if_pos (show thereL L (0 : Int) = true from thereL_nat (k := 0) hpl), show (0 : Int).toNat = 0 from rfl, hx]
            have hrl : (restL L (0 : Int)).length + 1 = L.length := rest_len (j := 0) hpl
            have HRS : Hid (cnt (restL L 0) = fun i => if plc x = i then cnt L (plc x) - 1 else cnt L i) := by
              show _ = _
              funext i
              have h : cnt (restL L (0 : Int)) i = _ := cnt_rest (k := 0) hpl i
              rw [hx] at h
              rw [h]
              by_cases e : plc x = i
              · rw [if_pos e, if_pos e, e]
              · rw [if_neg e, if_neg e]; omega
            have HPR : Hid (∀ m ∈ restL L 0, m ∈ L) := fun y hy => skip_mem L 0 _ (Nat.le_refl _) y hy
            obtain ⟨t, b, ht, ht3, hb, hb2⟩ := HPQ.out x (by rw [← hx]; exact atL_mem hpl)
            have hplc : plc x = t * 4 + b := by unfold plc; rw [ht, hb]; simp; omega
            have hbd := cnt_bound L (plc x)
            rw [hplc] at HRS hbd
            generalize restL L 0 = r at *
            have HRN : Hid (r.length + 1 = m) := by show _ = _; have := HML.out; have h2 : r.length + 1 = L.length := hrl; omega
            have q1 := KT.out L 0 P m c2 wq (wf_within (by omega) (by omega)) hmc HPL.out (by omega)
            rw [HTK.out] at q1
            have HTo := Lib.hid ht; clear ht
            have HBs := Lib.hid hb; clear hb
            clear hx hrl hpl
            go_wp2_with fail
            ((with_reducible refine q1.mono ?_); rintro e W1 ⟨A1, n1, cap1_, rfl, hcap1, hls1, hnw1, b1⟩)
            go_upto_region 16 with fail
            have hal := (Below.refl W1.heap.size W1).alloc (Nat.le_refl _) (.cells #[.int .i64 x.frm, .int .i64 x.to, .string x.bytes] 25)
            have htb : LtBlk (W1.alloc (.cells #[.int .i64 x.frm, .int .i64 x.to, .string x.bytes] 25)) W1.heap.size x := LtBlk.new W1 x
            have hgs : wq.heap.size ≤ W1.heap.size := b1.size
            obtain ⟨V1, hV⟩ : ∃ W, W1.alloc (.cells #[.int .i64 x.frm, .int .i64 x.to, .string x.bytes] 25) = W := ⟨_, rfl⟩
            rw [hV] at hal htb ⊢
            clear hV
            have bb := bch b1 hal
            have hn1 : n1 + 1 = m := by rw [hls1.1]; exact HRN.out
            have HL1 := Lib.hid (hls1.below hal)
            have HCV := Lib.hid (HCQ.out.below bb)
            have hgw : g < W1.heap.size := Nat.lt_of_lt_of_le HGW.out hgs
            have HAN : Hid (ApartN g A1 n1) := hnw1.apart HGW.out HAQ.out
            have HBV : Hid (Below g V0 V1) := HBQ.out.trans (bb.mono (Nat.le_of_lt HGW.out))
            obtain ⟨c0, c1, c2_⟩ := htb.cells
            rw [HTo.out] at c1
            have y := HCV.out.cell (j := t * 4 + b) (by omega)
            have fz := HCV.out.frozen (t * 4 + b)
            generalize cnt L (t * 4 + b) = v at *
            have HN1 := Lib.hid hn1
            have hn1i : (n1 : Int) + 1 = (m : Int) := by omega
            have hmn : (m : Int) - 1 = (n1 : Int) := by omega
            have hnw : IntKind.i64.wrap (n1 : Int) = (n1 : Int) := IntWalk.i64_in _ (by omega)
            have hmi : (if (3 : Int) < (b : Int) then (3 : Int) else (b : Int)) = (b : Int) := by rw [if_neg (by omega)]
            have hmi2 : min (b : Int) 3 = (b : Int) := by omega
            have hbz : (x.bytes.size : Int) = (b : Int) := by rw [HBs.out]
            have hml : L.length ≤ 30 := by have := HML.out; omega
            have hv1 : IntKind.i64.wrap (v - 1) = v - 1 := IntWalk.i64_in _ (by omega)
            have ht0 : (0 : Int) ≤ (t : Int) := by omega
            have ht3i : (t : Int) < 3 := by omega
            have hb0 : (0 : Int) ≤ (b : Int) := by omega
            have hb4 : (b : Int) < 4 := by omega
            have e1 : decide ((t : Int) < 0) = false := decide_eq_false (by omega)
            have e2 : decide ((2 : Int) < (t : Int)) = false := decide_eq_false (by omega)
            have e3 : ((n1 : Int) != (n1 : Int)) = false := by simp
            clear q1 hls1 hnw1 b1 bb hal htb hplc hbd hn1 hgs
            go_upto_region 18 with fail
            go_region
            have hct2 : CtBlk (V1.setCell ⟨g, t * 4 + b, none⟩ (.int .i64 (v - 1))).drew g (cnt r) := by rw [HRS.out]; exact (HCV.out.set (by omega) (v - 1)).drew
            have hls2 : IsLs (V1.setCell ⟨g, t * 4 + b, none⟩ (.int .i64 (v - 1))).drew A1 n1 r := (HL1.out.far HAN.out).drew
            have hbe : Below g V0 (V1.setCell ⟨g, t * 4 + b, none⟩ (.int .i64 (v - 1))).drew := (HBV.out.setCell (p := ⟨g, t * 4 + b, none⟩) (Nat.le_refl _) _).drew
            have H1 := Lib.hid hct2; clear hct2
            have H2 := Lib.hid hls2; clear hls2
            have H3 := Lib.hid hbe; clear hbe
            go_wp2_with fail
            go_roundw
            case rel => exact ⟨j + 1, n1, cap1_, A1, r, _, rfl, by omega, by go_num, rfl, hcap1, H2.out, H1.out, fun y hy => HPQ.out y (HPR.out y hy), HAN.out, H3.out⟩
            case measure => simp [intOf]; omega
        · have hje : j = k := by omega
          subst hje
          obtain rfl : m = 0 := by omega
          obtain rfl : L = [] := List.eq_nil_of_length_eq_zero HML.out.symm
          have q1 := KT.out [] 0 P 0 c2 wq (by decide) hmc HPL.out (by omega)
          rw [show takeL [] 0 = (zeroL, [], false) from rfl] at q1
          go_wp2_with fail
          ((with_reducible refine q1.mono ?_); rintro e W1 ⟨A1, n1, cap1_, rfl, hcap1, hls1, hnw1, b1⟩)
          go_upto_region 21 with fail
          have hal := (Below.refl W1.heap.size W1).alloc (Nat.le_refl _) (.cells #[.int .i64 zeroL.frm, .int .i64 zeroL.to, .string zeroL.bytes] 25)
          obtain ⟨V1, hV⟩ : ∃ W, W1.alloc (.cells #[.int .i64 zeroL.frm, .int .i64 zeroL.to, .string zeroL.bytes] 25) = W := ⟨_, rfl⟩
          rw [hV] at hal ⊢
          clear hV
          have hct := (HCQ.out.below (bch b1 hal))
          have HBE := Lib.hid (HBA.out _ (HBQ.out.trans ((bch b1 hal).mono (Nat.le_of_lt HGW.out))))
          rw [cnt_nil] at hct
          have y0 := hct.cell (j := 0) (by omega)
          have y1 := hct.cell (j := 1) (by omega)
          have y2 := hct.cell (j := 2) (by omega)
          have y3 := hct.cell (j := 3) (by omega)
          have y4 := hct.cell (j := 4) (by omega)
          have y5 := hct.cell (j := 5) (by omega)
          have y6 := hct.cell (j := 6) (by omega)
          have y7 := hct.cell (j := 7) (by omega)
          have y8 := hct.cell (j := 8) (by omega)
          have y9 := hct.cell (j := 9) (by omega)
          have y10 := hct.cell (j := 10) (by omega)
          have y11 := hct.cell (j := 11) (by omega)
          clear q1 hls1 hnw1 b1 hal
          have eqz := eqZ12
          go_wp2_with fail
          go_ret
          exact ⟨rfl, HBE.out⟩
end Go.Proofs.Ytljjbpgbddaekaa
