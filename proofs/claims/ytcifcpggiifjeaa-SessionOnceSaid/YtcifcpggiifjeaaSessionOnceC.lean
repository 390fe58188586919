import Derived.Test.YtcifcpggiifjeaaSesAwake
import Derived.Test.YtcifcpggiifjeaaSesRefB
import Derived.Deep.RegionLaw
/-
  The walk of the law SessionOnce, over what is asked of the program (stage 10).
-/
namespace Go.Proofs.Ytcifcpggiifjeaa
open Go.RowKit
set_option linter.unusedVariables false
set_option linter.unusedSimpArgs false

def boolsA (f : Nat → Bool) : Array Value := ((List.range 61).map fun n => Value.bool (f n)).toArray
theorem bools_at (f : Nat → Bool) (n : Nat) (h : n < 61) : (boolsA f)[n]? = some (.bool (f n)) := by
  unfold boolsA
  simp [h]
theorem bools_set (f : Nat → Bool) (n : Nat) : (boolsA f).setIfInBounds n (.bool true) = boolsA (fun m => if m = n then true else f m) := by
  unfold boolsA
  apply Array.ext
  · simp
  · intro i h1 h2
    by_cases e : n = i
    · subst e; simp
    · rw [Array.getElem_setIfInBounds_ne (by simpa using h2) (fun h => e h)]
      simp
      intro h
      exact absurd h.symm e
/-- A row of 61 bools. -/
def BlBlk (W : World) (g : Nat) (f : Nat → Bool) : Prop := Blk W g (.cells (boolsA f) 4 (0, 0))
theorem BlBlk.at {W : World} {g : Nat} {f : Nat → Bool} (h : BlBlk W g f) {n : Nat} (hn : n < 61) : W.cell? ⟨g, n, none⟩ = some (.bool (f n)) := (Blk.cell h n).trans (bools_at f n hn)
theorem BlBlk.below {w w' : World} {g : Nat} {f : Nat → Bool} (h : BlBlk w g f) (hb : Below w.heap.size w w') : BlBlk w' g f := Blk.below h hb
theorem BlBlk.far {W : World} {b g : Nat} {f : Nat → Bool} (h : BlBlk W b f) (hne : b ≠ g) (j : Nat) (u : Value) : BlBlk (W.setCell ⟨g, j, none⟩ u) b f := Blk.far h hne j u
theorem BlBlk.frozen {W : World} {g : Nat} {f : Nat → Bool} (h : BlBlk W g f) (j : Nat) : W.frozen? ⟨g, j, none⟩ = false := Blk.frozen h j
theorem BlBlk.put {W : World} {g : Nat} {f : Nat → Bool} (h : BlBlk W g f) (n : Nat) : BlBlk (W.setCell ⟨g, n, none⟩ (.bool true)) g (fun m => if m = n then true else f m) := Blk.set h n (.bool true) _ (bools_set f n).symm
theorem rest_all {s : Sn} (hr : RightS s) {m : Nat} (h : ∀ n ∈ s.ahead, n ≤ s.seen + m) : restS s.ahead s.seen s.seen m = s.ahead := by
  refine rise_ext _ _ (rest_rise _ _ _ _) hr.2.2.1 fun n => ?_
  rw [mem_rest]
  constructor
  · rintro ⟨_, _, h⟩; exact h
  · intro hn
    have := (hr.2.2.2 n hn).1
    exact ⟨⟨by omega, h n hn⟩, by omega, hn⟩
theorem infoB : (Try.prog.info? 4).map (fun i => (i.zero, i.size, i.bytes)) = some (some (.bool false), 1, 1) := by kernel_rfl
theorem made_bools : madeCells (Value.bool false).cells 61 = boolsA (fun _ => false) := by kernel_rfl
theorem make_bools (W : World) : (Instr.makeSlice 37 (.int .i64 61) (.int .i64 61)).run Try.prog W = .ok (.slice (some ⟨W.heap.size, 0, none⟩) 61 61) (W.alloc (.cells (boolsA fun _ => false) 4)) := by
  obtain ⟨i0, hi, hz0, hz1, hz2⟩ := info_parts infoB
  have h := run_makeSlice (P := Try.prog) W 37 4 i0 (.bool false) Try.underlying37 hi hz0 .i64 .i64 61 61 (by omega) (by omega) (by rw [hz1]; decide) (by rw [hz2]; decide) (by omega)
  rw [h, hz1, show ((61 : Int).toNat * 1) = 61 from rfl, made_bools]
  rfl
set_option maxRecDepth 100000 in
set_option maxHeartbeats 8000000 in
theorem sessionOnce_core (kR : RightQ) (kN : NewQ) (kS : StampQ) (kT : TakeQ) (a0 : Option Addr) (len0 cap0 : Nat) (zs : List Int) (w : World) (h0 : IsRow .i64 w a0 len0 cap0 zs) :
    Calls Try.prog 4 #[.slice a0 len0 cap0] w fun e w' => e = .returned (.bool true) ∧ Below w.heap.size w w' := by
  obtain ⟨_, hns0⟩ := h0.isNs
  generalize zs.take len0 = come at *
  clear h0
  have qw := awakeS_any kR kN kS kT
  have qn := kN
  unfold NewQ at qn
  have KR := Lib.hid kR; clear kR
  have KT := Lib.hid kT; clear kT
  clear kN kS
  have hl0 := hns0.2.1
  unfold maxLen at hl0
  have HC := Lib.hid hns0; clear hns0
  go_enter Try.func4, Try.ntmps4
  go_wp2_with fail
  ((with_reducible refine (qw _).mono ?_); rintro e Wa ⟨rfl, ba⟩)
  go_wp2_with fail
  ((with_reducible refine (qn _).mono ?_); rintro e W1 ⟨A1, n1, cap1, rfl, hcap1, hns1, hnew1, b1⟩)
  try simp only [id]
  have hn0 : n1 = 0 := hns1.1
  subst hn0
  clear qw qn
  have HB1 := Lib.hid (bch ba b1); clear ba b1 hns1 hnew1 hcap1
  have hnx : newS.next = 1 := rfl
  have hsn : newS.seen = 0 := rfl
  go_upto_region 3 with fail
  try simp only [hnx, hsn]
  have hm2 : SnBlk (W1.alloc (.cells #[.int .i64 1, .int .i64 0, .slice A1 0 cap1] 24)) W1.heap.size newS (.slice A1 0 cap1) := SnBlk.new W1 newS _
  have hb2 := (Below.refl W1.heap.size W1).alloc (Nat.le_refl _) (.cells #[.int .i64 1, .int .i64 0, .slice A1 0 cap1] 24)
  have hz2 : (W1.alloc (.cells #[.int .i64 1, .int .i64 0, .slice A1 0 cap1] 24)).heap.size = W1.heap.size + 1 := by simp
  obtain ⟨W2, hW2⟩ : ∃ W, W1.alloc (.cells #[.int .i64 1, .int .i64 0, .slice A1 0 cap1] 24) = W := ⟨_, rfl⟩
  rw [hW2] at hm2 hb2 hz2 ⊢
  clear hW2 hnx hsn
  have HB2 := Lib.hid (bch HB1.out hb2); clear hb2
  have hgsw : w.heap.size ≤ W1.heap.size := HB1.out.size
  have HZ2 : Hid (W1.heap.size < W2.heap.size) := by show _ < _; omega
  clear hz2 HB1
  have hmk := make_bools W2
  go_upto_region 4 with fail
  have hf3 : BlBlk (W2.alloc (.cells (boolsA fun _ => false) 4)) W2.heap.size (fun _ => false) := Blk.new W2 _
  have hb3 := (Below.refl W2.heap.size W2).alloc (Nat.le_refl _) (.cells (boolsA fun _ => false) 4)
  obtain ⟨W3, hW3⟩ : ∃ W, W2.alloc (.cells (boolsA fun _ => false) 4) = W := ⟨_, rfl⟩
  rw [hW3] at hf3 hb3
  rw [hW3]
  clear hW3 hmk
  have HV : Hid (SnVar W3 W1.heap.size newS (W2.heap.size + 1)) := ⟨A1, 0, cap1, hm2.below hb3, Nat.zero_le _, isNs_nil _ _, fun h => by omega⟩
  have HF := Lib.hid hf3; clear hf3
  have HB3 := Lib.hid (bch HB2.out hb3); clear hb3 hm2 HB2
  have hgs2 : W1.heap.size < W2.heap.size := HZ2.out
  clear HZ2
  generalize W1.heap.size = gs at *
  generalize W2.heap.size = gr at *
  have hgrw : w.heap.size ≤ gr := by omega
  go_wp2_with fail
  go_loopw [6] (fun i wy => ∃ (k : Nat) (s : Sn) (f : Nat → Bool) (wr : World), wr = wy ∧ k ≤ len0 ∧ k ≤ 80 ∧ i = .int .i64 k ∧ s.next = 1 ∧ SnVar wr gs s (gr + 1) ∧ BlBlk wr gr f ∧ Below w.heap.size w wr ∧ Hid (RightS s ∧ (∀ n, came s n → n ≤ 60) ∧ (∀ n : Nat, 1 ≤ n → n ≤ 60 → (f n = true ↔ came s n)))) (fun i _ => 90 - (intOf i).toNat)
  case atStart =>
    refine ⟨0, newS, fun _ => false, _, rfl, by omega, by omega, rfl, rfl, HV.out, HF.out, HB3.out, new_right, fun n h => ?_, fun n h1 h2 => ?_⟩
    · rcases h with h | h
      · have : newS.seen = 0 := rfl
        omega
      · cases h
    · constructor
      · intro h; cases h
      · rintro (h | h)
        · have : newS.seen = 0 := rfl
          omega
        · cases h
  case round =>
    clear HV HF HB3
    obtain ⟨k, s, f, wr, rfl, hk, hk80, rfl, hnext, ⟨A, n, cap, hm, hcap, hns, hnew⟩, hf, hb, hinv⟩ := hrel
    have hn63 : n ≤ 63 := by rw [hns.1]; exact hinv.out.1.len
    have hgl : gr < wr.heap.size := Blk.lt hf
    have HM := Lib.hid hm; clear hm
    have HB := Lib.hid hb; clear hb
    have HF := Lib.hid hf; clear hf
    by_cases hlt : k < len0
    · by_cases h80 : k < 80
      · obtain ⟨bc, oc, hA, hbc, hc⟩ := HC.out.2.2.2 (by omega)
        subst hA
        have HK : Hid (k < come.length) := by have := HC.out.1; show k < come.length; omega
        have xc := (HB.out.cell (p := ⟨bc, oc + k, none⟩) hbc).trans (hc k HK.out)
        have hzw := ints_at HC.out.2.2.1 HK.out
        clear hc
        generalize come.getD k 0 = z at *
        have hp := pickN_lt z 60 (by omega)
        have qp := fun W => pickN10_nat z 60 (by omega) (by omega) hzw W
        generalize pickN z 60 = p at *
        obtain ⟨q, hpq⟩ : ∃ q, p + 1 = q := ⟨_, rfl⟩
        have hwp : IntKind.i64.wrap (1 + (p : Int)) = (q : Int) := by rw [IntWalk.i64_in _ (by omega)]; omega
        have hwp2 : 1 + (p : Int) = (q : Int) := by omega
        have hwq : IntKind.i64.wrap (q : Int) = (q : Int) := IntWalk.i64_in _ (by omega)
        have hq1 : 1 ≤ q := by omega
        have hq60 : q ≤ 60 := by omega
        clear hpq hp
        have hsb := hinv.out.1.2.1
        have qt := KT.out s A n cap (q : Int) wr hinv.out.1.wf hcap hns (by omega) (wf_within (by omega) (by omega))
        have hiff := hinv.out.2.2 q hq1 hq60
        have HRT := Lib.hid (takeS_right (q : Int) hinv.out.1)
        have HCM := Lib.hid (fun x => takeS_came (q := (q : Int)) hinv.out.1 (by omega) (by omega) (by omega) x)
        have hwt : SnWf (takeS s (q : Int)).1 := HRT.out.1.wf
        have htt : (takeS s (q : Int)).2 = (!(f q), 0) := by
          cases hfp : f q with
          | true => rw [takeS_old hinv.out.1 (by omega) (by omega) (by omega) (hiff.1 hfp)]; rfl
          | false => rw [takeS_new hinv.out.1 (by omega) (by omega) (by omega) (fun h => by rw [hiff.2 h] at hfp; cases hfp)]; rfl
        generalize takeS s (q : Int) = TT at *
        obtain ⟨⟨tn, ts, tl⟩, ti, te⟩ := TT
        simp only [Prod.mk.injEq] at htt
        obtain ⟨hti, hte⟩ := htt
        subst hti hte
        simp only at qt HRT HCM hwt
        have htn : tn = 1 := HRT.out.2.trans hnext
        subst htn
        have HQ61 : Hid (q < 61) := by show q < 61; omega
        have HI := Lib.hid hinv.out.2; clear hinv
        obtain ⟨c0, c1, c2⟩ := HM.out.cells
        rw [hnext] at c0
        have hsn : snV s (.slice A n cap) = .agg #[.int .i64 1, .int .i64 s.seen, .slice A n cap] := by unfold snV; rw [hnext]
        rw [hsn] at qt
        have HNW0 := Lib.hid hnew
        clear hsn hiff hsb hnew hns hcap hzw
        have hbb : ((!(f q)) == f q) = false := by cases f q <;> rfl
        go_wp2_with fail
        ((with_reducible refine (qp _).mono ?_); rintro e W0_ ⟨rfl, rfl⟩)
        clear qp xc
        go_wp2_with fail
        ((with_reducible refine (qt).mono ?_); rintro e V5 ⟨A5, n5, cap5, rfl, hcap5, hns, hnew5, b⟩)
        clear c0 c1 c2
        try simp only at hns
        go_upto_region 9 with fail
        have hal := (Below.refl V5.heap.size V5).alloc (Nat.le_refl _) (.cells #[.int .i64 1, .int .i64 ts, .slice A5 n5 cap5] 24)
        have ht : SnBlk (V5.alloc (.cells #[.int .i64 1, .int .i64 ts, .slice A5 n5 cap5] 24)) V5.heap.size ⟨1, ts, tl⟩ (.slice A5 n5 cap5) := SnBlk.new V5 ⟨1, ts, tl⟩ (.slice A5 n5 cap5)
        obtain ⟨U5, hU⟩ : ∃ W, V5.alloc (.cells #[.int .i64 1, .int .i64 ts, .slice A5 n5 cap5] 24) = W := ⟨_, rfl⟩
        rw [hU] at hal ht ⊢
        clear hU
        have bb := bch b hal
        have HT5 := Lib.hid ht
        have HN5 := Lib.hid (hns.below hal)
        have HG5 : Hid (V5.heap.size < U5.heap.size) := lt_of_blk ht
        have HL5 := Lib.hid b.size
        have HB5 := Lib.hid (bch HB.out bb)
        have HM5 := Lib.hid (HM.out.below bb)
        have HF5 := Lib.hid (HF.out.below bb)
        clear hal b bb ht hns HB HM HF
        have qr := KR.out ⟨1, ts, tl⟩ A5 n5 cap5 U5 hwt hcap5 HN5.out
        rw [rightS_iff.2 HRT.out.1] at qr
        obtain ⟨c0, c1, c2⟩ := HT5.out.cells
        obtain ⟨d0, d1, d2⟩ := HM5.out.cells
        simp only at c0 c1 c2
        rw [hnext] at d0
        have xq := HF5.out.at HQ61.out
        have hq0 : (0 : Int) ≤ (q : Int) := by omega
        have hq61 : (q : Int) < 61 := by omega
        go_wp2_with fail
        ((with_reducible refine qr.mono ?_); rintro e W6 ⟨rfl, b6⟩)
        have HT6 := Lib.hid (HT5.out.below b6)
        have HM6 := Lib.hid (HM5.out.below b6)
        have HF6 := Lib.hid (HF5.out.below b6)
        have HN6 := Lib.hid (HN5.out.below b6)
        have HB6 := Lib.hid (bch HB5.out b6)
        have HNW : Hid (NewN (gr + 1) A5 n5) := hnew5.new (by omega) HNW0.out
        have hgt6 : gr < V5.heap.size := by have := HL5.out; omega
        clear c0 c1 c2 d0 d1 d2 xq b6 qr HT5 HM5 HF5 HN5 HB5 HG5 HL5 hnew5 HNW0
        generalize V5.heap.size = gt at *
        obtain ⟨c0, c1, c2⟩ := HT6.out.cells
        simp only at c0 c1 c2
        obtain ⟨d0, d1, d2⟩ := HM6.out.cells
        rw [hnext] at d0
        have xq := HF6.out.at HQ61.out
        have fq := HF6.out.frozen q
        have f0 := HM6.out.frozen 0
        have f1 := HM6.out.frozen 1
        have f2 := HM6.out.frozen 2
        have HV := Lib.hid (SnVar.put (B := gr + 1) (t := ⟨1, ts, tl⟩) (HM6.out.far (g := gr) (by omega) q (.bool true)) hcap5 (HN6.out.set (g := gr) (j := q) (u := .bool true) HNW.out (by omega)) HNW.out (by omega))
        have HF7 := Lib.hid ((((HF6.out.put q).far (g := gs) (by omega) 0 (.int .i64 1)).far (g := gs) (by omega) 1 (.int .i64 ts)).far (g := gs) (by omega) 2 (.slice A5 n5 cap5))
        have HB7 := Lib.hid ((((HB6.out.setCell (p := ⟨gr, q, none⟩) hgrw (.bool true)).setCell (p := ⟨gs, 0, none⟩) hgsw (.int .i64 1)).setCell (p := ⟨gs, 1, none⟩) hgsw (.int .i64 ts)).setCell (p := ⟨gs, 2, none⟩) hgsw (.slice A5 n5 cap5))
        have hne1 : gt ≠ gr := by omega
        have hne2 : gs ≠ gr := by omega
        have HIN : Hid (RightS ⟨1, ts, tl⟩ ∧ (∀ n, came ⟨1, ts, tl⟩ n → n ≤ 60) ∧ (∀ n : Nat, 1 ≤ n → n ≤ 60 → ((if n = q then true else f n) = true ↔ came ⟨1, ts, tl⟩ n))) := by
          refine ⟨HRT.out.1, fun n h => ?_, fun n h1 h2 => ?_⟩
          · rcases (HCM.out n).1 h with h | h
            · exact HI.out.1 n h
            · omega
          · rw [HCM.out (n : Int), ← HI.out.2 n h1 h2]
            by_cases e : n = q
            · subst e; simp
            · rw [if_neg e]
              constructor
              · exact .inl
              · rintro (h | h)
                · exact h
                · omega
        clear HI HCM HRT HNW HT6 HM6 HF6 HN6 HB6
        go_wp2_with fail
        go_roundw
        case rel => exact ⟨k + 1, ⟨1, ts, tl⟩, fun m => if m = q then true else f m, _, rfl, by omega, by omega, by go_num, rfl, HV.out, HF7.out, HB7.out, HIN⟩
        case measure => simp [intOf]; omega
      · have hke : k = 80 := by omega
        subst hke
        clear h80 hk80
        have hcond : (80 : Int) < (len0 : Int) := by omega
        clear hk hlt
        obtain ⟨sN, hsN⟩ : ∃ sN : Nat, s.seen = (sN : Int) := ⟨s.seen.toNat, by have := hinv.out.1.2.1; omega⟩
        have hs60 : sN ≤ 60 := by have := hinv.out.2.1 s.seen (.inl (Int.le_refl _)); omega
        have HNL : Hid (n = s.ahead.length) := hns.1
        have HALL : Hid (restS s.ahead s.seen s.seen (60 - sN) = s.ahead) := rest_all hinv.out.1 (fun x hx => by have := hinv.out.2.1 x (.inr hx); omega)
        have HUP : Hid (∀ m : Nat, 1 ≤ m → m ≤ sN → f m = true) := fun m h1 h2 => (hinv.out.2.2 m h1 (by omega)).2 (.inl (by omega))
        have HNX : Hid (sN + 1 ≤ 60 → f (sN + 1) = false) := fun h => by
          cases e : f (sN + 1) with
          | false => rfl
          | true =>
            rcases (hinv.out.2.2 (sN + 1) (by omega) h).1 e with h2 | h2
            · omega
            · have := (hinv.out.1.2.2.2 _ h2).1; omega
        have HSN : Hid (∀ N : Nat, sN < N → N ≤ 60 → (restS s.ahead s.seen s.seen (N + 1 - 1 - sN)).length = (restS s.ahead s.seen s.seen (N - 1 - sN)).length + (if f N = true then 1 else 0)) := fun N h1 h2 => by
          rw [show N + 1 - 1 - sN = N - 1 - sN + 1 by omega, rest_snoc, List.length_append]
          have e : s.seen + 1 + ((N - 1 - sN : Nat) : Int) = (N : Int) := by omega
          rw [e]
          have h3 := hinv.out.2.2 N (by omega) h2
          congr 1
          by_cases hf : f N = true
          · rw [if_pos hf]
            rcases h3.1 hf with h4 | h4
            · omega
            · rw [if_pos ⟨by omega, h4⟩]; rfl
          · rw [if_neg hf, if_neg (fun h => hf (h3.2 (.inr h.2)))]; rfl
        obtain ⟨c0, c1, c2⟩ := HM.out.cells
        rw [hnext] at c0
        rw [hsN] at c1
        have H0 : Hid ((restS s.ahead s.seen s.seen (sN + 1 - 1 - sN)).length = 0) := by
          show _ = _
          rw [rest_none (by omega)]; rfl
        have HSE := Lib.hid hsN; clear hsN
        have HRS : Hid (∀ m, (restS s.ahead s.seen s.seen m).length ≤ m) := fun m => by
          unfold restS
          refine Nat.le_trans (List.length_filter_le _ _) ?_
          rw [List.length_map, List.length_range]; exact Nat.le_refl _
        obtain ⟨cnt, hcnt⟩ : ∃ c : Nat → Nat, c = fun m => (restS s.ahead s.seen s.seen m).length := ⟨_, rfl⟩
        have HCN : Hid (∀ m, (restS s.ahead s.seen s.seen m).length = cnt m) := fun m => by rw [hcnt]
        clear hcnt hinv hns hnew hcap
        go_wp2_with fail
        go_loopw [11] (fun i wx => ∃ m : Nat, 1 ≤ m ∧ m ≤ 61 ∧ i = .int .i64 m ∧ wx = wr) (fun i _ => 70 - (intOf i).toNat)
        case atStart => exact ⟨1, by omega, by omega, rfl, rfl⟩
        case round =>
          obtain ⟨m, hm1, hm61, rfl, rfl⟩ := hrel
          by_cases hm : m ≤ 60
          · have xm := HF.out.at (n := m) (by omega)
            have hmi : (m : Int) ≤ 60 := by omega
            have hm0 : (0 : Int) ≤ (m : Int) := by omega
            have hm6 : (m : Int) < 61 := by omega
            by_cases h1 : m ≤ sN
            · rw [HUP.out m hm1 h1] at xm
              have h1i : (m : Int) ≤ (sN : Int) := by omega
              have h2i : ((m : Int) == (sN : Int) + 1) = false := by simp; omega
              go_wp2_with fail
              go_roundw
              case rel => exact ⟨m + 1, by omega, by omega, by go_num, by first | trivial | rfl⟩
              case measure => simp [intOf]; omega
            · have h1i : (sN : Int) < (m : Int) := by omega
              have h1d : decide ((m : Int) ≤ (sN : Int)) = false := decide_eq_false (by omega)
              by_cases h2 : m = sN + 1
              · have hb := HNX.out (by omega)
                rw [← h2] at hb
                rw [hb] at xm
                have h2i : ((m : Int) == (sN : Int) + 1) = true := by simp; omega
                clear hb h2
                go_wp2_with fail
                go_roundw
                case rel => exact ⟨m + 1, by omega, by omega, by go_num, by first | trivial | rfl⟩
                case measure => simp [intOf]; omega
              · have h2i : ((m : Int) == (sN : Int) + 1) = false := by simp; omega
                clear h2
                go_wp2_with fail
                go_roundw
                case rel => exact ⟨m + 1, by omega, by omega, by go_num, by first | trivial | rfl⟩
                case measure => simp [intOf]; omega
          · have hm2 : m = 61 := by omega
            subst hm2
            clear hm
            go_wp2_with fail
            go_loopw [12, 13] (fun a i wx => ∃ N : Nat, sN < N ∧ N ≤ 61 ∧ i = .int .i64 N ∧ a = .int .i64 (cnt (N - 1 - sN)) ∧ wx = wr) (fun _ i _ => 70 - (intOf i).toNat)
            case atStart =>
              refine ⟨sN + 1, by omega, by omega, by go_num, ?_, rfl⟩
              rw [← HCN.out, H0.out]; rfl
            case round =>
              obtain ⟨N, hN1, hN61, rfl, rfl, rfl⟩ := hrel
              by_cases hN : N ≤ 60
              · have xN := HF.out.at (n := N) (by omega)
                have hNi : (N : Int) ≤ 60 := by omega
                have hN0 : (0 : Int) ≤ (N : Int) := by omega
                have hN6 : (N : Int) < 61 := by omega
                have hsn := HSN.out N hN1 hN
                rw [HCN.out, HCN.out] at hsn
                have hcb : cnt (N - 1 - sN) ≤ 61 := by rw [← HCN.out]; have := HRS.out (N - 1 - sN); omega
                have HNB := Lib.hid (show N + 1 - 1 - sN = N + 1 - 1 - sN from rfl)
                cases hf : f N with
                | true =>
                  rw [hf] at xN hsn
                  have HSS := Lib.hid hsn; clear hsn
                  clear hf
                  generalize cnt (N - 1 - sN) = c at *
                  go_wp2_with fail
                  go_roundw
                  case rel => exact ⟨N + 1, by omega, by omega, by go_num, by rw [HSS.out]; go_num, by first | trivial | rfl⟩
                  case measure => simp [intOf]; omega
                | false =>
                  rw [hf] at xN hsn
                  have HSS := Lib.hid hsn; clear hsn
                  clear hf
                  generalize cnt (N - 1 - sN) = c at *
                  go_wp2_with fail
                  go_roundw
                  case rel => exact ⟨N + 1, by omega, by omega, by go_num, by rw [HSS.out]; simp, by first | trivial | rfl⟩
                  case measure => simp [intOf]; omega
              · have hNe : N = 61 := by omega
                subst hNe
                have hc : cnt (61 - 1 - sN) = n := by rw [← HCN.out, HNL.out, show 61 - 1 - sN = 60 - sN by omega, HALL.out]
                rw [hc]
                clear hN hc
                go_wp2_with fail
                go_ret
                exact ⟨rfl, HB.out⟩
    · have hke : k = len0 := by omega
      subst hke
      clear hk hlt
      obtain ⟨sN, hsN⟩ : ∃ sN : Nat, s.seen = (sN : Int) := ⟨s.seen.toNat, by have := hinv.out.1.2.1; omega⟩
      have hs60 : sN ≤ 60 := by have := hinv.out.2.1 s.seen (.inl (Int.le_refl _)); omega
      have HNL : Hid (n = s.ahead.length) := hns.1
      have HALL : Hid (restS s.ahead s.seen s.seen (60 - sN) = s.ahead) := rest_all hinv.out.1 (fun x hx => by have := hinv.out.2.1 x (.inr hx); omega)
      have HUP : Hid (∀ m : Nat, 1 ≤ m → m ≤ sN → f m = true) := fun m h1 h2 => (hinv.out.2.2 m h1 (by omega)).2 (.inl (by omega))
      have HNX : Hid (sN + 1 ≤ 60 → f (sN + 1) = false) := fun h => by
        cases e : f (sN + 1) with
        | false => rfl
        | true =>
          rcases (hinv.out.2.2 (sN + 1) (by omega) h).1 e with h2 | h2
          · omega
          · have := (hinv.out.1.2.2.2 _ h2).1; omega
      have HSN : Hid (∀ N : Nat, sN < N → N ≤ 60 → (restS s.ahead s.seen s.seen (N + 1 - 1 - sN)).length = (restS s.ahead s.seen s.seen (N - 1 - sN)).length + (if f N = true then 1 else 0)) := fun N h1 h2 => by
        rw [show N + 1 - 1 - sN = N - 1 - sN + 1 by omega, rest_snoc, List.length_append]
        have e : s.seen + 1 + ((N - 1 - sN : Nat) : Int) = (N : Int) := by omega
        rw [e]
        have h3 := hinv.out.2.2 N (by omega) h2
        congr 1
        by_cases hf : f N = true
        · rw [if_pos hf]
          rcases h3.1 hf with h4 | h4
          · omega
          · rw [if_pos ⟨by omega, h4⟩]; rfl
        · rw [if_neg hf, if_neg (fun h => hf (h3.2 (.inr h.2)))]; rfl
      obtain ⟨c0, c1, c2⟩ := HM.out.cells
      rw [hnext] at c0
      rw [hsN] at c1
      have H0 : Hid ((restS s.ahead s.seen s.seen (sN + 1 - 1 - sN)).length = 0) := by
        show _ = _
        rw [rest_none (by omega)]; rfl
      have HSE := Lib.hid hsN; clear hsN
      have HRS : Hid (∀ m, (restS s.ahead s.seen s.seen m).length ≤ m) := fun m => by
        unfold restS
        refine Nat.le_trans (List.length_filter_le _ _) ?_
        rw [List.length_map, List.length_range]; exact Nat.le_refl _
      obtain ⟨cnt, hcnt⟩ : ∃ c : Nat → Nat, c = fun m => (restS s.ahead s.seen s.seen m).length := ⟨_, rfl⟩
      have HCN : Hid (∀ m, (restS s.ahead s.seen s.seen m).length = cnt m) := fun m => by rw [hcnt]
      clear hcnt hinv hns hnew hcap
      go_wp2_with fail
      go_loopw [11] (fun i wx => ∃ m : Nat, 1 ≤ m ∧ m ≤ 61 ∧ i = .int .i64 m ∧ wx = wr) (fun i _ => 70 - (intOf i).toNat)
      case atStart => exact ⟨1, by omega, by omega, rfl, rfl⟩
      case round =>
        obtain ⟨m, hm1, hm61, rfl, rfl⟩ := hrel
        by_cases hm : m ≤ 60
        · have xm := HF.out.at (n := m) (by omega)
          have hmi : (m : Int) ≤ 60 := by omega
          have hm0 : (0 : Int) ≤ (m : Int) := by omega
          have hm6 : (m : Int) < 61 := by omega
          by_cases h1 : m ≤ sN
          · rw [HUP.out m hm1 h1] at xm
            have h1i : (m : Int) ≤ (sN : Int) := by omega
            have h2i : ((m : Int) == (sN : Int) + 1) = false := by simp; omega
            go_wp2_with fail
            go_roundw
            case rel => exact ⟨m + 1, by omega, by omega, by go_num, by first | trivial | rfl⟩
            case measure => simp [intOf]; omega
          · have h1i : (sN : Int) < (m : Int) := by omega
            have h1d : decide ((m : Int) ≤ (sN : Int)) = false := decide_eq_false (by omega)
            by_cases h2 : m = sN + 1
            · have hb := HNX.out (by omega)
              rw [← h2] at hb
              rw [hb] at xm
              have h2i : ((m : Int) == (sN : Int) + 1) = true := by simp; omega
              clear hb h2
              go_wp2_with fail
              go_roundw
              case rel => exact ⟨m + 1, by omega, by omega, by go_num, by first | trivial | rfl⟩
              case measure => simp [intOf]; omega
            · have h2i : ((m : Int) == (sN : Int) + 1) = false := by simp; omega
              clear h2
              go_wp2_with fail
              go_roundw
              case rel => exact ⟨m + 1, by omega, by omega, by go_num, by first | trivial | rfl⟩
              case measure => simp [intOf]; omega
        · have hm2 : m = 61 := by omega
          subst hm2
          clear hm
          go_wp2_with fail
          go_loopw [12, 13] (fun a i wx => ∃ N : Nat, sN < N ∧ N ≤ 61 ∧ i = .int .i64 N ∧ a = .int .i64 (cnt (N - 1 - sN)) ∧ wx = wr) (fun _ i _ => 70 - (intOf i).toNat)
          case atStart =>
            refine ⟨sN + 1, by omega, by omega, by go_num, ?_, rfl⟩
            rw [← HCN.out, H0.out]; rfl
          case round =>
            obtain ⟨N, hN1, hN61, rfl, rfl, rfl⟩ := hrel
            by_cases hN : N ≤ 60
            · have xN := HF.out.at (n := N) (by omega)
              have hNi : (N : Int) ≤ 60 := by omega
              have hN0 : (0 : Int) ≤ (N : Int) := by omega
              have hN6 : (N : Int) < 61 := by omega
              have hsn := HSN.out N hN1 hN
              rw [HCN.out, HCN.out] at hsn
              have hcb : cnt (N - 1 - sN) ≤ 61 := by rw [← HCN.out]; have := HRS.out (N - 1 - sN); omega
              have HNB := Lib.hid (show N + 1 - 1 - sN = N + 1 - 1 - sN from rfl)
              cases hf : f N with
              | true =>
                rw [hf] at xN hsn
                have HSS := Lib.hid hsn; clear hsn
                clear hf
                generalize cnt (N - 1 - sN) = c at *
                go_wp2_with fail
                go_roundw
                case rel => exact ⟨N + 1, by omega, by omega, by go_num, by rw [HSS.out]; go_num, by first | trivial | rfl⟩
                case measure => simp [intOf]; omega
              | false =>
                rw [hf] at xN hsn
                have HSS := Lib.hid hsn; clear hsn
                clear hf
                generalize cnt (N - 1 - sN) = c at *
                go_wp2_with fail
                go_roundw
                case rel => exact ⟨N + 1, by omega, by omega, by go_num, by rw [HSS.out]; simp, by first | trivial | rfl⟩
                case measure => simp [intOf]; omega
            · have hNe : N = 61 := by omega
              subst hNe
              have hc : cnt (61 - 1 - sN) = n := by rw [← HCN.out, HNL.out, show 61 - 1 - sN = 60 - sN by omega, HALL.out]
              rw [hc]
              clear hN hc
              go_wp2_with fail
              go_ret
              exact ⟨rfl, HB.out⟩
end Go.Proofs.Ytcifcpggiifjeaa
