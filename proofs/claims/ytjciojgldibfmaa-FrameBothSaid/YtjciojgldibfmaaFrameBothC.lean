import Derived.Test.YtjciojgldibfmaaFrAwake
import Derived.BigQuiet
/-
  The walk of the law FrameBoth, over what is asked of the program's Encode, Scan and Right.
-/
namespace Go.Proofs.Ytjciojgldibfmaa
open Go.RowKit
set_option linter.unusedVariables false
set_option linter.unusedSimpArgs false

set_option maxRecDepth 100000 in
set_option maxHeartbeats 8000000 in
theorem frameBoth_core (hE : EncC) (hS : ScanC) (hR : RightC) (A : Option Addr) (n cap : Nat) (f : Nat → Nat → Int) (B : Option Addr) (m cap2 : Nat) (g : Nat → ByteArray) (w : World) (hra : IsRaw w A n 3 f) (hst : IsStrs w B m g) :
    Calls Try.prog 10 #[.slice A n cap, .slice B m cap2] w fun e w' => e = .returned (.bool true) ∧ Below w.heap.size w w' := by
  have HE := Lib.hid hE; clear hE
  have HS := Lib.hid hS; clear hS
  have HR := Lib.hid hR; clear hR
  go_enter Try.func10, Try.ntmps10
  go_wp2_with fail
  ((with_reducible refine (awake6_any HE.out HS.out HR.out _).mono ?_); rintro e W1 ⟨rfl, b1⟩)
  have hb := b1
  clear b1
  go_wp2_with fail
  have p1 := frames_any 1 (by omega) A n cap f B m cap2 g W1 (hra.below hb) (hst.below hb)
  ((with_reducible refine p1.mono ?_); rintro e W2 ⟨A1, n1, cap1, fs, rfl, hc1, hc2, hfr, hni, b2⟩)
  clear p1
  replace hb := bch hb b2
  clear b2
  obtain ⟨hn1, hm1, _, hc⟩ := hfr
  unfold maxLen at hm1
  have HC := Lib.hid hc; clear hc
  have HN := Lib.hid hn1; clear hn1
  have HNI := Lib.hid hni; clear hni
  have HB := Lib.hid hb; clear hb hra hst
  go_wp2_with fail
  go_loopw [7] (fun i wy => ∃ (k : Nat) (wq : World), wq = wy ∧ k ≤ n1 ∧ i = .int .i64 k ∧ Below W2.heap.size W2 wq) (fun i _ => n1 - (intOf i).toNat)
  case atStart => exact ⟨0, _, rfl, by omega, rfl, Below.refl _ _⟩
  case round =>
    obtain ⟨k, wq, rfl, hk, rfl, hbq⟩ := hrel
    by_cases hlt : k < n1
    · obtain ⟨b, off, hA, hbb, hat⟩ := HC.out (by omega)
      subst hA
      have hkl : k < fs.length := by have := HN.out; omega
      obtain ⟨c0, c1, c2⟩ := hat k hkl
      have d0 := (hbq.cell (p := ⟨b, off + k * 3, none⟩) hbb).trans c0
      have d1 := (hbq.cell (p := ⟨b, off + k * 3 + 1, none⟩) hbb).trans c1
      have d2 := (hbq.cell (p := ⟨b, off + k * 3 + 2, none⟩) hbb).trans c2
      clear hat c0 c1 c2
      have hf := HNI.out.2 fs[k] (List.getElem_mem _)
      rw [frm_at hkl] at hf
      clear hkl
      generalize kd fs k = x0 at *
      generalize fl fs k = x1 at *
      generalize da fs k = x2 at *
      obtain ⟨hok, hsz⟩ := hf
      have hok2 := ok_both hok
      have l1 := len_one ⟨x0, x1, x2⟩
      have l2 := len_both hok
      simp only at l1 hsz
      obtain ⟨S, eS⟩ : ∃ S, bs (encF 1 ⟨x0, x1, x2⟩) = S := ⟨_, rfl⟩
      obtain ⟨T, eT⟩ : ∃ S, bs (encF 2 ⟨x0, x1, x2⟩) = S := ⟨_, rfl⟩
      have zS : S.size = x2.size + 8 := by rw [← eS, bs_size]; exact l1
      have zT : T.size ≤ S.size + 1 := by rw [← eS, ← eT, bs_size, bs_size]; exact l2
      have q1 := fun W => HE.out.ok hok eS W
      have q2 := fun W => HE.out.ok hok2 eT W
      have r1 := fun W => HR.out 2 ⟨x0, x1, x2⟩ (by show x2.size ≤ _; omega) W
      rw [hok2] at r1
      try simp only at q1
      try simp only at q2
      try simp only at r1
      have hd : ((S.size : Int)) = (x2.size : Int) + 8 := by omega
      have ht : (T.size : Int) ≤ (S.size : Int) + 1 := by omega
      obtain ⟨s, hs⟩ : ∃ s, S.size = s := ⟨_, rfl⟩
      obtain ⟨t, ht2⟩ : ∃ s, T.size = s := ⟨_, rfl⟩
      obtain ⟨z, hz⟩ : ∃ s, x2.size = s := ⟨_, rfl⟩
      have hsz2 : (z : Int) ≤ 300 := by omega
      have hs2 : (s : Int) ≤ 308 := by omega
      have h81 : (z : Int) + 8 = (s : Int) := by omega
      have h82 : IntKind.i64.wrap ((z : Int) + 8) = (s : Int) := by rw [h81]; exact IntWalk.i64_in _ (by omega)
      have h83 : IntKind.i64.wrap ((s : Int) + 1) = (s : Int) + 1 := IntWalk.i64_in _ (by omega)
      have h84 : (t : Int) ≤ (s : Int) + 1 := by omega
      clear hok hok2 l1 l2 hsz eS eT zS zT hd ht
      have HBQ := Lib.hid hbq; clear hbq
      go_wp2_with fail
      ((with_reducible refine (q1 _).mono ?_); rintro e W3 ⟨rfl, b3⟩)
      have hlb : b < wq.heap.size := Nat.lt_of_lt_of_le hbb HBQ.out.size
      have e0 := (b3.cell (p := ⟨b, off + k * 3, none⟩) hlb).trans d0
      have e1 := (b3.cell (p := ⟨b, off + k * 3 + 1, none⟩) hlb).trans d1
      have e2 := (b3.cell (p := ⟨b, off + k * 3 + 2, none⟩) hlb).trans d2
      have hb3 := bch HBQ.out b3
      have hlb3 : b < W3.heap.size := Nat.lt_of_lt_of_le hlb b3.size
      clear b3 d0 d1 d2 hlb
      have HB3 := Lib.hid hb3; clear hb3 HBQ
      go_wp2_with fail
      ((with_reducible refine (q2 _).mono ?_); rintro e W4 ⟨rfl, b4⟩)
      have d0 := (b4.cell (p := ⟨b, off + k * 3, none⟩) hlb3).trans e0
      have d1 := (b4.cell (p := ⟨b, off + k * 3 + 1, none⟩) hlb3).trans e1
      have d2 := (b4.cell (p := ⟨b, off + k * 3 + 2, none⟩) hlb3).trans e2
      have hb4 := bch HB3.out b4
      have hlb4 : b < W4.heap.size := Nat.lt_of_lt_of_le hlb3 b4.size
      clear b4 e0 e1 e2 hlb3
      have HB4 := Lib.hid hb4; clear hb4 HB3
      go_wp2_with fail
      ((with_reducible refine (r1 _).mono ?_); rintro e W5 ⟨rfl, b5⟩)
      have e2 := (b5.cell (p := ⟨b, off + k * 3 + 2, none⟩) hlb4).trans d2
      have hb5 := bch HB4.out b5
      clear b5 d0 d1 d2 hlb4
      have HB5 := Lib.hid hb5; clear hb5 HB4
      go_wp2_with fail
      go_roundw
      case rel => exact ⟨k + 1, _, rfl, by omega, by go_num, HB5.out⟩
      case measure => simp [intOf]; omega
    · have hlt' : ((k : Int) < (n1 : Int)) = False := by simp; omega
      go_wp2_with fail
      go_ret
      exact ⟨rfl, bch HB.out hbq⟩
end Go.Proofs.Ytjciojgldibfmaa
