import Derived.Test.YtjciojgldibfmaaFrAwake
import Derived.BigQuiet
/-
  The walk of the law FrameOther, over what is asked of the program's Encode, Scan and Right.
-/
namespace Go.Proofs.Ytjciojgldibfmaa
open Go.RowKit
set_option linter.unusedVariables false
set_option linter.unusedSimpArgs false

set_option maxRecDepth 100000 in
set_option maxHeartbeats 8000000 in
theorem frameOther_core (hE : EncC) (hS : ScanC) (hR : RightC) (A : Option Addr) (n cap : Nat) (f : Nat → Nat → Int) (B : Option Addr) (m cap2 : Nat) (g : Nat → ByteArray) (w : World) (hra : IsRaw w A n 3 f) (hst : IsStrs w B m g) :
    Calls Try.prog 7 #[.slice A n cap, .slice B m cap2] w fun e w' => e = .returned (.bool true) ∧ Below w.heap.size w w' := by
  have HE := Lib.hid hE; clear hE
  have HS := Lib.hid hS; clear hS
  have HR := Lib.hid hR; clear hR
  go_enter Try.func7, Try.ntmps7
  go_wp2_with fail
  ((with_reducible refine (awake6_any HE.out HS.out HR.out _).mono ?_); rintro e W1 ⟨rfl, b1⟩)
  have hb := b1
  clear b1
  go_wp2_with fail
  go_loopw [6] (fun v wy => ∃ (j : Int) (wq : World), wq = wy ∧ (j = 1 ∨ j = 2 ∨ j = 3) ∧ v = .int .i64 j ∧ Below w.heap.size w wq) (fun v _ => 3 - (intOf v).toNat)
  case atStart => exact ⟨1, _, rfl, .inl rfl, rfl, hb⟩
  case round =>
    clear hb
    obtain ⟨j, wq, rfl, hj, rfl, hb⟩ := hrel
    rcases hj with rfl | rfl | rfl
    · have dummy := 0
      have p1 := frames_any 1 (by omega) A n cap f B m cap2 g wq (hra.below hb) (hst.below hb)
      go_wp2_with fail
      ((with_reducible refine p1.mono ?_); rintro e W2 ⟨A1, n1, cap1, fs, rfl, hc1, hc2, hfr, hni, b2⟩)
      clear p1
      replace hb := bch hb b2
      clear b2
      have hlen := hni.len
      obtain ⟨S, eS⟩ : ∃ S, bs (encFs 1 fs) = S := ⟨_, rfl⟩
      have zS : S.size = (encFs 1 fs).length := by rw [← eS, bs_size]
      have dS : S.data.toList = encFs 1 fs := by rw [← eS, bs_data]
      have p2 := bytes6_any HE.out 1 A1 n1 cap1 fs W2 hfr hni.ok (by omega)
      rw [eS] at p2
      have p3 := fun W => HS.out 2 S (by omega) W
      have hsc : scanV 2 S.data.toList = ([], 0, if fs = [] then 0 else 22) := by
        unfold scanV; rw [if_pos (by omega), dS]
        have := scan_other (v := 1) (by omega) fs
        exact this
      rw [hsc] at p3
      have hem : (fs = [] ∧ S = ⟨#[]⟩) ∨ (fs ≠ [] ∧ S.toList.isEmpty = false) := by
        have e : ∀ X : ByteArray, X.toList = X.data.toList := fun X => by rw [bs_of X, bs_toList]; simp [bs]
        by_cases h : fs = []
        · exact .inl ⟨h, by rw [← eS, h]; rfl⟩
        · right
          have hne : encFs 1 fs ≠ [] := by
            cases fs with
            | nil => exact absurd rfl h
            | cons a l => intro h2; have h9 := congrArg List.length h2; rw [encFs_cons, List.length_append, List.length_nil] at h9; have := enc_pos 1 a; omega
          exact ⟨h, by rw [e S, dS]; simpa using hne⟩
      clear eS dS hsc hlen hni zS hfr
      rcases hem with ⟨rfl, rfl⟩ | ⟨hne, hm1⟩
      · try simp only [if_true] at p3
        go_wp2_with fail
        ((with_reducible refine p2.mono ?_); rintro e W3 ⟨rfl, b3⟩)
        replace hb := bch hb b3
        clear b3 p2
        go_wp2_with fail
        ((with_reducible refine (p3 _).mono ?_); rintro e W4 ⟨A2, n2, cap3, rfl, hc3, hc4, hfr2, b4⟩)
        obtain rfl : n2 = 0 := hfr2.1
        replace hb := bch hb b4
        clear b4 p3 hfr2
        go_wp2_with fail
        go_roundw
        case rel => exact ⟨2, _, rfl, by omega, rfl, hb⟩
        case measure => simp [intOf]
      · rw [if_neg hne] at p3
        clear hne
        go_wp2_with fail
        ((with_reducible refine p2.mono ?_); rintro e W3 ⟨rfl, b3⟩)
        replace hb := bch hb b3
        clear b3 p2
        go_wp2_with fail
        ((with_reducible refine (p3 _).mono ?_); rintro e W4 ⟨A2, n2, cap3, rfl, hc3, hc4, hfr2, b4⟩)
        obtain rfl : n2 = 0 := hfr2.1
        replace hb := bch hb b4
        clear b4 p3 hfr2
        go_wp2_with fail
        go_roundw
        case rel => exact ⟨2, _, rfl, by omega, rfl, hb⟩
        case measure => simp [intOf]
    · have dummy := 0
      have p1 := frames_any 2 (by omega) A n cap f B m cap2 g wq (hra.below hb) (hst.below hb)
      go_wp2_with fail
      ((with_reducible refine p1.mono ?_); rintro e W2 ⟨A1, n1, cap1, fs, rfl, hc1, hc2, hfr, hni, b2⟩)
      clear p1
      replace hb := bch hb b2
      clear b2
      have hlen := hni.len
      obtain ⟨S, eS⟩ : ∃ S, bs (encFs 2 fs) = S := ⟨_, rfl⟩
      have zS : S.size = (encFs 2 fs).length := by rw [← eS, bs_size]
      have dS : S.data.toList = encFs 2 fs := by rw [← eS, bs_data]
      have p2 := bytes6_any HE.out 2 A1 n1 cap1 fs W2 hfr hni.ok (by omega)
      rw [eS] at p2
      have p3 := fun W => HS.out 1 S (by omega) W
      have hsc : scanV 1 S.data.toList = ([], 0, if fs = [] then 0 else 22) := by
        unfold scanV; rw [if_pos (by omega), dS]
        have := scan_other (v := 2) (by omega) fs
        exact this
      rw [hsc] at p3
      have hem : (fs = [] ∧ S = ⟨#[]⟩) ∨ (fs ≠ [] ∧ S.toList.isEmpty = false) := by
        have e : ∀ X : ByteArray, X.toList = X.data.toList := fun X => by rw [bs_of X, bs_toList]; simp [bs]
        by_cases h : fs = []
        · exact .inl ⟨h, by rw [← eS, h]; rfl⟩
        · right
          have hne : encFs 2 fs ≠ [] := by
            cases fs with
            | nil => exact absurd rfl h
            | cons a l => intro h2; have h9 := congrArg List.length h2; rw [encFs_cons, List.length_append, List.length_nil] at h9; have := enc_pos 2 a; omega
          exact ⟨h, by rw [e S, dS]; simpa using hne⟩
      clear eS dS hsc hlen hni zS hfr
      rcases hem with ⟨rfl, rfl⟩ | ⟨hne, hm1⟩
      · try simp only [if_true] at p3
        go_wp2_with fail
        ((with_reducible refine p2.mono ?_); rintro e W3 ⟨rfl, b3⟩)
        replace hb := bch hb b3
        clear b3 p2
        go_wp2_with fail
        ((with_reducible refine (p3 _).mono ?_); rintro e W4 ⟨A2, n2, cap3, rfl, hc3, hc4, hfr2, b4⟩)
        obtain rfl : n2 = 0 := hfr2.1
        replace hb := bch hb b4
        clear b4 p3 hfr2
        go_wp2_with fail
        go_roundw
        case rel => exact ⟨3, _, rfl, by omega, rfl, hb⟩
        case measure => simp [intOf]
      · rw [if_neg hne] at p3
        clear hne
        go_wp2_with fail
        ((with_reducible refine p2.mono ?_); rintro e W3 ⟨rfl, b3⟩)
        replace hb := bch hb b3
        clear b3 p2
        go_wp2_with fail
        ((with_reducible refine (p3 _).mono ?_); rintro e W4 ⟨A2, n2, cap3, rfl, hc3, hc4, hfr2, b4⟩)
        obtain rfl : n2 = 0 := hfr2.1
        replace hb := bch hb b4
        clear b4 p3 hfr2
        go_wp2_with fail
        go_roundw
        case rel => exact ⟨3, _, rfl, by omega, rfl, hb⟩
        case measure => simp [intOf]
    · go_wp2_with fail
      go_ret
      exact ⟨rfl, hb⟩
end Go.Proofs.Ytjciojgldibfmaa
