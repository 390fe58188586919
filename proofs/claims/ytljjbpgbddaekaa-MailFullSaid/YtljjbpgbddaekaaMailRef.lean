import Derived.Test.YtljjbpgbddaekaaMail
/-
  The contracts of the document's own functions of mail (stage 11).
-/
namespace Go.Proofs.Ytljjbpgbddaekaa
open Go.RowKit
set_option linter.unusedVariables false

set_option maxRecDepth 100000 in
set_option maxHeartbeats 4000000 in
theorem refthere_any (A : Option Addr) (n cap : Nat) (l : List Lt) (i : Int) (w : World) (hn : n = l.length) (hm : n ≤ 9223372036854775807) :
    Calls Try.prog 26 #[.slice A n cap, .int .i64 i] w fun e w' => e = .returned (.bool (thereL l i)) ∧ w = w' := by
  have HN := Lib.hid hn; clear hn
  by_cases h0 : 0 ≤ i
  · by_cases h1 : i < (n : Int)
    · have E : Hid (thereL l i = true) := thereL_iff.2 ⟨h0, by have := HN.out; omega⟩
      go_enter Try.func26, Try.ntmps26
      go_wp2_with fail
      go_ret
      exact ⟨ret_bool E.out.symm, rfl⟩
    · have E : Hid (thereL l i = false) := thereL_no (fun h => by have := HN.out; omega)
      go_enter Try.func26, Try.ntmps26
      go_wp2_with fail
      go_ret
      exact ⟨ret_bool E.out.symm, rfl⟩
  · have E : Hid (thereL l i = false) := thereL_no (fun h => by omega)
    go_enter Try.func26, Try.ntmps26
    go_wp2_with fail
    go_ret
    exact ⟨ret_bool E.out.symm, rfl⟩

set_option maxRecDepth 100000 in
set_option maxHeartbeats 4000000 in
theorem refpost_any (l : List Lt) (m : Lt) (A : Option Addr) (n cap : Nat) (w : World) (hm : LtWf m) (h : IsLs w A n l) (h32 : n * 32 ≤ 140737488351232) :
    Calls Try.prog 12 #[.slice A n cap, ltV m] w (LsPost w (postL l m).1 fun v => .tuple #[v, .int .i64 (postL l m).2]) := by
  obtain ⟨R, hR⟩ : ∃ R, postL l m = R := ⟨_, rfl⟩
  rw [hR]
  unfold postL at hR
  have hbx := LtBlk.new w m
  have hb0 : Below w.heap.size w (w.alloc (.cells #[.int .i64 m.frm, .int .i64 m.to, .string m.bytes] 25)) := (Below.refl _ _).alloc (Nat.le_refl _) _
  obtain ⟨W0, hW0⟩ : ∃ W, w.alloc (.cells #[.int .i64 m.frm, .int .i64 m.to, .string m.bytes] 25) = W := ⟨_, rfl⟩
  rw [hW0] at hbx hb0
  have HBX := Lib.hid hbx; clear hbx
  have HBW := Lib.hid hb0; clear hb0
  have HL := Lib.hid (h.below HBW.out)
  have HN : Hid (n = l.length) := h.1
  clear h
  go_enter Try.func12, Try.ntmps12
  go_wp2_with (at_builtin; refine wpList_append_lets rfl _ _ rfl W0.heap.size _ [] rfl (rowL_nil W0 _) A n cap l rfl HL.out (by simp; omega) (Nat.le_refl _) ?_)
  intro v3 W3 hrow3 hgrow3
  obtain ⟨A3, cap3, hv3, hcap3, hls3⟩ := hrow3.isLs HL.out.2.2.1
  subst hv3
  have hb3 : Below W0.heap.size W0 W3 := below_grownL hgrow3 (fun g hg => by cases hg)
  have HBW3 := Lib.hid (bch HBW.out hb3)
  have hnw3 : NewN w.heap.size A3 l.length := hrow3.new.mono HBW.out.size
  clear hW0
  have HBX3 := Lib.hid (HBX.out.below hb3)
  have hl3 : l.length = n := HN.out.symm
  by_cases h200 : 200 ≤ n
  · rw [if_pos (by omega)] at hR
    have HR := Lib.hid hR.symm
    have h2i : (200 : Int) ≤ (n : Int) := by omega
    clear hR hgrow3 hrow3 hb3
    rw [hl3] at hls3 hcap3 hnw3 ⊢
    clear hl3
    have HLS := Lib.hid hls3; clear hls3
    go_wp2_with fail
    go_ret2
    exact ⟨A3, n, cap3, by rw [HR.out]; rfl, hcap3, by rw [HR.out]; exact HLS.out, hnw3, HBW3.out⟩
  · rw [if_neg (by omega)] at hR
    have HR := Lib.hid hR.symm
    have h2i : (n : Int) < 200 := by omega
    have hb3a : Below W3.heap.size W3 (W3.alloc (.cells #[.int .i64 m.frm, .int .i64 m.to, .string m.bytes] 25)) := (Below.refl _ _).alloc (Nat.le_refl _) _
    have hone := isLs_one W3 m hm
    have hrowa := hrow3.below hb3a
    have hsa : W0.heap.size ≤ (W3.alloc (.cells #[.int .i64 m.frm, .int .i64 m.to, .string m.bytes] 25)).heap.size := by have := hb3.size; simp; omega
    have HBa := Lib.hid (bch HBW3.out hb3a)
    have HWF := Lib.hid (HL.out.2.2.1.append (LtsWf.one hm))
    obtain ⟨c0, c1, c2⟩ := HBX3.out.cells
    have hs0 : w.heap.size ≤ W0.heap.size := HBW.out.size
    have HLN := Lib.hid hl3
    clear hR hgrow3 hrow3 hb3 hls3 hcap3 hnw3 hb3a hl3
    go_wp2_with (at_builtin; refine wpList_append_lets rfl _ _ rfl W0.heap.size _ l rfl hrowa (some ⟨W3.heap.size, 0, none⟩) 1 1 [m] rfl hone (by have := HLN.out; omega) hsa ?_)
    intro v4 W4 hrow4 hgrow4
    have hlt4 := hrowa.lt
    obtain ⟨A4, cap4, hv4, hcap4, hls4⟩ := hrow4.isLs HWF.out
    subst hv4
    have hb4 : Below w.heap.size w W4 := HBa.out.grown hgrow4 HBa.out.size (fun g hg => by have := (hlt4 g hg).1; omega)
    have HLS := Lib.hid hls4; clear hls4
    have HNW := Lib.hid (hrow4.new.mono hs0)
    clear hrow4 hgrow4 hlt4 hrowa hone c0 c1 c2
    go_wp2_with fail
    go_ret2
    exact ⟨A4, _, cap4, by rw [HR.out]; rfl, hcap4, by rw [HR.out]; exact HLS.out, HNW.out, hb4⟩

set_option maxRecDepth 100000 in
set_option maxHeartbeats 4000000 in
theorem refcopy_any (l : List Lt) (i : Int) (A : Option Addr) (n cap : Nat) (w : World) (hi : (Lit.int .i64 i).wf = true) (h : IsLs w A n l) (h32 : n * 32 ≤ 140737488351232) :
    Calls Try.prog 16 #[.slice A n cap, .int .i64 i] w (LsPost w (copyL l i).1 fun v => .tuple #[v, .int .i64 (copyL l i).2]) := by
  obtain ⟨R, hR⟩ : ∃ R, copyL l i = R := ⟨_, rfl⟩
  rw [hR]
  unfold copyL at hR
  have hnm := h.2.1
  unfold maxLen at hnm
  have q := refthere_any A n cap l i w h.1 (by omega)
  have HL := Lib.hid h
  have HN : Hid (n = l.length) := h.1
  have HBW := Lib.hid (Below.refl w.heap.size w)
  clear h
  cases ht : thereL l i with
  | false =>
    rw [if_neg (by rw [ht]; simp)] at hR
    have HR := Lib.hid hR.symm
    rw [ht] at q
    clear hR ht
    go_enter Try.func16, Try.ntmps16
    go_wp2_with fail
    ((with_reducible refine q.mono ?_); rintro e W_ ⟨rfl, rfl⟩)
    go_wp2_with (at_builtin; refine wpList_append_lets rfl _ _ rfl w.heap.size _ [] rfl (rowL_nil w _) A n cap l rfl HL.out (by simp; omega) (Nat.le_refl _) ?_)
    intro v3 W3 hrow3 hgrow3
    obtain ⟨A3, cap3, hv3, hcap3, hls3⟩ := hrow3.isLs HL.out.2.2.1
    subst hv3
    have hb3 : Below w.heap.size w W3 := below_grownL hgrow3 (fun g hg => by cases hg)
    have HBW3 := Lib.hid (bch HBW.out hb3)
    have hnw3 : NewN w.heap.size A3 l.length := hrow3.new.mono HBW.out.size
    have hl3 : l.length = n := HN.out.symm
    rw [hl3] at hls3 hcap3 hnw3 ⊢
    clear hl3 hgrow3 hrow3 hb3 q
    have HLS := Lib.hid hls3; clear hls3
    go_wp2_with fail
    go_ret2
    exact ⟨A3, n, cap3, by rw [HR.out]; rfl, hcap3, by rw [HR.out]; exact HLS.out, hnw3, HBW3.out⟩
  | true =>
    rw [if_pos ht] at hR
    have hti := thereL_iff.1 ht
    obtain ⟨j, rfl⟩ : ∃ j : Nat, i = (j : Int) := ⟨i.toNat, by omega⟩
    rw [show ((j : Int)).toNat = j from rfl] at hR
    have HJ : Hid (j < l.length) := by show j < l.length; omega
    have hjn : j < n := by have := HN.out; omega
    obtain ⟨b, off, hA, hb, hc⟩ := HL.out.2.2.2 (by omega)
    subst hA
    obtain ⟨x0, x1, x2⟩ := hc j HJ.out
    have qp := refpost_any l (atL l j) (some ⟨b, off, none⟩) n cap w (HL.out.2.2.1.at HJ.out) HL.out h32
    rw [hR] at qp
    rw [ht] at q
    clear hc ht hti hR
    generalize atL l j = m at *
    have hj0 : (0 : Int) ≤ (j : Int) := by omega
    have hj1 : (j : Int) < (n : Int) := by omega
    go_enter Try.func16, Try.ntmps16
    go_wp2_with fail
    ((with_reducible refine q.mono ?_); rintro e W_ ⟨rfl, rfl⟩)
    go_wp2_with fail
    ((with_reducible refine qp.mono ?_); rintro e W4 ⟨A4, n4, cap4, rfl, hcap4, hls4, hnw4, b4⟩)
    have HLS := Lib.hid hls4; clear hls4
    go_wp2_with fail
    go_ret2
    exact ⟨A4, n4, cap4, rfl, hcap4, HLS.out, hnw4, b4⟩
end Go.Proofs.Ytljjbpgbddaekaa
