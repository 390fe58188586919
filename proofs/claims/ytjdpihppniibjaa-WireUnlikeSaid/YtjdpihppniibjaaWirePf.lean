import Derived.Test.YtjdpihppniibjaaWirePe
/-
  The contract of the program's own Decode of messages (stage 8).
-/
namespace Go.Proofs.Ytjdpihppniibjaa
open Go.RowKit
set_option linter.unusedVariables false

theorem fields_six {m : Mg} (h : m.trace = 0) : ∀ f ∈ fieldsM m, f.1 ≤ 5 := by
  intro f hf
  rw [fieldsM_parts] at hf
  unfold parts6 at hf
  simp only [List.mem_append, mem_opt, List.not_mem_nil, or_false] at hf
  rcases hf with ⟨e, t⟩ | ⟨e, t⟩ | ⟨e, t⟩ | ⟨e, t⟩ | ⟨e, t⟩ | ⟨e, t⟩
  · omega
  · omega
  · omega
  · omega
  · omega
  · rw [h] at e
    have := ob_some e
    have h0 := numD_zero.2 (rfl : (0 : Int) = 0)
    rw [← this.1] at *
    omega
theorem allP_W {v : Int} (hv : v = 1 ∨ v = 2) {fs : List Fld} (hr : rightB fs = true) (h : allP v fs = true) : allW fs = true := by
  rw [allW_iff]
  intro f hf
  have h1 : okP v f.1 f.2 = true := List.all_eq_true.1 h f hf
  unfold okP at h1
  rw [Bool.and_eq_true] at h1
  obtain ⟨h2, h3⟩ := h1
  have h2 := of_decide_eq_true h2
  have hl : lastTg v ≤ 6 := by rcases hv with rfl | rfl <;> decide
  rw [okW_iff]
  by_cases h5 : f.1 = 5
  · rw [if_pos h5] at h3
    exact ⟨of_decide_eq_true h3, .inl h5, by omega⟩
  · rw [if_neg h5] at h3
    have h4 : 0 < wholeN f.2.data.toList := of_decide_eq_true h3
    refine ⟨?_, .inr h4, by omega⟩
    rcases Nat.eq_zero_or_pos f.2.size with h0 | h0
    · have hl : f.2.data.toList = [] := List.eq_nil_of_length_eq_zero (by simpa using h0)
      rw [hl, whole_nil] at h4
      omega
    · exact h0
theorem allP_bad {v : Int} (hv : v = 1 ∨ v = 2) {fs : List Fld} (hr : rightB fs = true) (h : allP v fs = false) : allW fs = false ∨ rightM v (accM fs) = false := by
  cases hw : allW fs with
  | false => exact .inl rfl
  | true =>
    right
    rw [Bool.eq_false_iff]
    intro hm
    have hm := rightM_iff.1 hm
    have hfs := fields_of hr hw
    have : allP v fs = true := by
      unfold allP
      rw [List.all_eq_true]
      intro f hf
      obtain ⟨h1, h2, h3⟩ := okW_iff.1 (allW_iff.1 hw f hf)
      have hl : f.1 ≤ lastTg v := by
        rcases hv with rfl | rfl
        · have ht : (accM fs).trace = 0 := by have := hm.1; omega
          rw [← hfs] at hf
          exact fields_six ht f hf
        · exact h3
      unfold okP
      rw [decide_eq_true hl]
      by_cases h5 : f.1 = 5
      · rw [if_pos h5, decide_eq_true h1]; rfl
      · rw [if_neg h5]
        have : 0 < wholeN f.2.data.toList := by rcases h2 with h | h; exact absurd h h5; exact h
        unfold numOk
        rw [decide_eq_true this]; rfl
    rw [this] at h
    cases h
theorem acc_num {fs : List Fld} (hr : rightB fs = true) : ∀ k, k ≤ fs.length → ((0 ≤ (accM (fs.take k)).kind ∧ (accM (fs.take k)).kind ≤ 9007199254740992) ∧ (0 ≤ (accM (fs.take k)).frm ∧ (accM (fs.take k)).frm ≤ 9007199254740992) ∧ (0 ≤ (accM (fs.take k)).to ∧ (accM (fs.take k)).to ≤ 9007199254740992) ∧ (0 ≤ (accM (fs.take k)).seq ∧ (accM (fs.take k)).seq ≤ 9007199254740992) ∧ (0 ≤ (accM (fs.take k)).trace ∧ (accM (fs.take k)).trace ≤ 9007199254740992)) ∧ (accM (fs.take k)).body.size ≤ 1000 := by
  intro k
  induction k with
  | zero => intro _; rw [List.take_zero]; exact ⟨by decide, by decide⟩
  | succ k ih =>
    intro hk
    obtain ⟨h1, h2⟩ := ih (by omega)
    have hp := tag_pos hr (k := k) (by omega)
    rw [accM_take (by omega)]
    have hw := wholeN_le (dt fs k).data.toList
    unfold setM
    split
    · exact ⟨⟨⟨by simp only; omega, by simp only; omega⟩, h1.2⟩, h2⟩
    · split
      · exact ⟨⟨h1.1, ⟨by simp only; omega, by simp only; omega⟩, h1.2.2⟩, h2⟩
      · split
        · exact ⟨⟨h1.1, h1.2.1, ⟨by simp only; omega, by simp only; omega⟩, h1.2.2.2⟩, h2⟩
        · split
          · exact ⟨⟨h1.1, h1.2.1, h1.2.2.1, ⟨by simp only; omega, by simp only; omega⟩, h1.2.2.2.2⟩, h2⟩
          · split
            · exact ⟨h1, hp.2⟩
            · exact ⟨⟨h1.1, h1.2.1, h1.2.2.1, h1.2.2.2.1, ⟨by simp only; omega, by simp only; omega⟩⟩, h2⟩
theorem acc_okW {fs : List Fld} (hr : rightB fs = true) : WfM (accM fs) ∧ (accM fs).body.size ≤ 1000 := by
  have h := acc_num hr fs.length (Nat.le_refl _)
  rw [List.take_length] at h
  exact ⟨⟨wf_small h.1.1.1 h.1.1.2, wf_small h.1.2.1.1 h.1.2.1.2, wf_small h.1.2.2.1.1 h.1.2.2.1.2, wf_small h.1.2.2.2.1.1 h.1.2.2.2.1.2, wf_small h.1.2.2.2.2.1 h.1.2.2.2.2.2⟩, h.2⟩

set_option maxRecDepth 100000 in
set_option maxHeartbeats 8000000 in
theorem decC : DecW := by
  intro s hs w
  obtain ⟨R, hR⟩ : ∃ R, wD s.data.toList = R := ⟨_, rfl⟩
  rw [hR]
  have hb0 : Below w.heap.size w (w.alloc (.cells #[.int .i64 0, .int .i64 0, .int .i64 0, .int .i64 0, .string ⟨#[]⟩, .int .i64 0] 23)) := (Below.refl _ _).alloc (Nat.le_refl _) _
  have hx0 := MgBlk.new w zeroM
  obtain ⟨W0, hW0⟩ : ∃ W, w.alloc (.cells #[.int .i64 0, .int .i64 0, .int .i64 0, .int .i64 0, .string ⟨#[]⟩, .int .i64 0] 23) = W := ⟨_, rfl⟩
  have hx1 : MgBlk W0 w.heap.size zeroM := by rw [← hW0]; exact hx0
  rw [hW0] at hb0
  have HB0 := Lib.hid hb0; clear hb0 hx0
  have HX := Lib.hid hx1; clear hx1
  by_cases h0 : s.size = 0
  · have e0 := (tl_size s).2 h0
    have hl : s.data.toList = [] := List.eq_nil_of_length_eq_zero (by simpa using h0)
    rw [hl, wD_empty] at hR
    have HR := Lib.hid hR.symm
    clear hR hl h0
    have hbx := Below.refl W0.heap.size W0
    go_enter Try.func15, Try.ntmps15
    have hxe := HX.out.below hbx
    obtain ⟨d0, d1, d2, d3, d4, d5⟩ := hxe.cells
    simp only [zeroM, bemp] at d0 d1 d2 d3 d4 d5
    have f0 := hxe.frozen 0
    have f1 := hxe.frozen 1
    have f2 := hxe.frozen 2
    have f3 := hxe.frozen 3
    have f4 := hxe.frozen 4
    have f5 := hxe.frozen 5
    have HXE := Lib.hid hxe; clear hxe
    have HBE := Lib.hid (bch HB0.out hbx); clear hbx
    go_wp2_with fail
    have hfin := HXE.out.put zeroM
    obtain ⟨e0, e1, e2, e3, e4, e5⟩ := hfin.cells
    try simp only [zeroM, bemp] at e0 e1 e2 e3 e4 e5
    have hbf := below_msg6 HBE.out (Nat.le_refl _) zeroM
    try simp only [zeroM, bemp] at hbf
    refine bodyPost_ret (v := .tuple #[.int .i64 0, .agg #[.int .i64 0, .int .i64 0, .int .i64 0, .int .i64 0, .string ⟨#[]⟩, .int .i64 0], .int .i64 22]) (by simp [results, Try.results15, go_sem, e0, e1, e2, e3, e4, e5]) rfl ⟨by rw [HR.out]; rfl, hbf⟩
  have hpos : 0 < s.size := by omega
  have e0 := tl_ne0 h0
  have j0 : (0 : Int) < (s.size : Int) := by omega
  have hcons := wD_cons hpos
  rw [hcons] at hR
  obtain ⟨c, hc⟩ : ∃ c, s[0].toNat = c := ⟨_, rfl⟩
  have hcb : c < 256 := by rw [← hc]; exact s[0].toNat_lt
  by_cases hA : c ≠ 1 ∧ c ≠ 2
  · rw [wD_first (by rw [hc]; exact hA)] at hR
    have HR := Lib.hid hR.symm
    have qL := lastTag_any (c : Int)
    rw [show lastTg (c : Int) = 0 by unfold lastTg; rw [if_neg (by omega), if_neg (by omega)]] at qL
    clear hR hcons hA h0
    have hbx := Below.refl W0.heap.size W0
    go_enter Try.func15, Try.ntmps15
    go_wp2_with fail
    ((with_reducible refine (qL _).mono ?_); rintro e0 W0_ ⟨rfl, rfl⟩)
    have hxe := HX.out.below hbx
    obtain ⟨d0, d1, d2, d3, d4, d5⟩ := hxe.cells
    simp only [zeroM, bemp] at d0 d1 d2 d3 d4 d5
    have f0 := hxe.frozen 0
    have f1 := hxe.frozen 1
    have f2 := hxe.frozen 2
    have f3 := hxe.frozen 3
    have f4 := hxe.frozen 4
    have f5 := hxe.frozen 5
    have HXE := Lib.hid hxe; clear hxe
    have HBE := Lib.hid (bch HB0.out hbx); clear hbx
    go_wp2_with fail
    have hfin := HXE.out.put zeroM
    obtain ⟨e0, e1, e2, e3, e4, e5⟩ := hfin.cells
    try simp only [zeroM, bemp] at e0 e1 e2 e3 e4 e5
    have hbf := below_msg6 HBE.out (Nat.le_refl _) zeroM
    try simp only [zeroM, bemp] at hbf
    refine bodyPost_ret (v := .tuple #[.int .i64 0, .agg #[.int .i64 0, .int .i64 0, .int .i64 0, .int .i64 0, .string ⟨#[]⟩, .int .i64 0], .int .i64 22]) (by simp [results, Try.results15, go_sem, e0, e1, e2, e3, e4, e5]) rfl ⟨by rw [HR.out]; rfl, hbf⟩
  have hc12 : c = 1 ∨ c = 2 := by omega
  have zT : (s.extract 1 s.size).size ≤ 281474976710656 := by rw [ByteArray.size_extract]; omega
  have q := fun W => decode_any (s.extract 1 s.size) zT W
  rw [dropB] at q
  unfold DecPost at q
  have hRE := wD_err (b := s[0]) (r := s.data.toList.drop 1) (by omega)
  have hRB := wD_bad (b := s[0]) (r := s.data.toList.drop 1) (by omega)
  have hRG := wD_good (b := s[0]) (r := s.data.toList.drop 1) (by omega)
  have hok : (decR (s.data.toList.drop 1)).2 = 0 → _ := fun h => dec_ok (l := s.data.toList.drop 1) (fs := (decR (s.data.toList.drop 1)).1) (by rw [← h])
  rw [hc] at hRB hRG
  generalize decR (s.data.toList.drop 1) = dd at *
  obtain ⟨fs, e⟩ := dd
  simp only at hRE hRB hRG hok q
  clear zT hcons hA h0 hcb
  rcases hc12 with rfl | rfl
  · skip
    simp only [show ((1 : Nat) : Int) = 1 from rfl] at hRB hRG
    have qL := lastTag_any 1
    rw [show lastTg 1 = 5 from rfl] at qL
    by_cases he : e ≠ 0
    · have HR : Hid (R = (0, zeroM, e)) := by show _ = _; rw [← hR]; exact hRE he
      have he1 : ((e : Int) != 0) = true := by simp; omega
      have he2 : ((e : Int) == 0) = false := by simp; omega
      clear hR hRE hRB hRG hok he
      go_enter Try.func15, Try.ntmps15
      go_wp2_with fail
      ((with_reducible refine (qL _).mono ?_); rintro e0 W0_ ⟨rfl, rfl⟩)
      go_wp2_with fail
      ((with_reducible refine (q _).mono ?_); rintro e1 W1 ⟨A, n, cap, rfl, hcap, hfs, b1⟩)
      have hbx := b1
      have hxe := HX.out.below hbx
      obtain ⟨d0, d1, d2, d3, d4, d5⟩ := hxe.cells
      simp only [zeroM, bemp] at d0 d1 d2 d3 d4 d5
      have f0 := hxe.frozen 0
      have f1 := hxe.frozen 1
      have f2 := hxe.frozen 2
      have f3 := hxe.frozen 3
      have f4 := hxe.frozen 4
      have f5 := hxe.frozen 5
      have HXE := Lib.hid hxe; clear hxe
      have HBE := Lib.hid (bch HB0.out hbx); clear hbx
      go_wp2_with fail
      have hfin := HXE.out.put zeroM
      obtain ⟨e0, e1, e2, e3, e4, e5⟩ := hfin.cells
      try simp only [zeroM, bemp] at e0 e1 e2 e3 e4 e5
      have hbf := below_msg6 HBE.out (Nat.le_refl _) zeroM
      try simp only [zeroM, bemp] at hbf
      refine bodyPost_ret (v := .tuple #[.int .i64 0, .agg #[.int .i64 0, .int .i64 0, .int .i64 0, .int .i64 0, .string ⟨#[]⟩, .int .i64 0], .int .i64 e]) (by simp [results, Try.results15, go_sem, e0, e1, e2, e3, e4, e5]) rfl ⟨by rw [HR.out]; rfl, hbf⟩
    have he0 : e = 0 := by omega
    subst he0
    have HRR := Lib.hid hR; clear hR
    have HRB := Lib.hid (hRB rfl); clear hRB
    have HRG := Lib.hid (hRG rfl); clear hRG
    have hrb := (hok rfl).2.2
    clear hok hRE he
    have hq := fun (A : Option Addr) (n cap : Nat) (W : World) (h : IsFs W A n fs) => messageOf_any 1 (by decide) A n cap fs W h hrb
    unfold MofPost mgV at hq
    have hbad1 : allP 1 fs = false → R = (0, zeroM, 21) := fun h => HRR.out.symm.trans (HRB.out (allP_bad (by decide) hrb h))
    have hbad2 : rightM 1 (accM fs) = false → R = (0, zeroM, 21) := fun h => HRR.out.symm.trans (HRB.out (.inr h))
    have hgood : allP 1 fs = true → rightM 1 (accM fs) = true → R = (1, accM fs, 0) := fun h1 h2 => HRR.out.symm.trans (HRG.out (allP_W (by decide) hrb h1) h2)
    obtain ⟨hwf, hbd⟩ := acc_okW hrb
    have q9 := fun W => rightC 1 (accM fs) (by decide) hwf (by omega) W
    unfold mgV at q9
    clear hwf hbd hrb HRB HRG HRR
    generalize accM fs = M at *
    generalize allP 1 fs = ok at *
    generalize rightM 1 M = rt at *
    cases ok with
    | false =>
      have HR := Lib.hid (hbad1 rfl)
      clear hbad1 hbad2 hgood q9
      simp only [Bool.false_eq_true, if_false, zeroM, bemp] at hq
      go_enter Try.func15, Try.ntmps15
      go_wp2_with fail
      ((with_reducible refine (qL _).mono ?_); rintro e0 W0_ ⟨rfl, rfl⟩)
      go_wp2_with fail
      ((with_reducible refine (q _).mono ?_); rintro e1 W1 ⟨A, n, cap, rfl, hcap, hfs, b1⟩)
      have HB1 := Lib.hid b1; clear b1
      go_wp2_with fail
      ((with_reducible refine (hq A n cap _ hfs).mono ?_); rintro e2 W2 ⟨rfl, b2⟩)
      have HB2 := Lib.hid (bch HB1.out b2); clear b2
      go_upto_region 8 with fail
      have hm0 : MgBlk (W2.alloc (.cells #[.int .i64 0, .int .i64 0, .int .i64 0, .int .i64 0, .string ⟨#[]⟩, .int .i64 0] 23)) W2.heap.size zeroM := MgBlk.new W2 zeroM
      have hbv : Below W2.heap.size W2 (W2.alloc (.cells #[.int .i64 0, .int .i64 0, .int .i64 0, .int .i64 0, .string ⟨#[]⟩, .int .i64 0] 23)) := (Below.refl _ _).alloc (Nat.le_refl _) _
      obtain ⟨V1, hV1⟩ : ∃ W, W2.alloc (.cells #[.int .i64 0, .int .i64 0, .int .i64 0, .int .i64 0, .string ⟨#[]⟩, .int .i64 0] 23) = W := ⟨_, rfl⟩
      rw [hV1] at hm0 hbv
      rw [hV1]
      clear hV1
      have hby := bch HB2.out hbv
      clear hbv
      clear hm0
      have hxe := HX.out.below hby
      obtain ⟨d0, d1, d2, d3, d4, d5⟩ := hxe.cells
      simp only [zeroM, bemp] at d0 d1 d2 d3 d4 d5
      have f0 := hxe.frozen 0
      have f1 := hxe.frozen 1
      have f2 := hxe.frozen 2
      have f3 := hxe.frozen 3
      have f4 := hxe.frozen 4
      have f5 := hxe.frozen 5
      have HXE := Lib.hid hxe; clear hxe
      have HBE := Lib.hid (bch HB0.out hby); clear hby
      go_wp2_with fail
      have hfin := HXE.out.put zeroM
      obtain ⟨e0, e1, e2, e3, e4, e5⟩ := hfin.cells
      try simp only [zeroM, bemp] at e0 e1 e2 e3 e4 e5
      have hbf := below_msg6 HBE.out (Nat.le_refl _) zeroM
      try simp only [zeroM, bemp] at hbf
      refine bodyPost_ret (v := .tuple #[.int .i64 0, .agg #[.int .i64 0, .int .i64 0, .int .i64 0, .int .i64 0, .string ⟨#[]⟩, .int .i64 0], .int .i64 21]) (by simp [results, Try.results15, go_sem, e0, e1, e2, e3, e4, e5]) rfl ⟨by rw [HR.out]; rfl, hbf⟩
    | true =>
      simp only [if_true] at hq
      cases rt with
      | false =>
        have HR := Lib.hid (hbad2 rfl)
        clear hbad1 hbad2 hgood
        go_enter Try.func15, Try.ntmps15
        go_wp2_with fail
        ((with_reducible refine (qL _).mono ?_); rintro e0 W0_ ⟨rfl, rfl⟩)
        go_wp2_with fail
        ((with_reducible refine (q _).mono ?_); rintro e1 W1 ⟨A, n, cap, rfl, hcap, hfs, b1⟩)
        have HB1 := Lib.hid b1; clear b1
        go_wp2_with fail
        ((with_reducible refine (hq A n cap _ hfs).mono ?_); rintro e2 W2 ⟨rfl, b2⟩)
        have HB2 := Lib.hid (bch HB1.out b2); clear b2
        go_upto_region 8 with fail
        have hm0 : MgBlk (W2.alloc (.cells #[.int .i64 M.kind, .int .i64 M.frm, .int .i64 M.to, .int .i64 M.seq, .string M.body, .int .i64 M.trace] 23)) W2.heap.size M := MgBlk.new W2 M
        have hbv : Below W2.heap.size W2 (W2.alloc (.cells #[.int .i64 M.kind, .int .i64 M.frm, .int .i64 M.to, .int .i64 M.seq, .string M.body, .int .i64 M.trace] 23)) := (Below.refl _ _).alloc (Nat.le_refl _) _
        obtain ⟨V1, hV1⟩ : ∃ W, W2.alloc (.cells #[.int .i64 M.kind, .int .i64 M.frm, .int .i64 M.to, .int .i64 M.seq, .string M.body, .int .i64 M.trace] 23) = W := ⟨_, rfl⟩
        rw [hV1] at hm0 hbv
        rw [hV1]
        clear hV1
        have hby := bch HB2.out hbv
        clear hbv
        obtain ⟨x0, x1, x2, x3, x4, x5⟩ := hm0.cells
        go_wp2_with fail
        ((with_reducible refine (q9 _).mono ?_); rintro e9 W9 ⟨rfl, bq⟩)
        have hbz := bch hby bq
        clear x0 x1 x2 x3 x4 x5 hm0 bq hby
        have hxe := HX.out.below hbz
        obtain ⟨d0, d1, d2, d3, d4, d5⟩ := hxe.cells
        simp only [zeroM, bemp] at d0 d1 d2 d3 d4 d5
        have f0 := hxe.frozen 0
        have f1 := hxe.frozen 1
        have f2 := hxe.frozen 2
        have f3 := hxe.frozen 3
        have f4 := hxe.frozen 4
        have f5 := hxe.frozen 5
        have HXE := Lib.hid hxe; clear hxe
        have HBE := Lib.hid (bch HB0.out hbz); clear hbz
        go_wp2_with fail
        have hfin := HXE.out.put zeroM
        obtain ⟨e0, e1, e2, e3, e4, e5⟩ := hfin.cells
        try simp only [zeroM, bemp] at e0 e1 e2 e3 e4 e5
        have hbf := below_msg6 HBE.out (Nat.le_refl _) zeroM
        try simp only [zeroM, bemp] at hbf
        refine bodyPost_ret (v := .tuple #[.int .i64 0, .agg #[.int .i64 0, .int .i64 0, .int .i64 0, .int .i64 0, .string ⟨#[]⟩, .int .i64 0], .int .i64 21]) (by simp [results, Try.results15, go_sem, e0, e1, e2, e3, e4, e5]) rfl ⟨by rw [HR.out]; rfl, hbf⟩
      | true =>
        have HR := Lib.hid (hgood rfl rfl)
        clear hbad1 hbad2 hgood
        go_enter Try.func15, Try.ntmps15
        go_wp2_with fail
        ((with_reducible refine (qL _).mono ?_); rintro e0 W0_ ⟨rfl, rfl⟩)
        go_wp2_with fail
        ((with_reducible refine (q _).mono ?_); rintro e1 W1 ⟨A, n, cap, rfl, hcap, hfs, b1⟩)
        have HB1 := Lib.hid b1; clear b1
        go_wp2_with fail
        ((with_reducible refine (hq A n cap _ hfs).mono ?_); rintro e2 W2 ⟨rfl, b2⟩)
        have HB2 := Lib.hid (bch HB1.out b2); clear b2
        go_upto_region 8 with fail
        have hm0 : MgBlk (W2.alloc (.cells #[.int .i64 M.kind, .int .i64 M.frm, .int .i64 M.to, .int .i64 M.seq, .string M.body, .int .i64 M.trace] 23)) W2.heap.size M := MgBlk.new W2 M
        have hbv : Below W2.heap.size W2 (W2.alloc (.cells #[.int .i64 M.kind, .int .i64 M.frm, .int .i64 M.to, .int .i64 M.seq, .string M.body, .int .i64 M.trace] 23)) := (Below.refl _ _).alloc (Nat.le_refl _) _
        obtain ⟨V1, hV1⟩ : ∃ W, W2.alloc (.cells #[.int .i64 M.kind, .int .i64 M.frm, .int .i64 M.to, .int .i64 M.seq, .string M.body, .int .i64 M.trace] 23) = W := ⟨_, rfl⟩
        rw [hV1] at hm0 hbv
        rw [hV1]
        clear hV1
        have hby := bch HB2.out hbv
        clear hbv
        obtain ⟨x0, x1, x2, x3, x4, x5⟩ := hm0.cells
        have HMV := Lib.hid hm0; clear hm0
        have HBY := Lib.hid hby; clear hby
        go_wp2_with fail
        ((with_reducible refine (q9 _).mono ?_); rintro e9 W9 ⟨rfl, bq⟩)
        have HMM := Lib.hid (HMV.out.below bq)
        have hby := bch HBY.out bq
        clear x0 x1 x2 x3 x4 x5 HMV bq
        have hne : W2.heap.size ≠ w.heap.size := by have h1 := lt_of_blk HX.out; have h2 := HB2.out.size; omega
        have HNE := Lib.hid hne; clear hne
        go_wp2_with fail
        refine wp_region_noPanic ?_
        refine wp_region_held_drew (S := fun W => MgBlk W W2.heap.size M ∧ Below w.heap.size w W) (by kernel_rfl) (⟨HMM.out.drew, (bch HB0.out hby).drew⟩) (fun hHeld => ?_)
        have hxe := (HX.out.below hby).drew
        obtain ⟨W10, hW10⟩ : ∃ W, W9.drew = W := ⟨_, rfl⟩
        rw [hW10] at hHeld hxe ⊢
        clear hW10
        refine wpAnyH_take (i := 0) (v := ?_) rfl (by kernel_rfl) (by kernel_rfl) (by kernel_rfl) (fun _ _ _ h => h) (Or.inl ⟨by rfl, ?_⟩) (by assumption) ?_
        rotate_left
        · (intro w hSw; (try dsimp only at hSw); go_simp; (try with_reducible rfl))
        simp only [Act.put, List.getElem_toArray, List.getElem_cons_zero, List.setIfInBounds_toArray, List.set_cons_zero, List.set_cons_succ]
        refine wpAnyH_take (i := 1) (v := ?_) rfl (by kernel_rfl) (by kernel_rfl) (by kernel_rfl) (fun _ _ _ h => h) (Or.inl ⟨by rfl, ?_⟩) (by assumption) ?_
        rotate_left
        · (intro w hSw; (try dsimp only at hSw); obtain ⟨x0, x1, x2, x3, x4, x5⟩ := hSw.1.cells; go_simp; (try with_reducible rfl))
        simp only [Act.put, List.getElem_toArray, List.getElem_cons_zero, List.getElem_cons_succ, List.setIfInBounds_toArray, List.set_cons_zero, List.set_cons_succ]
        refine wpAnyH_take (i := 2) (v := ?_) rfl (by kernel_rfl) (by kernel_rfl) (by kernel_rfl) (fun _ _ _ h => h) (Or.inl ⟨by rfl, ?_⟩) (by assumption) ?_
        rotate_left
        · (intro w hSw; (try dsimp only at hSw); go_simp; (try with_reducible rfl))
        simp only [Act.put, List.getElem_toArray, List.getElem_cons_zero, List.getElem_cons_succ, List.setIfInBounds_toArray, List.set_cons_zero, List.set_cons_succ]
        obtain ⟨d0, d1, d2, d3, d4, d5⟩ := hxe.cells
        have f0 := hxe.frozen 0
        have f1 := hxe.frozen 1
        have f2 := hxe.frozen 2
        have f3 := hxe.frozen 3
        have f4 := hxe.frozen 4
        have f5 := hxe.frozen 5
        have HXE := Lib.hid hxe; clear hxe
        refine wpAnyH_ready (rs := [3]) (by kernel_rfl) (by simp) ?_
        refine AllReadyH.cons rfl (fun K hK => ?_) AllReadyH.nil
        rw [if_pos (by rfl)]
        go_simp
        refine hK.out _ _ (⟨(((((hHeld.1.far HNE.out _ _).far HNE.out _ _).far HNE.out _ _).far HNE.out _ _).far HNE.out _ _).far HNE.out _ _, below_msg6 hHeld.2 (Nat.le_refl _) M⟩) (fun hHeld2 => ?_)
        clear hK K hHeld
        have hHeld := hHeld2; clear hHeld2
        refine wpAnyH_take (i := 4) (v := ?_) rfl (by kernel_rfl) (by kernel_rfl) (by kernel_rfl) (fun _ _ _ h => h) (Or.inl ⟨by rfl, ?_⟩) (by assumption) ?_
        rotate_left
        · (intro w hSw; (try dsimp only at hSw); go_simp; (try with_reducible rfl))
        simp only [Act.put, List.getElem_toArray, List.getElem_cons_zero, List.getElem_cons_succ, List.setIfInBounds_toArray, List.set_cons_zero, List.set_cons_succ]
        refine wpAnyH_done (by kernel_rfl) ?_ _
        refine NoPanic.normal ?_
        have hfin := HXE.out.put M
        obtain ⟨e0, e1, e2, e3, e4, e5⟩ := hfin.cells
        have hbf := hHeld.2
        clear d0 d1 d2 d3 d4 d5 hHeld
        go_wp2_with fail
        refine bodyPost_ret (v := .tuple #[.int .i64 1, .agg #[.int .i64 M.kind, .int .i64 M.frm, .int .i64 M.to, .int .i64 M.seq, .string M.body, .int .i64 M.trace], .int .i64 0]) (by simp [results, Try.results15, go_sem, e0, e1, e2, e3, e4, e5]) rfl ⟨by rw [HR.out]; rfl, hbf⟩
  · skip
    simp only [show ((2 : Nat) : Int) = 2 from rfl] at hRB hRG
    have qL := lastTag_any 2
    rw [show lastTg 2 = 6 from rfl] at qL
    by_cases he : e ≠ 0
    · have HR : Hid (R = (0, zeroM, e)) := by show _ = _; rw [← hR]; exact hRE he
      have he1 : ((e : Int) != 0) = true := by simp; omega
      have he2 : ((e : Int) == 0) = false := by simp; omega
      clear hR hRE hRB hRG hok he
      go_enter Try.func15, Try.ntmps15
      go_wp2_with fail
      ((with_reducible refine (qL _).mono ?_); rintro e0 W0_ ⟨rfl, rfl⟩)
      go_wp2_with fail
      ((with_reducible refine (q _).mono ?_); rintro e1 W1 ⟨A, n, cap, rfl, hcap, hfs, b1⟩)
      have hbx := b1
      have hxe := HX.out.below hbx
      obtain ⟨d0, d1, d2, d3, d4, d5⟩ := hxe.cells
      simp only [zeroM, bemp] at d0 d1 d2 d3 d4 d5
      have f0 := hxe.frozen 0
      have f1 := hxe.frozen 1
      have f2 := hxe.frozen 2
      have f3 := hxe.frozen 3
      have f4 := hxe.frozen 4
      have f5 := hxe.frozen 5
      have HXE := Lib.hid hxe; clear hxe
      have HBE := Lib.hid (bch HB0.out hbx); clear hbx
      go_wp2_with fail
      have hfin := HXE.out.put zeroM
      obtain ⟨e0, e1, e2, e3, e4, e5⟩ := hfin.cells
      try simp only [zeroM, bemp] at e0 e1 e2 e3 e4 e5
      have hbf := below_msg6 HBE.out (Nat.le_refl _) zeroM
      try simp only [zeroM, bemp] at hbf
      refine bodyPost_ret (v := .tuple #[.int .i64 0, .agg #[.int .i64 0, .int .i64 0, .int .i64 0, .int .i64 0, .string ⟨#[]⟩, .int .i64 0], .int .i64 e]) (by simp [results, Try.results15, go_sem, e0, e1, e2, e3, e4, e5]) rfl ⟨by rw [HR.out]; rfl, hbf⟩
    have he0 : e = 0 := by omega
    subst he0
    have HRR := Lib.hid hR; clear hR
    have HRB := Lib.hid (hRB rfl); clear hRB
    have HRG := Lib.hid (hRG rfl); clear hRG
    have hrb := (hok rfl).2.2
    clear hok hRE he
    have hq := fun (A : Option Addr) (n cap : Nat) (W : World) (h : IsFs W A n fs) => messageOf_any 2 (by decide) A n cap fs W h hrb
    unfold MofPost mgV at hq
    have hbad1 : allP 2 fs = false → R = (0, zeroM, 21) := fun h => HRR.out.symm.trans (HRB.out (allP_bad (by decide) hrb h))
    have hbad2 : rightM 2 (accM fs) = false → R = (0, zeroM, 21) := fun h => HRR.out.symm.trans (HRB.out (.inr h))
    have hgood : allP 2 fs = true → rightM 2 (accM fs) = true → R = (2, accM fs, 0) := fun h1 h2 => HRR.out.symm.trans (HRG.out (allP_W (by decide) hrb h1) h2)
    obtain ⟨hwf, hbd⟩ := acc_okW hrb
    have q9 := fun W => rightC 2 (accM fs) (by decide) hwf (by omega) W
    unfold mgV at q9
    clear hwf hbd hrb HRB HRG HRR
    generalize accM fs = M at *
    generalize allP 2 fs = ok at *
    generalize rightM 2 M = rt at *
    cases ok with
    | false =>
      have HR := Lib.hid (hbad1 rfl)
      clear hbad1 hbad2 hgood q9
      simp only [Bool.false_eq_true, if_false, zeroM, bemp] at hq
      go_enter Try.func15, Try.ntmps15
      go_wp2_with fail
      ((with_reducible refine (qL _).mono ?_); rintro e0 W0_ ⟨rfl, rfl⟩)
      go_wp2_with fail
      ((with_reducible refine (q _).mono ?_); rintro e1 W1 ⟨A, n, cap, rfl, hcap, hfs, b1⟩)
      have HB1 := Lib.hid b1; clear b1
      go_wp2_with fail
      ((with_reducible refine (hq A n cap _ hfs).mono ?_); rintro e2 W2 ⟨rfl, b2⟩)
      have HB2 := Lib.hid (bch HB1.out b2); clear b2
      go_upto_region 8 with fail
      have hm0 : MgBlk (W2.alloc (.cells #[.int .i64 0, .int .i64 0, .int .i64 0, .int .i64 0, .string ⟨#[]⟩, .int .i64 0] 23)) W2.heap.size zeroM := MgBlk.new W2 zeroM
      have hbv : Below W2.heap.size W2 (W2.alloc (.cells #[.int .i64 0, .int .i64 0, .int .i64 0, .int .i64 0, .string ⟨#[]⟩, .int .i64 0] 23)) := (Below.refl _ _).alloc (Nat.le_refl _) _
      obtain ⟨V1, hV1⟩ : ∃ W, W2.alloc (.cells #[.int .i64 0, .int .i64 0, .int .i64 0, .int .i64 0, .string ⟨#[]⟩, .int .i64 0] 23) = W := ⟨_, rfl⟩
      rw [hV1] at hm0 hbv
      rw [hV1]
      clear hV1
      have hby := bch HB2.out hbv
      clear hbv
      clear hm0
      have hxe := HX.out.below hby
      obtain ⟨d0, d1, d2, d3, d4, d5⟩ := hxe.cells
      simp only [zeroM, bemp] at d0 d1 d2 d3 d4 d5
      have f0 := hxe.frozen 0
      have f1 := hxe.frozen 1
      have f2 := hxe.frozen 2
      have f3 := hxe.frozen 3
      have f4 := hxe.frozen 4
      have f5 := hxe.frozen 5
      have HXE := Lib.hid hxe; clear hxe
      have HBE := Lib.hid (bch HB0.out hby); clear hby
      go_wp2_with fail
      have hfin := HXE.out.put zeroM
      obtain ⟨e0, e1, e2, e3, e4, e5⟩ := hfin.cells
      try simp only [zeroM, bemp] at e0 e1 e2 e3 e4 e5
      have hbf := below_msg6 HBE.out (Nat.le_refl _) zeroM
      try simp only [zeroM, bemp] at hbf
      refine bodyPost_ret (v := .tuple #[.int .i64 0, .agg #[.int .i64 0, .int .i64 0, .int .i64 0, .int .i64 0, .string ⟨#[]⟩, .int .i64 0], .int .i64 21]) (by simp [results, Try.results15, go_sem, e0, e1, e2, e3, e4, e5]) rfl ⟨by rw [HR.out]; rfl, hbf⟩
    | true =>
      simp only [if_true] at hq
      cases rt with
      | false =>
        have HR := Lib.hid (hbad2 rfl)
        clear hbad1 hbad2 hgood
        go_enter Try.func15, Try.ntmps15
        go_wp2_with fail
        ((with_reducible refine (qL _).mono ?_); rintro e0 W0_ ⟨rfl, rfl⟩)
        go_wp2_with fail
        ((with_reducible refine (q _).mono ?_); rintro e1 W1 ⟨A, n, cap, rfl, hcap, hfs, b1⟩)
        have HB1 := Lib.hid b1; clear b1
        go_wp2_with fail
        ((with_reducible refine (hq A n cap _ hfs).mono ?_); rintro e2 W2 ⟨rfl, b2⟩)
        have HB2 := Lib.hid (bch HB1.out b2); clear b2
        go_upto_region 8 with fail
        have hm0 : MgBlk (W2.alloc (.cells #[.int .i64 M.kind, .int .i64 M.frm, .int .i64 M.to, .int .i64 M.seq, .string M.body, .int .i64 M.trace] 23)) W2.heap.size M := MgBlk.new W2 M
        have hbv : Below W2.heap.size W2 (W2.alloc (.cells #[.int .i64 M.kind, .int .i64 M.frm, .int .i64 M.to, .int .i64 M.seq, .string M.body, .int .i64 M.trace] 23)) := (Below.refl _ _).alloc (Nat.le_refl _) _
        obtain ⟨V1, hV1⟩ : ∃ W, W2.alloc (.cells #[.int .i64 M.kind, .int .i64 M.frm, .int .i64 M.to, .int .i64 M.seq, .string M.body, .int .i64 M.trace] 23) = W := ⟨_, rfl⟩
        rw [hV1] at hm0 hbv
        rw [hV1]
        clear hV1
        have hby := bch HB2.out hbv
        clear hbv
        obtain ⟨x0, x1, x2, x3, x4, x5⟩ := hm0.cells
        go_wp2_with fail
        ((with_reducible refine (q9 _).mono ?_); rintro e9 W9 ⟨rfl, bq⟩)
        have hbz := bch hby bq
        clear x0 x1 x2 x3 x4 x5 hm0 bq hby
        have hxe := HX.out.below hbz
        obtain ⟨d0, d1, d2, d3, d4, d5⟩ := hxe.cells
        simp only [zeroM, bemp] at d0 d1 d2 d3 d4 d5
        have f0 := hxe.frozen 0
        have f1 := hxe.frozen 1
        have f2 := hxe.frozen 2
        have f3 := hxe.frozen 3
        have f4 := hxe.frozen 4
        have f5 := hxe.frozen 5
        have HXE := Lib.hid hxe; clear hxe
        have HBE := Lib.hid (bch HB0.out hbz); clear hbz
        go_wp2_with fail
        have hfin := HXE.out.put zeroM
        obtain ⟨e0, e1, e2, e3, e4, e5⟩ := hfin.cells
        try simp only [zeroM, bemp] at e0 e1 e2 e3 e4 e5
        have hbf := below_msg6 HBE.out (Nat.le_refl _) zeroM
        try simp only [zeroM, bemp] at hbf
        refine bodyPost_ret (v := .tuple #[.int .i64 0, .agg #[.int .i64 0, .int .i64 0, .int .i64 0, .int .i64 0, .string ⟨#[]⟩, .int .i64 0], .int .i64 21]) (by simp [results, Try.results15, go_sem, e0, e1, e2, e3, e4, e5]) rfl ⟨by rw [HR.out]; rfl, hbf⟩
      | true =>
        have HR := Lib.hid (hgood rfl rfl)
        clear hbad1 hbad2 hgood
        go_enter Try.func15, Try.ntmps15
        go_wp2_with fail
        ((with_reducible refine (qL _).mono ?_); rintro e0 W0_ ⟨rfl, rfl⟩)
        go_wp2_with fail
        ((with_reducible refine (q _).mono ?_); rintro e1 W1 ⟨A, n, cap, rfl, hcap, hfs, b1⟩)
        have HB1 := Lib.hid b1; clear b1
        go_wp2_with fail
        ((with_reducible refine (hq A n cap _ hfs).mono ?_); rintro e2 W2 ⟨rfl, b2⟩)
        have HB2 := Lib.hid (bch HB1.out b2); clear b2
        go_upto_region 8 with fail
        have hm0 : MgBlk (W2.alloc (.cells #[.int .i64 M.kind, .int .i64 M.frm, .int .i64 M.to, .int .i64 M.seq, .string M.body, .int .i64 M.trace] 23)) W2.heap.size M := MgBlk.new W2 M
        have hbv : Below W2.heap.size W2 (W2.alloc (.cells #[.int .i64 M.kind, .int .i64 M.frm, .int .i64 M.to, .int .i64 M.seq, .string M.body, .int .i64 M.trace] 23)) := (Below.refl _ _).alloc (Nat.le_refl _) _
        obtain ⟨V1, hV1⟩ : ∃ W, W2.alloc (.cells #[.int .i64 M.kind, .int .i64 M.frm, .int .i64 M.to, .int .i64 M.seq, .string M.body, .int .i64 M.trace] 23) = W := ⟨_, rfl⟩
        rw [hV1] at hm0 hbv
        rw [hV1]
        clear hV1
        have hby := bch HB2.out hbv
        clear hbv
        obtain ⟨x0, x1, x2, x3, x4, x5⟩ := hm0.cells
        have HMV := Lib.hid hm0; clear hm0
        have HBY := Lib.hid hby; clear hby
        go_wp2_with fail
        ((with_reducible refine (q9 _).mono ?_); rintro e9 W9 ⟨rfl, bq⟩)
        have HMM := Lib.hid (HMV.out.below bq)
        have hby := bch HBY.out bq
        clear x0 x1 x2 x3 x4 x5 HMV bq
        have hne : W2.heap.size ≠ w.heap.size := by have h1 := lt_of_blk HX.out; have h2 := HB2.out.size; omega
        have HNE := Lib.hid hne; clear hne
        go_wp2_with fail
        refine wp_region_noPanic ?_
        refine wp_region_held_drew (S := fun W => MgBlk W W2.heap.size M ∧ Below w.heap.size w W) (by kernel_rfl) (⟨HMM.out.drew, (bch HB0.out hby).drew⟩) (fun hHeld => ?_)
        have hxe := (HX.out.below hby).drew
        obtain ⟨W10, hW10⟩ : ∃ W, W9.drew = W := ⟨_, rfl⟩
        rw [hW10] at hHeld hxe ⊢
        clear hW10
        refine wpAnyH_take (i := 0) (v := ?_) rfl (by kernel_rfl) (by kernel_rfl) (by kernel_rfl) (fun _ _ _ h => h) (Or.inl ⟨by rfl, ?_⟩) (by assumption) ?_
        rotate_left
        · (intro w hSw; (try dsimp only at hSw); go_simp; (try with_reducible rfl))
        simp only [Act.put, List.getElem_toArray, List.getElem_cons_zero, List.setIfInBounds_toArray, List.set_cons_zero, List.set_cons_succ]
        refine wpAnyH_take (i := 1) (v := ?_) rfl (by kernel_rfl) (by kernel_rfl) (by kernel_rfl) (fun _ _ _ h => h) (Or.inl ⟨by rfl, ?_⟩) (by assumption) ?_
        rotate_left
        · (intro w hSw; (try dsimp only at hSw); obtain ⟨x0, x1, x2, x3, x4, x5⟩ := hSw.1.cells; go_simp; (try with_reducible rfl))
        simp only [Act.put, List.getElem_toArray, List.getElem_cons_zero, List.getElem_cons_succ, List.setIfInBounds_toArray, List.set_cons_zero, List.set_cons_succ]
        refine wpAnyH_take (i := 2) (v := ?_) rfl (by kernel_rfl) (by kernel_rfl) (by kernel_rfl) (fun _ _ _ h => h) (Or.inl ⟨by rfl, ?_⟩) (by assumption) ?_
        rotate_left
        · (intro w hSw; (try dsimp only at hSw); go_simp; (try with_reducible rfl))
        simp only [Act.put, List.getElem_toArray, List.getElem_cons_zero, List.getElem_cons_succ, List.setIfInBounds_toArray, List.set_cons_zero, List.set_cons_succ]
        obtain ⟨d0, d1, d2, d3, d4, d5⟩ := hxe.cells
        have f0 := hxe.frozen 0
        have f1 := hxe.frozen 1
        have f2 := hxe.frozen 2
        have f3 := hxe.frozen 3
        have f4 := hxe.frozen 4
        have f5 := hxe.frozen 5
        have HXE := Lib.hid hxe; clear hxe
        refine wpAnyH_ready (rs := [3]) (by kernel_rfl) (by simp) ?_
        refine AllReadyH.cons rfl (fun K hK => ?_) AllReadyH.nil
        rw [if_pos (by rfl)]
        go_simp
        refine hK.out _ _ (⟨(((((hHeld.1.far HNE.out _ _).far HNE.out _ _).far HNE.out _ _).far HNE.out _ _).far HNE.out _ _).far HNE.out _ _, below_msg6 hHeld.2 (Nat.le_refl _) M⟩) (fun hHeld2 => ?_)
        clear hK K hHeld
        have hHeld := hHeld2; clear hHeld2
        refine wpAnyH_take (i := 4) (v := ?_) rfl (by kernel_rfl) (by kernel_rfl) (by kernel_rfl) (fun _ _ _ h => h) (Or.inl ⟨by rfl, ?_⟩) (by assumption) ?_
        rotate_left
        · (intro w hSw; (try dsimp only at hSw); go_simp; (try with_reducible rfl))
        simp only [Act.put, List.getElem_toArray, List.getElem_cons_zero, List.getElem_cons_succ, List.setIfInBounds_toArray, List.set_cons_zero, List.set_cons_succ]
        refine wpAnyH_done (by kernel_rfl) ?_ _
        refine NoPanic.normal ?_
        have hfin := HXE.out.put M
        obtain ⟨e0, e1, e2, e3, e4, e5⟩ := hfin.cells
        have hbf := hHeld.2
        clear d0 d1 d2 d3 d4 d5 hHeld
        go_wp2_with fail
        refine bodyPost_ret (v := .tuple #[.int .i64 2, .agg #[.int .i64 M.kind, .int .i64 M.frm, .int .i64 M.to, .int .i64 M.seq, .string M.body, .int .i64 M.trace], .int .i64 0]) (by simp [results, Try.results15, go_sem, e0, e1, e2, e3, e4, e5]) rfl ⟨by rw [HR.out]; rfl, hbf⟩
end Go.Proofs.Ytjdpihppniibjaa
