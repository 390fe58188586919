import Derived.Test.YtjdpihppniibjaaWireEnc
import Derived.Test.YtjdpihppniibjaaRefDecode
import Derived.Deep.DeepCutAuto
/-
  The contract of the document's own Decode of messages (stage 8).
-/
namespace Go.Proofs.Ytjdpihppniibjaa
open Go.RowKit
set_option linter.unusedVariables false

theorem below_msg6 {w W : World} {g : Nat} (h : Below w.heap.size w W) (hg : w.heap.size ≤ g) (n : Mg) : Below w.heap.size w ((((((W.setCell ⟨g, 0, none⟩ (.int .i64 n.kind)).setCell ⟨g, 1, none⟩ (.int .i64 n.frm)).setCell ⟨g, 2, none⟩ (.int .i64 n.to)).setCell ⟨g, 3, none⟩ (.int .i64 n.seq)).setCell ⟨g, 4, none⟩ (.string n.body)).setCell ⟨g, 5, none⟩ (.int .i64 n.trace)) :=
  (((((h.setCell (p := ⟨g, 0, none⟩) hg _).setCell (p := ⟨g, 1, none⟩) hg _).setCell (p := ⟨g, 2, none⟩) hg _).setCell (p := ⟨g, 3, none⟩) hg _).setCell (p := ⟨g, 4, none⟩) hg _).setCell (p := ⟨g, 5, none⟩) hg _
theorem bemp : ByteArray.empty = (⟨#[]⟩ : ByteArray) := rfl
theorem allW_take {fs : List Fld} {k : Nat} (h : k < fs.length) (ha : allW (fs.take k) = true) (hk : okW (tg fs k) (dt fs k) = true) : allW (fs.take (k + 1)) = true := by
  unfold allW at *
  rw [List.take_succ_eq_append_getElem h, List.all_append, ha, fld_at h]; simp [hk]
theorem allW_no {fs : List Fld} {k : Nat} (h : k < fs.length) (hk : okW (tg fs k) (dt fs k) = false) : allW fs = false := by
  rw [Bool.eq_false_iff]
  intro e
  have := allW_iff.1 e fs[k] (List.getElem_mem h)
  rw [fld_at h] at this
  simp only at this
  rw [hk] at this; cases this
theorem wD_empty : wD [] = (0, zeroM, 22) := rfl
theorem wD_first {b : UInt8} {r : List UInt8} (h : b.toNat ≠ 1 ∧ b.toNat ≠ 2) : wD (b :: r) = (0, zeroM, 22) := by unfold wD; simp only; rw [if_pos h]
theorem wD_err {b : UInt8} {r : List UInt8} (h : b.toNat = 1 ∨ b.toNat = 2) (he : (decR r).2 ≠ 0) : wD (b :: r) = (0, zeroM, (decR r).2) := by unfold wD; simp only; rw [if_neg (by omega), if_pos he]
theorem wD_bad {b : UInt8} {r : List UInt8} (h : b.toNat = 1 ∨ b.toNat = 2) (he : (decR r).2 = 0) (hk : allW (decR r).1 = false ∨ rightM b.toNat (accM (decR r).1) = false) : wD (b :: r) = (0, zeroM, 21) := by
  unfold wD; simp only; rw [if_neg (by omega), if_neg (by omega), if_neg]
  rintro ⟨h1, h2⟩
  rcases hk with e | e <;> simp_all
theorem wD_good {b : UInt8} {r : List UInt8} (h : b.toNat = 1 ∨ b.toNat = 2) (he : (decR r).2 = 0) (h1 : allW (decR r).1 = true) (h2 : rightM b.toNat (accM (decR r).1) = true) : wD (b :: r) = (b.toNat, accM (decR r).1, 0) := by
  unfold wD; simp only; rw [if_neg (by omega), if_neg (by omega), if_pos ⟨h1, h2⟩]
theorem wD_cons {s : ByteArray} (h : 0 < s.size) : s.data.toList = s[0] :: s.data.toList.drop 1 := by
  have hl : 0 < s.data.toList.length := by simpa using h
  have h := List.getElem_cons_drop hl
  rw [List.drop_zero] at h
  exact h.symm
theorem dropB (s : ByteArray) (i : Nat) : (s.extract i s.size).data.toList = s.data.toList.drop i := by
  have h := bs_drop s.data.toList i
  rw [← bs_of] at h
  rw [h, bs_data]

theorem tag_pos {fs : List Fld} (h : rightB fs = true) {k : Nat} (hk : k < fs.length) : 1 ≤ tg fs k ∧ (dt fs k).size ≤ 1000 := by
  have h1 := (rightB_iff.1 h).2
  have h2 := okAt_iff.1 (h1 k hk)
  have h3 := hd_nonneg k (by omega) (fun j hj => h1 j (by omega))
  omega
theorem MgBlk.of {W : World} {g : Nat} {a b : Mg} (h : MgBlk W g a) (e : b = a) : MgBlk W g b := e ▸ h
theorem MgBlk.step {W : World} {g : Nat} {m : Mg} (h : MgBlk W g m) :
    (∀ n : Int, MgBlk (W.setCell ⟨g, 0, none⟩ (.int .i64 n)) g { m with kind := n }) ∧ (∀ n : Int, MgBlk (W.setCell ⟨g, 1, none⟩ (.int .i64 n)) g { m with frm := n }) ∧ (∀ n : Int, MgBlk (W.setCell ⟨g, 2, none⟩ (.int .i64 n)) g ⟨m.kind, m.frm, n, m.seq, m.body, m.trace⟩) ∧ (∀ n : Int, MgBlk (W.setCell ⟨g, 3, none⟩ (.int .i64 n)) g { m with seq := n }) ∧ (∀ d : ByteArray, MgBlk (W.setCell ⟨g, 4, none⟩ (.string d)) g { m with body := d }) ∧ (∀ n : Int, MgBlk (W.setCell ⟨g, 5, none⟩ (.int .i64 n)) g { m with trace := n }) :=
  ⟨fun n => heap_setCell_same _ g 0 _ _ _ h, fun n => heap_setCell_same _ g 1 _ _ _ h, fun n => heap_setCell_same _ g 2 _ _ _ h, fun n => heap_setCell_same _ g 3 _ _ _ h, fun n => heap_setCell_same _ g 4 _ _ _ h, fun n => heap_setCell_same _ g 5 _ _ _ h⟩

/-- What Decode leaves. -/
def WdPost (w : World) (r : Nat × Mg × Nat) (e : Ending) (w' : World) : Prop :=
  e = .returned (.tuple #[.int .i64 r.1, mgV r.2.1, .int .i64 r.2.2]) ∧ Below w.heap.size w w'

set_option maxRecDepth 100000 in
set_option maxHeartbeats 8000000 in
theorem refdecodeW_any (s : ByteArray) (hs : s.size ≤ 140737488365000) (w : World) :
    Calls Try.prog 16 #[.string s] w (WdPost w (wD s.data.toList)) := by
  obtain ⟨R, hR⟩ : ∃ R, wD s.data.toList = R := ⟨_, rfl⟩
  rw [hR]
  have hb0 : Below w.heap.size w (w.alloc (.cells #[.int .i64 0, .int .i64 0, .int .i64 0, .int .i64 0, .string ⟨#[]⟩, .int .i64 0] 23)) := (Below.refl _ _).alloc (Nat.le_refl _) _
  have hx0 := MgBlk.new w zeroM
  obtain ⟨W0, hW0⟩ : ∃ W, w.alloc (.cells #[.int .i64 0, .int .i64 0, .int .i64 0, .int .i64 0, .string ⟨#[]⟩, .int .i64 0] 23) = W := ⟨_, rfl⟩
  have hx1 : MgBlk W0 w.heap.size zeroM := by rw [← hW0]; exact hx0
  rw [hW0] at hb0
  have HB0 := Lib.hid hb0; clear hb0 hx0
  have HX := Lib.hid hx1; clear hx1
  by_cases h0 : s.size = 0
  · have e0 := (tl_size s).2 h0
    have hl : s.data.toList = [] := List.eq_nil_of_length_eq_zero (by simpa using h0)
    rw [hl, wD_empty] at hR
    have HR := Lib.hid hR.symm
    clear hR hl h0
    have hbx := Below.refl W0.heap.size W0
    go_enter Try.func16, Try.ntmps16
    have hxe := HX.out.below hbx
    obtain ⟨d0, d1, d2, d3, d4, d5⟩ := hxe.cells
    simp only [zeroM, bemp] at d0 d1 d2 d3 d4 d5
    have f0 := hxe.frozen 0
    have f1 := hxe.frozen 1
    have f2 := hxe.frozen 2
    have f3 := hxe.frozen 3
    have f4 := hxe.frozen 4
    have f5 := hxe.frozen 5
    have HXE := Lib.hid hxe; clear hxe
    have HBE := Lib.hid (bch HB0.out hbx); clear hbx
    go_wp2_with fail
    have hfin := HXE.out.put zeroM
    obtain ⟨e0, e1, e2, e3, e4, e5⟩ := hfin.cells
    try simp only [zeroM, bemp] at e0 e1 e2 e3 e4 e5
    have hbf := below_msg6 HBE.out (Nat.le_refl _) zeroM
    try simp only [zeroM, bemp] at hbf
    refine bodyPost_ret (v := .tuple #[.int .i64 0, .agg #[.int .i64 0, .int .i64 0, .int .i64 0, .int .i64 0, .string ⟨#[]⟩, .int .i64 0], .int .i64 22]) (by simp [results, Try.results16, go_sem, e0, e1, e2, e3, e4, e5]) rfl ⟨by rw [HR.out]; rfl, hbf⟩
  have hpos : 0 < s.size := by omega
  have e0 := tl_ne0 h0
  have j0 : (0 : Int) < (s.size : Int) := by omega
  have hcons := wD_cons hpos
  rw [hcons] at hR
  obtain ⟨c, hc⟩ : ∃ c, s[0].toNat = c := ⟨_, rfl⟩
  have hcb : c < 256 := by rw [← hc]; exact s[0].toNat_lt
  by_cases hA : c ≠ 1 ∧ c ≠ 2
  · rw [wD_first (by rw [hc]; exact hA)] at hR
    have HR := Lib.hid hR.symm
    have n1 : ((c : Int) == 1) = false := by have := hA.1; simp; omega
    have n2 : ((c : Int) == 2) = false := by have := hA.2; simp; omega
    have n3 : ((c : Int) != 1) = true := by have := hA.1; simp; omega
    have n4 : ((c : Int) != 2) = true := by have := hA.2; simp; omega
    clear hR hcons hA h0
    have hbx := Below.refl W0.heap.size W0
    go_enter Try.func16, Try.ntmps16
    have hxe := HX.out.below hbx
    obtain ⟨d0, d1, d2, d3, d4, d5⟩ := hxe.cells
    simp only [zeroM, bemp] at d0 d1 d2 d3 d4 d5
    have f0 := hxe.frozen 0
    have f1 := hxe.frozen 1
    have f2 := hxe.frozen 2
    have f3 := hxe.frozen 3
    have f4 := hxe.frozen 4
    have f5 := hxe.frozen 5
    have HXE := Lib.hid hxe; clear hxe
    have HBE := Lib.hid (bch HB0.out hbx); clear hbx
    go_wp2_with fail
    have hfin := HXE.out.put zeroM
    obtain ⟨e0, e1, e2, e3, e4, e5⟩ := hfin.cells
    try simp only [zeroM, bemp] at e0 e1 e2 e3 e4 e5
    have hbf := below_msg6 HBE.out (Nat.le_refl _) zeroM
    try simp only [zeroM, bemp] at hbf
    refine bodyPost_ret (v := .tuple #[.int .i64 0, .agg #[.int .i64 0, .int .i64 0, .int .i64 0, .int .i64 0, .string ⟨#[]⟩, .int .i64 0], .int .i64 22]) (by simp [results, Try.results16, go_sem, e0, e1, e2, e3, e4, e5]) rfl ⟨by rw [HR.out]; rfl, hbf⟩
  have hc12 : c = 1 ∨ c = 2 := by omega
  have zT : (s.extract 1 s.size).size ≤ 281474976710656 := by rw [ByteArray.size_extract]; omega
  have q := fun W => refdecode_any (s.extract 1 s.size) zT W
  rw [dropB] at q
  unfold DecPost at q
  have hRE := wD_err (b := s[0]) (r := s.data.toList.drop 1) (by omega)
  have hRB := wD_bad (b := s[0]) (r := s.data.toList.drop 1) (by omega)
  have hRG := wD_good (b := s[0]) (r := s.data.toList.drop 1) (by omega)
  have hok : (decR (s.data.toList.drop 1)).2 = 0 → _ := fun h => dec_ok (l := s.data.toList.drop 1) (fs := (decR (s.data.toList.drop 1)).1) (by rw [← h])
  rw [hc] at hRB hRG
  generalize decR (s.data.toList.drop 1) = dd at *
  obtain ⟨fs, e⟩ := dd
  simp only at hRE hRB hRG hok q
  clear zT hcons hA h0 hcb
  rcases hc12 with rfl | rfl
  · skip
    by_cases he : e ≠ 0
    · have HR : Hid (R = (0, zeroM, e)) := by show _ = _; rw [← hR]; exact hRE he
      have he1 : ((e : Int) != 0) = true := by simp; omega
      have he2 : ((e : Int) == 0) = false := by simp; omega
      clear hR hRE hRB hRG hok he
      go_enter Try.func16, Try.ntmps16
      go_wp2_with fail
      ((with_reducible refine (q _).mono ?_); rintro e1 W1 ⟨A, n, cap, rfl, hcap, hfs, b1⟩)
      have hbx := b1
      have hxe := HX.out.below hbx
      obtain ⟨d0, d1, d2, d3, d4, d5⟩ := hxe.cells
      simp only [zeroM, bemp] at d0 d1 d2 d3 d4 d5
      have f0 := hxe.frozen 0
      have f1 := hxe.frozen 1
      have f2 := hxe.frozen 2
      have f3 := hxe.frozen 3
      have f4 := hxe.frozen 4
      have f5 := hxe.frozen 5
      have HXE := Lib.hid hxe; clear hxe
      have HBE := Lib.hid (bch HB0.out hbx); clear hbx
      go_wp2_with fail
      have hfin := HXE.out.put zeroM
      obtain ⟨e0, e1, e2, e3, e4, e5⟩ := hfin.cells
      try simp only [zeroM, bemp] at e0 e1 e2 e3 e4 e5
      have hbf := below_msg6 HBE.out (Nat.le_refl _) zeroM
      try simp only [zeroM, bemp] at hbf
      refine bodyPost_ret (v := .tuple #[.int .i64 0, .agg #[.int .i64 0, .int .i64 0, .int .i64 0, .int .i64 0, .string ⟨#[]⟩, .int .i64 0], .int .i64 e]) (by simp [results, Try.results16, go_sem, e0, e1, e2, e3, e4, e5]) rfl ⟨by rw [HR.out]; rfl, hbf⟩
    have he0 : e = 0 := by omega
    subst he0
    have HRR := Lib.hid hR; clear hR
    have HRB := Lib.hid (hRB rfl); clear hRB
    have HRG := Lib.hid (hRG rfl); clear hRG
    have hrb := (hok rfl).2.2
    have HRIGHT := Lib.hid hrb; clear hrb hok hRE he
    go_enter Try.func16, Try.ntmps16
    go_wp2_with fail
    ((with_reducible refine (q _).mono ?_); rintro e1 W1 ⟨A, n, cap, rfl, hcap, hfs, b1⟩)
    have HB1 := Lib.hid b1; clear b1
    go_upto_region 8 with fail
    have hm0 : MgBlk (W1.alloc (.cells #[.int .i64 0, .int .i64 0, .int .i64 0, .int .i64 0, .string ⟨#[]⟩, .int .i64 0] 23)) W1.heap.size zeroM := MgBlk.new W1 zeroM
    have hbv : Below W1.heap.size W1 (W1.alloc (.cells #[.int .i64 0, .int .i64 0, .int .i64 0, .int .i64 0, .string ⟨#[]⟩, .int .i64 0] 23)) := (Below.refl _ _).alloc (Nat.le_refl _) _
    obtain ⟨V1, hV1⟩ : ∃ W, W1.alloc (.cells #[.int .i64 0, .int .i64 0, .int .i64 0, .int .i64 0, .string ⟨#[]⟩, .int .i64 0] 23) = W := ⟨_, rfl⟩
    rw [hV1] at hm0 hbv
    rw [hV1]
    clear hV1
    have hnl := hfs.1
    have hnm := hfs.2.1
    unfold maxLen at hnm
    have HFS := Lib.hid hfs; clear hfs
    have HM0 := Lib.hid hm0; clear hm0
    have HBV := Lib.hid hbv; clear hbv
    have HNL := Lib.hid hnl; clear hnl
    go_wp2_with fail
    go_loopw [9] (fun i wy => ∃ (k : Nat) (wq : World), wq = wy ∧ k ≤ n ∧ i = .int .i64 k ∧ MgBlk wq W1.heap.size (accM (fs.take k)) ∧ Hid (allW (fs.take k) = true) ∧ Hid ((accM (fs.take k)).body.size ≤ 1000) ∧ Below W1.heap.size W1 wq) (fun i _ => n - (intOf i).toNat)
    case atStart => exact ⟨0, _, rfl, by omega, rfl, HM0.out, rfl, (by show (ByteArray.empty).size ≤ 1000; decide), HBV.out⟩
    case round =>
      obtain ⟨k, wq, rfl, hk, rfl, hm, hal, hbd, hbq⟩ := hrel
      by_cases hlt : k < n
      · have HK : Hid (k < fs.length) := by have := HNL.out; show k < fs.length; omega
        obtain ⟨b, off, hA, hb, hat⟩ := HFS.out.2.2.2 (by omega)
        subst hA
        obtain ⟨x0, x1⟩ := hat k HK.out
        have c0 := (hbq.cell (p := ⟨b, off + k * 2, none⟩) hb).trans x0
        have c1 := (hbq.cell (p := ⟨b, off + k * 2 + 1, none⟩) hb).trans x1
        clear hat x0 x1
        have htp := tag_pos HRIGHT.out HK.out
        obtain ⟨t, ht⟩ : ∃ t, tg fs k = t := ⟨_, rfl⟩
        obtain ⟨d, hd⟩ : ∃ d, dt fs k = d := ⟨_, rfl⟩
        rw [ht, hd] at htp
        rw [ht] at c0
        rw [hd] at c1
        have HT := Lib.hid ht; clear ht
        have HD := Lib.hid hd; clear hd
        have hb0 : (0 : Int) ≤ (k : Int) := by omega
        have hb1 : (k : Int) < (n : Int) := by omega
        have q8 := fun W => refwhole_any d (by omega) W
        cases hok2 : okW t d with
        | false =>
          have HOK := Lib.hid hok2; clear hok2 hm
          have hbx := bch HB1.out hbq
          obtain ⟨wn, hwn⟩ : ∃ x, wholeN d.data.toList = x := ⟨_, rfl⟩
          rw [hwn] at q8
          have HR : Hid (R = (0, zeroM, 21)) := by show _ = _; rw [← HRR.out]; exact HRB.out (.inl (allW_no HK.out (by rw [HT.out, HD.out]; exact HOK.out)))
          by_cases g1 : d.size = 0
          · have e5 := (tl_size d).2 g1
            clear HOK hwn g1
            clear hbq
            go_wp2_with fail
            ((with_reducible refine (q8 _).mono ?_); rintro e8 W8 ⟨rfl, rfl⟩)
            have hxe := HX.out.below hbx
            obtain ⟨d0, d1, d2, d3, d4, d5⟩ := hxe.cells
            simp only [zeroM, bemp] at d0 d1 d2 d3 d4 d5
            have f0 := hxe.frozen 0
            have f1 := hxe.frozen 1
            have f2 := hxe.frozen 2
            have f3 := hxe.frozen 3
            have f4 := hxe.frozen 4
            have f5 := hxe.frozen 5
            have HXE := Lib.hid hxe; clear hxe
            have HBE := Lib.hid (bch HB0.out hbx); clear hbx
            go_wp2_with fail
            have hfin := HXE.out.put zeroM
            obtain ⟨e0, e1, e2, e3, e4, e5⟩ := hfin.cells
            try simp only [zeroM, bemp] at e0 e1 e2 e3 e4 e5
            have hbf := below_msg6 HBE.out (Nat.le_refl _) zeroM
            try simp only [zeroM, bemp] at hbf
            refine bodyPost_ret (v := .tuple #[.int .i64 0, .agg #[.int .i64 0, .int .i64 0, .int .i64 0, .int .i64 0, .string ⟨#[]⟩, .int .i64 0], .int .i64 21]) (by simp [results, Try.results16, go_sem, e0, e1, e2, e3, e4, e5]) rfl ⟨by rw [HR.out]; rfl, hbf⟩
          have e5 := tl_ne0 g1
          by_cases g2 : wn = 0 ∧ t ≠ 5
          · obtain ⟨g3, g4⟩ := g2
            have e7 : (t != 5) = true := by simp; omega
            have e8 : (t == 5) = false := by simp; omega
            subst g3
            clear HOK hwn g1
            clear hbq
            go_wp2_with fail
            ((with_reducible refine (q8 _).mono ?_); rintro e8 W8 ⟨rfl, rfl⟩)
            have hxe := HX.out.below hbx
            obtain ⟨d0, d1, d2, d3, d4, d5⟩ := hxe.cells
            simp only [zeroM, bemp] at d0 d1 d2 d3 d4 d5
            have f0 := hxe.frozen 0
            have f1 := hxe.frozen 1
            have f2 := hxe.frozen 2
            have f3 := hxe.frozen 3
            have f4 := hxe.frozen 4
            have f5 := hxe.frozen 5
            have HXE := Lib.hid hxe; clear hxe
            have HBE := Lib.hid (bch HB0.out hbx); clear hbx
            go_wp2_with fail
            have hfin := HXE.out.put zeroM
            obtain ⟨e0, e1, e2, e3, e4, e5⟩ := hfin.cells
            try simp only [zeroM, bemp] at e0 e1 e2 e3 e4 e5
            have hbf := below_msg6 HBE.out (Nat.le_refl _) zeroM
            try simp only [zeroM, bemp] at hbf
            refine bodyPost_ret (v := .tuple #[.int .i64 0, .agg #[.int .i64 0, .int .i64 0, .int .i64 0, .int .i64 0, .string ⟨#[]⟩, .int .i64 0], .int .i64 21]) (by simp [results, Try.results16, go_sem, e0, e1, e2, e3, e4, e5]) rfl ⟨by rw [HR.out]; rfl, hbf⟩
          · have g5 : 6 < t ∧ wn ≠ 0 := by
              have h1 : ¬ (1 ≤ d.size ∧ (t = 5 ∨ 0 < wholeN d.data.toList) ∧ t ≤ 6) := by rw [← okW_iff, HOK.out]; simp
              omega
            have e6 : ((wn : Int) == 0) = false := by simp; omega
            have n1 : (t == 1) = false := by simp; omega
            have n2 : (t == 2) = false := by simp; omega
            have n3 : (t == 3) = false := by simp; omega
            have n4 : (t == 4) = false := by simp; omega
            have n5 : (t == 5) = false := by simp; omega
            have n6 : (t == 6) = false := by simp; omega
            clear HOK hwn g1 g2 g5
            clear hbq
            go_wp2_with fail
            ((with_reducible refine (q8 _).mono ?_); rintro e8 W8 ⟨rfl, rfl⟩)
            have hxe := HX.out.below hbx
            obtain ⟨d0, d1, d2, d3, d4, d5⟩ := hxe.cells
            simp only [zeroM, bemp] at d0 d1 d2 d3 d4 d5
            have f0 := hxe.frozen 0
            have f1 := hxe.frozen 1
            have f2 := hxe.frozen 2
            have f3 := hxe.frozen 3
            have f4 := hxe.frozen 4
            have f5 := hxe.frozen 5
            have HXE := Lib.hid hxe; clear hxe
            have HBE := Lib.hid (bch HB0.out hbx); clear hbx
            go_wp2_with fail
            have hfin := HXE.out.put zeroM
            obtain ⟨e0, e1, e2, e3, e4, e5⟩ := hfin.cells
            try simp only [zeroM, bemp] at e0 e1 e2 e3 e4 e5
            have hbf := below_msg6 HBE.out (Nat.le_refl _) zeroM
            try simp only [zeroM, bemp] at hbf
            refine bodyPost_ret (v := .tuple #[.int .i64 0, .agg #[.int .i64 0, .int .i64 0, .int .i64 0, .int .i64 0, .string ⟨#[]⟩, .int .i64 0], .int .i64 21]) (by simp [results, Try.results16, go_sem, e0, e1, e2, e3, e4, e5]) rfl ⟨by rw [HR.out]; rfl, hbf⟩
        | true =>
          have ho := okW_iff.1 hok2
          have HOK := Lib.hid hok2; clear hok2
          have e5 := tl_ne0 (s := d) (by omega)
          obtain ⟨wn, hwn⟩ : ∃ x, wholeN d.data.toList = x := ⟨_, rfl⟩
          rw [hwn] at q8
          have hst := accM_take HK.out
          rw [HT.out, HD.out] at hst
          have HST := Lib.hid hst; clear hst
          have HAL := Lib.hid (allW_take HK.out hal.out (by rw [HT.out, HD.out]; exact HOK.out))
          have HWN := Lib.hid hwn
          have HDS := Lib.hid htp.2
          have ht6 : t = 1 ∨ t = 2 ∨ t = 3 ∨ t = 4 ∨ t = 5 ∨ t = 6 := by omega
          rcases ht6 with rfl | rfl | rfl | rfl | rfl | rfl
          · skip
            have hn := (hm.step).1 (wn : Int)
            have hbn := hbq.setCell (p := ⟨W1.heap.size, 0, none⟩) (Nat.le_refl _) (.int .i64 (wn : Int))
            obtain ⟨x0, x1, x2, x3, x4, x5⟩ := hm.cells
            have y0 := hm.frozen 0
            have HN := Lib.hid hn; clear hn hm
            have HBN := Lib.hid hbn; clear hbn hbq
            have e6 : ((wn : Int) == 0) = false := by simp; omega
            clear hwn ho
            go_wp2_with fail
            ((with_reducible refine (q8 _).mono ?_); rintro e8 W8 ⟨rfl, rfl⟩)
            go_wp2_with fail
            go_roundw
            case rel => exact ⟨k + 1, _, rfl, by omega, by go_num, HN.out.of (by rw [HST.out, ← HWN.out]; rfl), HAL.out, by show _ ≤ _; rw [HST.out]; exact hbd.out, HBN.out⟩
            case measure => simp [intOf]; omega
          · skip
            have hn := (hm.step).2.1 (wn : Int)
            have hbn := hbq.setCell (p := ⟨W1.heap.size, 1, none⟩) (Nat.le_refl _) (.int .i64 (wn : Int))
            obtain ⟨x0, x1, x2, x3, x4, x5⟩ := hm.cells
            have y0 := hm.frozen 1
            have HN := Lib.hid hn; clear hn hm
            have HBN := Lib.hid hbn; clear hbn hbq
            have e6 : ((wn : Int) == 0) = false := by simp; omega
            clear hwn ho
            go_wp2_with fail
            ((with_reducible refine (q8 _).mono ?_); rintro e8 W8 ⟨rfl, rfl⟩)
            go_wp2_with fail
            go_roundw
            case rel => exact ⟨k + 1, _, rfl, by omega, by go_num, HN.out.of (by rw [HST.out, ← HWN.out]; rfl), HAL.out, by show _ ≤ _; rw [HST.out]; exact hbd.out, HBN.out⟩
            case measure => simp [intOf]; omega
          · skip
            have hn := (hm.step).2.2.1 (wn : Int)
            have hbn := hbq.setCell (p := ⟨W1.heap.size, 2, none⟩) (Nat.le_refl _) (.int .i64 (wn : Int))
            obtain ⟨x0, x1, x2, x3, x4, x5⟩ := hm.cells
            have y0 := hm.frozen 2
            have HN := Lib.hid hn; clear hn hm
            have HBN := Lib.hid hbn; clear hbn hbq
            have e6 : ((wn : Int) == 0) = false := by simp; omega
            clear hwn ho
            go_wp2_with fail
            ((with_reducible refine (q8 _).mono ?_); rintro e8 W8 ⟨rfl, rfl⟩)
            go_wp2_with fail
            go_roundw
            case rel => exact ⟨k + 1, _, rfl, by omega, by go_num, HN.out.of (by rw [HST.out, ← HWN.out]; rfl), HAL.out, by show _ ≤ _; rw [HST.out]; exact hbd.out, HBN.out⟩
            case measure => simp [intOf]; omega
          · skip
            have hn := (hm.step).2.2.2.1 (wn : Int)
            have hbn := hbq.setCell (p := ⟨W1.heap.size, 3, none⟩) (Nat.le_refl _) (.int .i64 (wn : Int))
            obtain ⟨x0, x1, x2, x3, x4, x5⟩ := hm.cells
            have y0 := hm.frozen 3
            have HN := Lib.hid hn; clear hn hm
            have HBN := Lib.hid hbn; clear hbn hbq
            have e6 : ((wn : Int) == 0) = false := by simp; omega
            clear hwn ho
            go_wp2_with fail
            ((with_reducible refine (q8 _).mono ?_); rintro e8 W8 ⟨rfl, rfl⟩)
            go_wp2_with fail
            go_roundw
            case rel => exact ⟨k + 1, _, rfl, by omega, by go_num, HN.out.of (by rw [HST.out, ← HWN.out]; rfl), HAL.out, by show _ ≤ _; rw [HST.out]; exact hbd.out, HBN.out⟩
            case measure => simp [intOf]; omega
          · skip
            have hn := (hm.step).2.2.2.2.1 d
            have hbn := hbq.setCell (p := ⟨W1.heap.size, 4, none⟩) (Nat.le_refl _) (.string d)
            obtain ⟨x0, x1, x2, x3, x4, x5⟩ := hm.cells
            have y0 := hm.frozen 4
            have HN := Lib.hid hn; clear hn hm
            have HBN := Lib.hid hbn; clear hbn hbq
            by_cases hw : wn = 0
            · subst hw
              clear hwn
              go_wp2_with fail
              ((with_reducible refine (q8 _).mono ?_); rintro e8 W8 ⟨rfl, rfl⟩)
              go_wp2_with fail
              go_roundw
              case rel => exact ⟨k + 1, _, rfl, by omega, by go_num, HN.out.of (by rw [HST.out]; rfl), HAL.out, by show _ ≤ _; rw [HST.out]; exact HDS.out, HBN.out⟩
              case measure => simp [intOf]; omega
            · have e6 : ((wn : Int) == 0) = false := by simp; omega
              clear hw hwn
              go_wp2_with fail
              ((with_reducible refine (q8 _).mono ?_); rintro e8 W8 ⟨rfl, rfl⟩)
              go_wp2_with fail
              go_roundw
              case rel => exact ⟨k + 1, _, rfl, by omega, by go_num, HN.out.of (by rw [HST.out]; rfl), HAL.out, by show _ ≤ _; rw [HST.out]; exact HDS.out, HBN.out⟩
              case measure => simp [intOf]; omega
          · skip
            have hn := (hm.step).2.2.2.2.2 (wn : Int)
            have hbn := hbq.setCell (p := ⟨W1.heap.size, 5, none⟩) (Nat.le_refl _) (.int .i64 (wn : Int))
            obtain ⟨x0, x1, x2, x3, x4, x5⟩ := hm.cells
            have y0 := hm.frozen 5
            have HN := Lib.hid hn; clear hn hm
            have HBN := Lib.hid hbn; clear hbn hbq
            have e6 : ((wn : Int) == 0) = false := by simp; omega
            clear hwn ho
            go_wp2_with fail
            ((with_reducible refine (q8 _).mono ?_); rintro e8 W8 ⟨rfl, rfl⟩)
            go_wp2_with fail
            go_roundw
            case rel => exact ⟨k + 1, _, rfl, by omega, by go_num, HN.out.of (by rw [HST.out, ← HWN.out]; rfl), HAL.out, by show _ ≤ _; rw [HST.out]; exact hbd.out, HBN.out⟩
            case measure => simp [intOf]; omega
      · have hke : n = k := by omega
        subst hke
        have htk : fs.take n = fs := List.take_of_length_le (by have := HNL.out; omega)
        rw [htk] at hm hal hbd
        have q9 := fun W => refrightW_any 1 (accM fs) (by have := hbd.out; omega) W
        have hrg := HRG.out hal.out
        have hrbad := fun h => HRB.out (.inr h)
        have hvv : ((1 : Nat) : Int) = 1 := rfl
        simp only [hvv] at hrg hrbad
        have hbx := bch HB1.out hbq
        unfold mgV at q9
        generalize accM fs = M at *
        clear htk
        cases hrm : rightM 1 M with
        | false =>
          have HR : Hid (R = (0, zeroM, 21)) := by show _ = _; rw [← HRR.out]; exact hrbad hrm
          rw [hrm] at q9
          clear hrg hrbad hrm
          have HMM := Lib.hid hm; clear hm
          have HBX := Lib.hid hbx; clear hbx hbq
          obtain ⟨x0, x1, x2, x3, x4, x5⟩ := HMM.out.cells
          go_wp2_with fail
          ((with_reducible refine (q9 _).mono ?_); rintro e9 W9 ⟨rfl, bq⟩)
          have HM9 := Lib.hid (HMM.out.below bq); clear HMM
          have HMM := HM9; clear HM9
          have hby := bch HBX.out bq
          clear x0 x1 x2 x3 x4 x5 bq
          have hxe := HX.out.below hby
          obtain ⟨d0, d1, d2, d3, d4, d5⟩ := hxe.cells
          simp only [zeroM, bemp] at d0 d1 d2 d3 d4 d5
          have f0 := hxe.frozen 0
          have f1 := hxe.frozen 1
          have f2 := hxe.frozen 2
          have f3 := hxe.frozen 3
          have f4 := hxe.frozen 4
          have f5 := hxe.frozen 5
          have HXE := Lib.hid hxe; clear hxe
          have HBE := Lib.hid (bch HB0.out hby); clear hby
          go_wp2_with fail
          have hfin := HXE.out.put zeroM
          obtain ⟨e0, e1, e2, e3, e4, e5⟩ := hfin.cells
          try simp only [zeroM, bemp] at e0 e1 e2 e3 e4 e5
          have hbf := below_msg6 HBE.out (Nat.le_refl _) zeroM
          try simp only [zeroM, bemp] at hbf
          refine bodyPost_ret (v := .tuple #[.int .i64 0, .agg #[.int .i64 0, .int .i64 0, .int .i64 0, .int .i64 0, .string ⟨#[]⟩, .int .i64 0], .int .i64 21]) (by simp [results, Try.results16, go_sem, e0, e1, e2, e3, e4, e5]) rfl ⟨by rw [HR.out]; rfl, hbf⟩
        | true =>
          have HR : Hid (R = (1, M, 0)) := by show _ = _; rw [← HRR.out]; exact hrg hrm
          rw [hrm] at q9
          clear hrg hrbad hrm
          have HMM := Lib.hid hm; clear hm
          have HBX := Lib.hid hbx; clear hbx hbq
          obtain ⟨x0, x1, x2, x3, x4, x5⟩ := HMM.out.cells
          go_wp2_with fail
          ((with_reducible refine (q9 _).mono ?_); rintro e9 W9 ⟨rfl, bq⟩)
          have HM9 := Lib.hid (HMM.out.below bq); clear HMM
          have HMM := HM9; clear HM9
          have hby := bch HBX.out bq
          clear x0 x1 x2 x3 x4 x5 bq
          have hne : W1.heap.size ≠ w.heap.size := by have h1 := lt_of_blk HX.out; have h2 := HB1.out.size; omega
          have HNE := Lib.hid hne; clear hne
          go_wp2_with fail
          refine wp_region_noPanic ?_
          refine wp_region_held_drew (S := fun W => MgBlk W W1.heap.size M ∧ Below w.heap.size w W) (by kernel_rfl) (⟨HMM.out.drew, (bch HB0.out hby).drew⟩) (fun hHeld => ?_)
          have hxe := (HX.out.below hby).drew
          obtain ⟨W10, hW10⟩ : ∃ W, W9.drew = W := ⟨_, rfl⟩
          rw [hW10] at hHeld hxe ⊢
          clear hW10
          refine wpAnyH_take (i := 0) (v := ?_) rfl (by kernel_rfl) (by kernel_rfl) (by kernel_rfl) (fun _ _ _ h => h) (Or.inl ⟨by rfl, ?_⟩) (by assumption) ?_
          rotate_left
          · (intro w hSw; (try dsimp only at hSw); go_simp; (try with_reducible rfl))
          simp only [Act.put, List.getElem_toArray, List.getElem_cons_zero, List.setIfInBounds_toArray, List.set_cons_zero, List.set_cons_succ]
          refine wpAnyH_take (i := 1) (v := ?_) rfl (by kernel_rfl) (by kernel_rfl) (by kernel_rfl) (fun _ _ _ h => h) (Or.inl ⟨by rfl, ?_⟩) (by assumption) ?_
          rotate_left
          · (intro w hSw; (try dsimp only at hSw); obtain ⟨x0, x1, x2, x3, x4, x5⟩ := hSw.1.cells; go_simp; (try with_reducible rfl))
          simp only [Act.put, List.getElem_toArray, List.getElem_cons_zero, List.getElem_cons_succ, List.setIfInBounds_toArray, List.set_cons_zero, List.set_cons_succ]
          refine wpAnyH_take (i := 2) (v := ?_) rfl (by kernel_rfl) (by kernel_rfl) (by kernel_rfl) (fun _ _ _ h => h) (Or.inl ⟨by rfl, ?_⟩) (by assumption) ?_
          rotate_left
          · (intro w hSw; (try dsimp only at hSw); go_simp; (try with_reducible rfl))
          simp only [Act.put, List.getElem_toArray, List.getElem_cons_zero, List.getElem_cons_succ, List.setIfInBounds_toArray, List.set_cons_zero, List.set_cons_succ]
          obtain ⟨d0, d1, d2, d3, d4, d5⟩ := hxe.cells
          have f0 := hxe.frozen 0
          have f1 := hxe.frozen 1
          have f2 := hxe.frozen 2
          have f3 := hxe.frozen 3
          have f4 := hxe.frozen 4
          have f5 := hxe.frozen 5
          have HXE := Lib.hid hxe; clear hxe
          refine wpAnyH_ready (rs := [3]) (by kernel_rfl) (by simp) ?_
          refine AllReadyH.cons rfl (fun K hK => ?_) AllReadyH.nil
          rw [if_pos (by rfl)]
          go_simp
          refine hK.out _ _ (⟨(((((hHeld.1.far HNE.out _ _).far HNE.out _ _).far HNE.out _ _).far HNE.out _ _).far HNE.out _ _).far HNE.out _ _, below_msg6 hHeld.2 (Nat.le_refl _) M⟩) (fun hHeld2 => ?_)
          clear hK K hHeld
          have hHeld := hHeld2; clear hHeld2
          refine wpAnyH_take (i := 4) (v := ?_) rfl (by kernel_rfl) (by kernel_rfl) (by kernel_rfl) (fun _ _ _ h => h) (Or.inl ⟨by rfl, ?_⟩) (by assumption) ?_
          rotate_left
          · (intro w hSw; (try dsimp only at hSw); go_simp; (try with_reducible rfl))
          simp only [Act.put, List.getElem_toArray, List.getElem_cons_zero, List.getElem_cons_succ, List.setIfInBounds_toArray, List.set_cons_zero, List.set_cons_succ]
          refine wpAnyH_done (by kernel_rfl) ?_ _
          refine NoPanic.normal ?_
          have hfin := HXE.out.put M
          obtain ⟨e0, e1, e2, e3, e4, e5⟩ := hfin.cells
          have hbf := hHeld.2
          clear d0 d1 d2 d3 d4 d5 hHeld
          go_wp2_with fail
          refine bodyPost_ret (v := .tuple #[.int .i64 1, .agg #[.int .i64 M.kind, .int .i64 M.frm, .int .i64 M.to, .int .i64 M.seq, .string M.body, .int .i64 M.trace], .int .i64 0]) (by simp [results, Try.results16, go_sem, e0, e1, e2, e3, e4, e5]) rfl ⟨by rw [HR.out]; rfl, hbf⟩
  · skip
    by_cases he : e ≠ 0
    · have HR : Hid (R = (0, zeroM, e)) := by show _ = _; rw [← hR]; exact hRE he
      have he1 : ((e : Int) != 0) = true := by simp; omega
      have he2 : ((e : Int) == 0) = false := by simp; omega
      clear hR hRE hRB hRG hok he
      go_enter Try.func16, Try.ntmps16
      go_wp2_with fail
      ((with_reducible refine (q _).mono ?_); rintro e1 W1 ⟨A, n, cap, rfl, hcap, hfs, b1⟩)
      have hbx := b1
      have hxe := HX.out.below hbx
      obtain ⟨d0, d1, d2, d3, d4, d5⟩ := hxe.cells
      simp only [zeroM, bemp] at d0 d1 d2 d3 d4 d5
      have f0 := hxe.frozen 0
      have f1 := hxe.frozen 1
      have f2 := hxe.frozen 2
      have f3 := hxe.frozen 3
      have f4 := hxe.frozen 4
      have f5 := hxe.frozen 5
      have HXE := Lib.hid hxe; clear hxe
      have HBE := Lib.hid (bch HB0.out hbx); clear hbx
      go_wp2_with fail
      have hfin := HXE.out.put zeroM
      obtain ⟨e0, e1, e2, e3, e4, e5⟩ := hfin.cells
      try simp only [zeroM, bemp] at e0 e1 e2 e3 e4 e5
      have hbf := below_msg6 HBE.out (Nat.le_refl _) zeroM
      try simp only [zeroM, bemp] at hbf
      refine bodyPost_ret (v := .tuple #[.int .i64 0, .agg #[.int .i64 0, .int .i64 0, .int .i64 0, .int .i64 0, .string ⟨#[]⟩, .int .i64 0], .int .i64 e]) (by simp [results, Try.results16, go_sem, e0, e1, e2, e3, e4, e5]) rfl ⟨by rw [HR.out]; rfl, hbf⟩
    have he0 : e = 0 := by omega
    subst he0
    have HRR := Lib.hid hR; clear hR
    have HRB := Lib.hid (hRB rfl); clear hRB
    have HRG := Lib.hid (hRG rfl); clear hRG
    have hrb := (hok rfl).2.2
    have HRIGHT := Lib.hid hrb; clear hrb hok hRE he
    go_enter Try.func16, Try.ntmps16
    go_wp2_with fail
    ((with_reducible refine (q _).mono ?_); rintro e1 W1 ⟨A, n, cap, rfl, hcap, hfs, b1⟩)
    have HB1 := Lib.hid b1; clear b1
    go_upto_region 8 with fail
    have hm0 : MgBlk (W1.alloc (.cells #[.int .i64 0, .int .i64 0, .int .i64 0, .int .i64 0, .string ⟨#[]⟩, .int .i64 0] 23)) W1.heap.size zeroM := MgBlk.new W1 zeroM
    have hbv : Below W1.heap.size W1 (W1.alloc (.cells #[.int .i64 0, .int .i64 0, .int .i64 0, .int .i64 0, .string ⟨#[]⟩, .int .i64 0] 23)) := (Below.refl _ _).alloc (Nat.le_refl _) _
    obtain ⟨V1, hV1⟩ : ∃ W, W1.alloc (.cells #[.int .i64 0, .int .i64 0, .int .i64 0, .int .i64 0, .string ⟨#[]⟩, .int .i64 0] 23) = W := ⟨_, rfl⟩
    rw [hV1] at hm0 hbv
    rw [hV1]
    clear hV1
    have hnl := hfs.1
    have hnm := hfs.2.1
    unfold maxLen at hnm
    have HFS := Lib.hid hfs; clear hfs
    have HM0 := Lib.hid hm0; clear hm0
    have HBV := Lib.hid hbv; clear hbv
    have HNL := Lib.hid hnl; clear hnl
    go_wp2_with fail
    go_loopw [9] (fun i wy => ∃ (k : Nat) (wq : World), wq = wy ∧ k ≤ n ∧ i = .int .i64 k ∧ MgBlk wq W1.heap.size (accM (fs.take k)) ∧ Hid (allW (fs.take k) = true) ∧ Hid ((accM (fs.take k)).body.size ≤ 1000) ∧ Below W1.heap.size W1 wq) (fun i _ => n - (intOf i).toNat)
    case atStart => exact ⟨0, _, rfl, by omega, rfl, HM0.out, rfl, (by show (ByteArray.empty).size ≤ 1000; decide), HBV.out⟩
    case round =>
      obtain ⟨k, wq, rfl, hk, rfl, hm, hal, hbd, hbq⟩ := hrel
      by_cases hlt : k < n
      · have HK : Hid (k < fs.length) := by have := HNL.out; show k < fs.length; omega
        obtain ⟨b, off, hA, hb, hat⟩ := HFS.out.2.2.2 (by omega)
        subst hA
        obtain ⟨x0, x1⟩ := hat k HK.out
        have c0 := (hbq.cell (p := ⟨b, off + k * 2, none⟩) hb).trans x0
        have c1 := (hbq.cell (p := ⟨b, off + k * 2 + 1, none⟩) hb).trans x1
        clear hat x0 x1
        have htp := tag_pos HRIGHT.out HK.out
        obtain ⟨t, ht⟩ : ∃ t, tg fs k = t := ⟨_, rfl⟩
        obtain ⟨d, hd⟩ : ∃ d, dt fs k = d := ⟨_, rfl⟩
        rw [ht, hd] at htp
        rw [ht] at c0
        rw [hd] at c1
        have HT := Lib.hid ht; clear ht
        have HD := Lib.hid hd; clear hd
        have hb0 : (0 : Int) ≤ (k : Int) := by omega
        have hb1 : (k : Int) < (n : Int) := by omega
        have q8 := fun W => refwhole_any d (by omega) W
        cases hok2 : okW t d with
        | false =>
          have HOK := Lib.hid hok2; clear hok2 hm
          have hbx := bch HB1.out hbq
          obtain ⟨wn, hwn⟩ : ∃ x, wholeN d.data.toList = x := ⟨_, rfl⟩
          rw [hwn] at q8
          have HR : Hid (R = (0, zeroM, 21)) := by show _ = _; rw [← HRR.out]; exact HRB.out (.inl (allW_no HK.out (by rw [HT.out, HD.out]; exact HOK.out)))
          by_cases g1 : d.size = 0
          · have e5 := (tl_size d).2 g1
            clear HOK hwn g1
            clear hbq
            go_wp2_with fail
            ((with_reducible refine (q8 _).mono ?_); rintro e8 W8 ⟨rfl, rfl⟩)
            have hxe := HX.out.below hbx
            obtain ⟨d0, d1, d2, d3, d4, d5⟩ := hxe.cells
            simp only [zeroM, bemp] at d0 d1 d2 d3 d4 d5
            have f0 := hxe.frozen 0
            have f1 := hxe.frozen 1
            have f2 := hxe.frozen 2
            have f3 := hxe.frozen 3
            have f4 := hxe.frozen 4
            have f5 := hxe.frozen 5
            have HXE := Lib.hid hxe; clear hxe
            have HBE := Lib.hid (bch HB0.out hbx); clear hbx
            go_wp2_with fail
            have hfin := HXE.out.put zeroM
            obtain ⟨e0, e1, e2, e3, e4, e5⟩ := hfin.cells
            try simp only [zeroM, bemp] at e0 e1 e2 e3 e4 e5
            have hbf := below_msg6 HBE.out (Nat.le_refl _) zeroM
            try simp only [zeroM, bemp] at hbf
            refine bodyPost_ret (v := .tuple #[.int .i64 0, .agg #[.int .i64 0, .int .i64 0, .int .i64 0, .int .i64 0, .string ⟨#[]⟩, .int .i64 0], .int .i64 21]) (by simp [results, Try.results16, go_sem, e0, e1, e2, e3, e4, e5]) rfl ⟨by rw [HR.out]; rfl, hbf⟩
          have e5 := tl_ne0 g1
          by_cases g2 : wn = 0 ∧ t ≠ 5
          · obtain ⟨g3, g4⟩ := g2
            have e7 : (t != 5) = true := by simp; omega
            have e8 : (t == 5) = false := by simp; omega
            subst g3
            clear HOK hwn g1
            clear hbq
            go_wp2_with fail
            ((with_reducible refine (q8 _).mono ?_); rintro e8 W8 ⟨rfl, rfl⟩)
            have hxe := HX.out.below hbx
            obtain ⟨d0, d1, d2, d3, d4, d5⟩ := hxe.cells
            simp only [zeroM, bemp] at d0 d1 d2 d3 d4 d5
            have f0 := hxe.frozen 0
            have f1 := hxe.frozen 1
            have f2 := hxe.frozen 2
            have f3 := hxe.frozen 3
            have f4 := hxe.frozen 4
            have f5 := hxe.frozen 5
            have HXE := Lib.hid hxe; clear hxe
            have HBE := Lib.hid (bch HB0.out hbx); clear hbx
            go_wp2_with fail
            have hfin := HXE.out.put zeroM
            obtain ⟨e0, e1, e2, e3, e4, e5⟩ := hfin.cells
            try simp only [zeroM, bemp] at e0 e1 e2 e3 e4 e5
            have hbf := below_msg6 HBE.out (Nat.le_refl _) zeroM
            try simp only [zeroM, bemp] at hbf
            refine bodyPost_ret (v := .tuple #[.int .i64 0, .agg #[.int .i64 0, .int .i64 0, .int .i64 0, .int .i64 0, .string ⟨#[]⟩, .int .i64 0], .int .i64 21]) (by simp [results, Try.results16, go_sem, e0, e1, e2, e3, e4, e5]) rfl ⟨by rw [HR.out]; rfl, hbf⟩
          · have g5 : 6 < t ∧ wn ≠ 0 := by
              have h1 : ¬ (1 ≤ d.size ∧ (t = 5 ∨ 0 < wholeN d.data.toList) ∧ t ≤ 6) := by rw [← okW_iff, HOK.out]; simp
              omega
            have e6 : ((wn : Int) == 0) = false := by simp; omega
            have n1 : (t == 1) = false := by simp; omega
            have n2 : (t == 2) = false := by simp; omega
            have n3 : (t == 3) = false := by simp; omega
            have n4 : (t == 4) = false := by simp; omega
            have n5 : (t == 5) = false := by simp; omega
            have n6 : (t == 6) = false := by simp; omega
            clear HOK hwn g1 g2 g5
            clear hbq
            go_wp2_with fail
            ((with_reducible refine (q8 _).mono ?_); rintro e8 W8 ⟨rfl, rfl⟩)
            have hxe := HX.out.below hbx
            obtain ⟨d0, d1, d2, d3, d4, d5⟩ := hxe.cells
            simp only [zeroM, bemp] at d0 d1 d2 d3 d4 d5
            have f0 := hxe.frozen 0
            have f1 := hxe.frozen 1
            have f2 := hxe.frozen 2
            have f3 := hxe.frozen 3
            have f4 := hxe.frozen 4
            have f5 := hxe.frozen 5
            have HXE := Lib.hid hxe; clear hxe
            have HBE := Lib.hid (bch HB0.out hbx); clear hbx
            go_wp2_with fail
            have hfin := HXE.out.put zeroM
            obtain ⟨e0, e1, e2, e3, e4, e5⟩ := hfin.cells
            try simp only [zeroM, bemp] at e0 e1 e2 e3 e4 e5
            have hbf := below_msg6 HBE.out (Nat.le_refl _) zeroM
            try simp only [zeroM, bemp] at hbf
            refine bodyPost_ret (v := .tuple #[.int .i64 0, .agg #[.int .i64 0, .int .i64 0, .int .i64 0, .int .i64 0, .string ⟨#[]⟩, .int .i64 0], .int .i64 21]) (by simp [results, Try.results16, go_sem, e0, e1, e2, e3, e4, e5]) rfl ⟨by rw [HR.out]; rfl, hbf⟩
        | true =>
          have ho := okW_iff.1 hok2
          have HOK := Lib.hid hok2; clear hok2
          have e5 := tl_ne0 (s := d) (by omega)
          obtain ⟨wn, hwn⟩ : ∃ x, wholeN d.data.toList = x := ⟨_, rfl⟩
          rw [hwn] at q8
          have hst := accM_take HK.out
          rw [HT.out, HD.out] at hst
          have HST := Lib.hid hst; clear hst
          have HAL := Lib.hid (allW_take HK.out hal.out (by rw [HT.out, HD.out]; exact HOK.out))
          have HWN := Lib.hid hwn
          have HDS := Lib.hid htp.2
          have ht6 : t = 1 ∨ t = 2 ∨ t = 3 ∨ t = 4 ∨ t = 5 ∨ t = 6 := by omega
          rcases ht6 with rfl | rfl | rfl | rfl | rfl | rfl
          · skip
            have hn := (hm.step).1 (wn : Int)
            have hbn := hbq.setCell (p := ⟨W1.heap.size, 0, none⟩) (Nat.le_refl _) (.int .i64 (wn : Int))
            obtain ⟨x0, x1, x2, x3, x4, x5⟩ := hm.cells
            have y0 := hm.frozen 0
            have HN := Lib.hid hn; clear hn hm
            have HBN := Lib.hid hbn; clear hbn hbq
            have e6 : ((wn : Int) == 0) = false := by simp; omega
            clear hwn ho
            go_wp2_with fail
            ((with_reducible refine (q8 _).mono ?_); rintro e8 W8 ⟨rfl, rfl⟩)
            go_wp2_with fail
            go_roundw
            case rel => exact ⟨k + 1, _, rfl, by omega, by go_num, HN.out.of (by rw [HST.out, ← HWN.out]; rfl), HAL.out, by show _ ≤ _; rw [HST.out]; exact hbd.out, HBN.out⟩
            case measure => simp [intOf]; omega
          · skip
            have hn := (hm.step).2.1 (wn : Int)
            have hbn := hbq.setCell (p := ⟨W1.heap.size, 1, none⟩) (Nat.le_refl _) (.int .i64 (wn : Int))
            obtain ⟨x0, x1, x2, x3, x4, x5⟩ := hm.cells
            have y0 := hm.frozen 1
            have HN := Lib.hid hn; clear hn hm
            have HBN := Lib.hid hbn; clear hbn hbq
            have e6 : ((wn : Int) == 0) = false := by simp; omega
            clear hwn ho
            go_wp2_with fail
            ((with_reducible refine (q8 _).mono ?_); rintro e8 W8 ⟨rfl, rfl⟩)
            go_wp2_with fail
            go_roundw
            case rel => exact ⟨k + 1, _, rfl, by omega, by go_num, HN.out.of (by rw [HST.out, ← HWN.out]; rfl), HAL.out, by show _ ≤ _; rw [HST.out]; exact hbd.out, HBN.out⟩
            case measure => simp [intOf]; omega
          · skip
            have hn := (hm.step).2.2.1 (wn : Int)
            have hbn := hbq.setCell (p := ⟨W1.heap.size, 2, none⟩) (Nat.le_refl _) (.int .i64 (wn : Int))
            obtain ⟨x0, x1, x2, x3, x4, x5⟩ := hm.cells
            have y0 := hm.frozen 2
            have HN := Lib.hid hn; clear hn hm
            have HBN := Lib.hid hbn; clear hbn hbq
            have e6 : ((wn : Int) == 0) = false := by simp; omega
            clear hwn ho
            go_wp2_with fail
            ((with_reducible refine (q8 _).mono ?_); rintro e8 W8 ⟨rfl, rfl⟩)
            go_wp2_with fail
            go_roundw
            case rel => exact ⟨k + 1, _, rfl, by omega, by go_num, HN.out.of (by rw [HST.out, ← HWN.out]; rfl), HAL.out, by show _ ≤ _; rw [HST.out]; exact hbd.out, HBN.out⟩
            case measure => simp [intOf]; omega
          · skip
            have hn := (hm.step).2.2.2.1 (wn : Int)
            have hbn := hbq.setCell (p := ⟨W1.heap.size, 3, none⟩) (Nat.le_refl _) (.int .i64 (wn : Int))
            obtain ⟨x0, x1, x2, x3, x4, x5⟩ := hm.cells
            have y0 := hm.frozen 3
            have HN := Lib.hid hn; clear hn hm
            have HBN := Lib.hid hbn; clear hbn hbq
            have e6 : ((wn : Int) == 0) = false := by simp; omega
            clear hwn ho
            go_wp2_with fail
            ((with_reducible refine (q8 _).mono ?_); rintro e8 W8 ⟨rfl, rfl⟩)
            go_wp2_with fail
            go_roundw
            case rel => exact ⟨k + 1, _, rfl, by omega, by go_num, HN.out.of (by rw [HST.out, ← HWN.out]; rfl), HAL.out, by show _ ≤ _; rw [HST.out]; exact hbd.out, HBN.out⟩
            case measure => simp [intOf]; omega
          · skip
            have hn := (hm.step).2.2.2.2.1 d
            have hbn := hbq.setCell (p := ⟨W1.heap.size, 4, none⟩) (Nat.le_refl _) (.string d)
            obtain ⟨x0, x1, x2, x3, x4, x5⟩ := hm.cells
            have y0 := hm.frozen 4
            have HN := Lib.hid hn; clear hn hm
            have HBN := Lib.hid hbn; clear hbn hbq
            by_cases hw : wn = 0
            · subst hw
              clear hwn
              go_wp2_with fail
              ((with_reducible refine (q8 _).mono ?_); rintro e8 W8 ⟨rfl, rfl⟩)
              go_wp2_with fail
              go_roundw
              case rel => exact ⟨k + 1, _, rfl, by omega, by go_num, HN.out.of (by rw [HST.out]; rfl), HAL.out, by show _ ≤ _; rw [HST.out]; exact HDS.out, HBN.out⟩
              case measure => simp [intOf]; omega
            · have e6 : ((wn : Int) == 0) = false := by simp; omega
              clear hw hwn
              go_wp2_with fail
              ((with_reducible refine (q8 _).mono ?_); rintro e8 W8 ⟨rfl, rfl⟩)
              go_wp2_with fail
              go_roundw
              case rel => exact ⟨k + 1, _, rfl, by omega, by go_num, HN.out.of (by rw [HST.out]; rfl), HAL.out, by show _ ≤ _; rw [HST.out]; exact HDS.out, HBN.out⟩
              case measure => simp [intOf]; omega
          · skip
            have hn := (hm.step).2.2.2.2.2 (wn : Int)
            have hbn := hbq.setCell (p := ⟨W1.heap.size, 5, none⟩) (Nat.le_refl _) (.int .i64 (wn : Int))
            obtain ⟨x0, x1, x2, x3, x4, x5⟩ := hm.cells
            have y0 := hm.frozen 5
            have HN := Lib.hid hn; clear hn hm
            have HBN := Lib.hid hbn; clear hbn hbq
            have e6 : ((wn : Int) == 0) = false := by simp; omega
            clear hwn ho
            go_wp2_with fail
            ((with_reducible refine (q8 _).mono ?_); rintro e8 W8 ⟨rfl, rfl⟩)
            go_wp2_with fail
            go_roundw
            case rel => exact ⟨k + 1, _, rfl, by omega, by go_num, HN.out.of (by rw [HST.out, ← HWN.out]; rfl), HAL.out, by show _ ≤ _; rw [HST.out]; exact hbd.out, HBN.out⟩
            case measure => simp [intOf]; omega
      · have hke : n = k := by omega
        subst hke
        have htk : fs.take n = fs := List.take_of_length_le (by have := HNL.out; omega)
        rw [htk] at hm hal hbd
        have q9 := fun W => refrightW_any 2 (accM fs) (by have := hbd.out; omega) W
        have hrg := HRG.out hal.out
        have hrbad := fun h => HRB.out (.inr h)
        have hvv : ((2 : Nat) : Int) = 2 := rfl
        simp only [hvv] at hrg hrbad
        have hbx := bch HB1.out hbq
        unfold mgV at q9
        generalize accM fs = M at *
        clear htk
        cases hrm : rightM 2 M with
        | false =>
          have HR : Hid (R = (0, zeroM, 21)) := by show _ = _; rw [← HRR.out]; exact hrbad hrm
          rw [hrm] at q9
          clear hrg hrbad hrm
          have HMM := Lib.hid hm; clear hm
          have HBX := Lib.hid hbx; clear hbx hbq
          obtain ⟨x0, x1, x2, x3, x4, x5⟩ := HMM.out.cells
          go_wp2_with fail
          ((with_reducible refine (q9 _).mono ?_); rintro e9 W9 ⟨rfl, bq⟩)
          have HM9 := Lib.hid (HMM.out.below bq); clear HMM
          have HMM := HM9; clear HM9
          have hby := bch HBX.out bq
          clear x0 x1 x2 x3 x4 x5 bq
          have hxe := HX.out.below hby
          obtain ⟨d0, d1, d2, d3, d4, d5⟩ := hxe.cells
          simp only [zeroM, bemp] at d0 d1 d2 d3 d4 d5
          have f0 := hxe.frozen 0
          have f1 := hxe.frozen 1
          have f2 := hxe.frozen 2
          have f3 := hxe.frozen 3
          have f4 := hxe.frozen 4
          have f5 := hxe.frozen 5
          have HXE := Lib.hid hxe; clear hxe
          have HBE := Lib.hid (bch HB0.out hby); clear hby
          go_wp2_with fail
          have hfin := HXE.out.put zeroM
          obtain ⟨e0, e1, e2, e3, e4, e5⟩ := hfin.cells
          try simp only [zeroM, bemp] at e0 e1 e2 e3 e4 e5
          have hbf := below_msg6 HBE.out (Nat.le_refl _) zeroM
          try simp only [zeroM, bemp] at hbf
          refine bodyPost_ret (v := .tuple #[.int .i64 0, .agg #[.int .i64 0, .int .i64 0, .int .i64 0, .int .i64 0, .string ⟨#[]⟩, .int .i64 0], .int .i64 21]) (by simp [results, Try.results16, go_sem, e0, e1, e2, e3, e4, e5]) rfl ⟨by rw [HR.out]; rfl, hbf⟩
        | true =>
          have HR : Hid (R = (2, M, 0)) := by show _ = _; rw [← HRR.out]; exact hrg hrm
          rw [hrm] at q9
          clear hrg hrbad hrm
          have HMM := Lib.hid hm; clear hm
          have HBX := Lib.hid hbx; clear hbx hbq
          obtain ⟨x0, x1, x2, x3, x4, x5⟩ := HMM.out.cells
          go_wp2_with fail
          ((with_reducible refine (q9 _).mono ?_); rintro e9 W9 ⟨rfl, bq⟩)
          have HM9 := Lib.hid (HMM.out.below bq); clear HMM
          have HMM := HM9; clear HM9
          have hby := bch HBX.out bq
          clear x0 x1 x2 x3 x4 x5 bq
          have hne : W1.heap.size ≠ w.heap.size := by have h1 := lt_of_blk HX.out; have h2 := HB1.out.size; omega
          have HNE := Lib.hid hne; clear hne
          go_wp2_with fail
          refine wp_region_noPanic ?_
          refine wp_region_held_drew (S := fun W => MgBlk W W1.heap.size M ∧ Below w.heap.size w W) (by kernel_rfl) (⟨HMM.out.drew, (bch HB0.out hby).drew⟩) (fun hHeld => ?_)
          have hxe := (HX.out.below hby).drew
          obtain ⟨W10, hW10⟩ : ∃ W, W9.drew = W := ⟨_, rfl⟩
          rw [hW10] at hHeld hxe ⊢
          clear hW10
          refine wpAnyH_take (i := 0) (v := ?_) rfl (by kernel_rfl) (by kernel_rfl) (by kernel_rfl) (fun _ _ _ h => h) (Or.inl ⟨by rfl, ?_⟩) (by assumption) ?_
          rotate_left
          · (intro w hSw; (try dsimp only at hSw); go_simp; (try with_reducible rfl))
          simp only [Act.put, List.getElem_toArray, List.getElem_cons_zero, List.setIfInBounds_toArray, List.set_cons_zero, List.set_cons_succ]
          refine wpAnyH_take (i := 1) (v := ?_) rfl (by kernel_rfl) (by kernel_rfl) (by kernel_rfl) (fun _ _ _ h => h) (Or.inl ⟨by rfl, ?_⟩) (by assumption) ?_
          rotate_left
          · (intro w hSw; (try dsimp only at hSw); obtain ⟨x0, x1, x2, x3, x4, x5⟩ := hSw.1.cells; go_simp; (try with_reducible rfl))
          simp only [Act.put, List.getElem_toArray, List.getElem_cons_zero, List.getElem_cons_succ, List.setIfInBounds_toArray, List.set_cons_zero, List.set_cons_succ]
          refine wpAnyH_take (i := 2) (v := ?_) rfl (by kernel_rfl) (by kernel_rfl) (by kernel_rfl) (fun _ _ _ h => h) (Or.inl ⟨by rfl, ?_⟩) (by assumption) ?_
          rotate_left
          · (intro w hSw; (try dsimp only at hSw); go_simp; (try with_reducible rfl))
          simp only [Act.put, List.getElem_toArray, List.getElem_cons_zero, List.getElem_cons_succ, List.setIfInBounds_toArray, List.set_cons_zero, List.set_cons_succ]
          obtain ⟨d0, d1, d2, d3, d4, d5⟩ := hxe.cells
          have f0 := hxe.frozen 0
          have f1 := hxe.frozen 1
          have f2 := hxe.frozen 2
          have f3 := hxe.frozen 3
          have f4 := hxe.frozen 4
          have f5 := hxe.frozen 5
          have HXE := Lib.hid hxe; clear hxe
          refine wpAnyH_ready (rs := [3]) (by kernel_rfl) (by simp) ?_
          refine AllReadyH.cons rfl (fun K hK => ?_) AllReadyH.nil
          rw [if_pos (by rfl)]
          go_simp
          refine hK.out _ _ (⟨(((((hHeld.1.far HNE.out _ _).far HNE.out _ _).far HNE.out _ _).far HNE.out _ _).far HNE.out _ _).far HNE.out _ _, below_msg6 hHeld.2 (Nat.le_refl _) M⟩) (fun hHeld2 => ?_)
          clear hK K hHeld
          have hHeld := hHeld2; clear hHeld2
          refine wpAnyH_take (i := 4) (v := ?_) rfl (by kernel_rfl) (by kernel_rfl) (by kernel_rfl) (fun _ _ _ h => h) (Or.inl ⟨by rfl, ?_⟩) (by assumption) ?_
          rotate_left
          · (intro w hSw; (try dsimp only at hSw); go_simp; (try with_reducible rfl))
          simp only [Act.put, List.getElem_toArray, List.getElem_cons_zero, List.getElem_cons_succ, List.setIfInBounds_toArray, List.set_cons_zero, List.set_cons_succ]
          refine wpAnyH_done (by kernel_rfl) ?_ _
          refine NoPanic.normal ?_
          have hfin := HXE.out.put M
          obtain ⟨e0, e1, e2, e3, e4, e5⟩ := hfin.cells
          have hbf := hHeld.2
          clear d0 d1 d2 d3 d4 d5 hHeld
          go_wp2_with fail
          refine bodyPost_ret (v := .tuple #[.int .i64 2, .agg #[.int .i64 M.kind, .int .i64 M.frm, .int .i64 M.to, .int .i64 M.seq, .string M.body, .int .i64 M.trace], .int .i64 0]) (by simp [results, Try.results16, go_sem, e0, e1, e2, e3, e4, e5]) rfl ⟨by rw [HR.out]; rfl, hbf⟩
end Go.Proofs.Ytjdpihppniibjaa
