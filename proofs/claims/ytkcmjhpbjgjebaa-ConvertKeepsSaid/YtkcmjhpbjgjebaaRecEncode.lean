import Derived.Test.YtkcmjhpbjgjebaaGRec
import Derived.Test.YtkcmjhpbjgjebaaRecRefRight
import Derived.Test.YtkcmjhpbjgjebaaRefEncode
/-
  The contracts of record.Encode and of the document's own: what recE says; nothing that was in memory changes.
-/
namespace Go.Proofs.Ytkcmjhpbjgjebaa
open Go.RowKit

theorem recE_no {v : Int} {r : Rcd} (h : rightR v r = false) : recE v r = ([], 1) := by unfold recE; rw [h]; rfl
theorem recE_yes {v : Int} {r : Rcd} (h : rightR v r = true) : recE v r = encR (fieldsR r) := by unfold recE; rw [h]; rfl

set_option maxRecDepth 100000 in
set_option maxHeartbeats 4000000 in
theorem rEncode_any (v : Int) (r : Rcd) (A : Option Addr) (n cap : Nat) (w : World) (hr : RcWf r) (h : IsFs w A n r.extra) :
    Calls Try.prog 19 #[.int .i64 v, rcV r (.slice A n cap)] w fun e w' => e = .returned (.tuple #[.string (bs (recE v r).1), .int .i64 (recE v r).2]) ∧ Below w.heap.size w w' := by
  have hbw : Below w.heap.size w (w.alloc (.cells #[.string r.key, .string r.value, .int .i64 r.rev, .int .i64 r.life, .string r.note, .slice A n cap] 24)) := (Below.refl _ _).alloc (Nat.le_refl _) _
  have h0 := h.below hbw
  have p1 := rRight_any v r A n cap _ hr h0
  cases hR : rightR v r with
  | false =>
    rw [hR] at p1
    have HE : Hid (recE v r = ([], 1)) := recE_no hR
    clear hR h h0
    go_enter Try.func19, Try.ntmps19
    go_wp2_with fail
    ((with_reducible refine p1.mono ?_); rintro e w1 ⟨rfl, b1⟩)
    go_wp2_with fail
    go_ret2
    exact ⟨by rw [HE.out]; rfl, bch hbw b1⟩
  | true =>
    rw [hR] at p1
    have HE : Hid (recE v r = encR (fieldsR r)) := recE_yes hR
    have hp := rightR_iff.1 hR
    have hlen : n ≤ 64 := by
      have := (rightB_iff.1 (extraB_iff.1 hp.2.2.2.2.2).1).1
      have := h.1
      omega
    have hlf := life_bd hp
    have hrv := hp.2.2.2.1
    have p2 := fun w h => fieldsOf_any r A n cap w hr hrv ⟨hlf.1, hlf.2.1⟩ h hlen
    have P2 := Lib.hid p2
    have H0 := Lib.hid h0
    clear hR hp hlf hrv p2 h h0
    generalize fieldsR r = fs at *
    have hx := World.alloc_heap_new w (.cells #[.string r.key, .string r.value, .int .i64 r.rev, .int .i64 r.life, .string r.note, .slice A n cap] 24)
    have g0 := cell_blk hx 0
    have g1 := cell_blk hx 1
    have g2 := cell_blk hx 2
    have g3 := cell_blk hx 3
    have g4 := cell_blk hx 4
    have g5 := cell_blk hx 5
    have hz : w.heap.size < (w.alloc (.cells #[.string r.key, .string r.value, .int .i64 r.rev, .int .i64 r.life, .string r.note, .slice A n cap] 24)).heap.size := by simp
    clear hx
    go_enter Try.func19, Try.ntmps19
    go_wp2_with fail
    ((with_reducible refine p1.mono ?_); rintro e w1 ⟨rfl, b1⟩)
    have d0 := (b1.cell (p := ⟨w.heap.size, 0, none⟩) hz).trans g0
    have d1 := (b1.cell (p := ⟨w.heap.size, 1, none⟩) hz).trans g1
    have d2 := (b1.cell (p := ⟨w.heap.size, 2, none⟩) hz).trans g2
    have d3 := (b1.cell (p := ⟨w.heap.size, 3, none⟩) hz).trans g3
    have d4 := (b1.cell (p := ⟨w.heap.size, 4, none⟩) hz).trans g4
    have d5 := (b1.cell (p := ⟨w.heap.size, 5, none⟩) hz).trans g5
    clear g0 g1 g2 g3 g4 g5
    have p3 := P2.out w1 (H0.out.below b1)
    go_wp2_with fail
    ((with_reducible refine p3.mono ?_); rintro e w2 ⟨A2, n2, cap2, rfl, hc2, hf2, b2⟩)
    have p4 := encode_any A2 n2 cap2 fs w2 hf2
    clear hf2
    go_wp2_with fail
    ((with_reducible refine p4.mono ?_); rintro e w3 ⟨rfl, b3⟩)
    go_wp2_with fail
    go_ret2
    exact ⟨by rw [HE.out]; rfl, bch (bch (bch hbw b1) b2) b3⟩

/-- What is left: fields in memory, in a row of the call's own. -/
def TextPost (base : Nat) (w : World) (fs : List Fld) (e : Ending) (w' : World) : Prop :=
  ∃ A n cap, e = .returned (.slice A n cap) ∧ Hid (n = fs.length) ∧ w'.ownsRow base 44 2 (.slice A n cap) n (cellsF fs) ∧ FsWf fs ∧ Below base w w'

set_option maxRecDepth 100000 in
set_option maxHeartbeats 2000000 in
theorem reftext_any (base : Nat) (A : Option Addr) (n cap : Nat) (fs : List Fld) (t : Int) (d : ByteArray) (w : World) (hn : Hid (n = fs.length)) (hown : w.ownsRow base 44 2 (.slice A n cap) n (cellsF fs)) (hwf : FsWf fs) (ht : (Lit.int .i64 t).wf = true) (hd : d.size ≤ 9223372036854775807) (hl : n ≤ 100) (hb : base ≤ w.heap.size) :
    Calls Try.prog 54 #[.slice A n cap, .int .i64 t, .string d] w (TextPost base w (fs ++ opt t (ob d))) := by
  by_cases h0 : d.size = 0
  · have e0 := (toList_size d).2 h0
    have HO : Hid (fs ++ opt t (ob d) = fs) := by show _ = _; rw [opt_no h0, List.append_nil]
    have HOWN := Lib.hid hown
    clear h0 hown
    go_enter Try.func54, Try.ntmps54
    go_wp2_with fail
    go_ret
    rw [HO.out]
    exact ⟨A, n, cap, rfl, hn, HOWN.out, hwf, Below.refl _ _⟩
  · have e0 := toList_ne0 h0
    have HO : Hid (fs ++ opt t (ob d) = fs ++ [(t, d)]) := by show _ = _; rw [opt_yes h0]
    have hw2 : FsWf (fs ++ [(t, d)]) := hwf.append (fun f hf => by rw [List.mem_singleton] at hf; subst hf; exact ⟨ht, hd⟩)
    clear h0
    have hown1 : (w.alloc (.cells #[.int .i64 t, .string d] 44)).ownsRow base 44 2 (.slice A n cap) fs.length (cellsF fs) := by rw [← hn.out]; exact hown.alloc _
    have hl2 : fs.length ≤ 100 := by rw [← hn.out]; exact hl
    have hone : IsFs (w.alloc (.cells #[.int .i64 t, .string d] 44)) (some ⟨w.heap.size, 0, none⟩) 1 [(t, d)] := by
      have hx := World.alloc_heap_new w (.cells #[.int .i64 t, .string d] 44)
      exact isFs_one (cell_blk hx 0) (cell_blk hx 1) (ht) hd
    go_enter Try.func54, Try.ntmps54
    go_wp2_with (at_builtin; refine wpList_append_fs rfl _ _ rfl base _ fs rfl hown1 (some ⟨w.heap.size, 0, none⟩) 1 1 [(t, d)] rfl hone (by omega) (by simp; omega) ?_)
    intro v' V2 hown3 hgrow
    obtain ⟨A2, cap2, hv, hcap2, hfs2⟩ := isFs_own hown3 hw2
    subst hv
    go_wp2_with fail
    go_ret
    rw [HO.out]
    exact ⟨A2, fs.length + 1, cap2, rfl, by show _ = _; simp, hown3, hw2, (Below.refl base w |>.alloc hb _).grown hgrow (by simp; omega) (fun g hg => (hown1.lt g hg).1)⟩

theorem opt_le (t : Int) (d : ByteArray) : (opt t (ob d)).length ≤ 1 := opt_len t _
theorem bbase {B : Nat} {w W W' : World} (h : Below B w W) (hb : B ≤ W.heap.size) (k : Below W.heap.size W W') : Below B w W' := h.trans (k.mono hb)

set_option maxRecDepth 100000 in
set_option maxHeartbeats 8000000 in
theorem refrEncode_any (v : Int) (r : Rcd) (A : Option Addr) (n cap : Nat) (w : World) (hr : RcWf r) (h : IsFs w A n r.extra) :
    Calls Try.prog 39 #[.int .i64 v, rcV r (.slice A n cap)] w fun e w' => e = .returned (.tuple #[.string (bs (recE v r).1), .int .i64 (recE v r).2]) ∧ Below w.heap.size w w' := by
  have hbw : Below w.heap.size w (w.alloc (.cells #[.string r.key, .string r.value, .int .i64 r.rev, .int .i64 r.life, .string r.note, .slice A n cap] 24)) := (Below.refl _ _).alloc (Nat.le_refl _) _
  have h0 := h.below hbw
  have p1 := refrRight_any v r A n cap _ hr h0
  cases hR : rightR v r with
  | false =>
    rw [hR] at p1
    have HE : Hid (recE v r = ([], 1)) := recE_no hR
    clear hR h h0
    go_enter Try.func39, Try.ntmps39
    go_wp2_with fail
    ((with_reducible refine p1.mono ?_); rintro e w1 ⟨rfl, b1⟩)
    go_wp2_with fail
    go_ret2
    exact ⟨by rw [HE.out]; rfl, bch hbw b1⟩
  | true =>
    rw [hR] at p1
    have hp := rightR_iff.1 hR
    have HE : Hid (recE v r = encR ([] ++ opt 1 (ob r.key) ++ opt 2 (ob r.value) ++ opt 3 (ob (numD r.rev)) ++ opt 4 (ob (numD r.life)) ++ opt 5 (ob r.note) ++ r.extra)) := by
      show _ = _
      rw [recE_yes hR, fieldsR_parts]
      unfold parts
      simp only [List.append_assoc, List.nil_append]
    have hlen : n ≤ 64 := by
      have := (rightB_iff.1 (extraB_iff.1 hp.2.2.2.2.2).1).1
      have := h.1
      omega
    have hlf := life_bd hp
    have hrv := hp.2.2.2.1
    have q3 := refnumber_any r.rev hrv.1 hrv.2
    have q4 := refnumber_any r.life hlf.1 hlf.2.1
    have z3 := numD_size hrv.1 hrv.2
    have z4 := numD_size hlf.1 hlf.2.1
    obtain ⟨z1, z2, z5⟩ := hr
    have H0 := Lib.hid h0
    clear hR hp hlf hrv h h0
    have hx := World.alloc_heap_new w (.cells #[.string r.key, .string r.value, .int .i64 r.rev, .int .i64 r.life, .string r.note, .slice A n cap] 24)
    have g0 := cell_blk hx 0
    have g1 := cell_blk hx 1
    have g2 := cell_blk hx 2
    have g3 := cell_blk hx 3
    have g4 := cell_blk hx 4
    have g5 := cell_blk hx 5
    have hz : w.heap.size < (w.alloc (.cells #[.string r.key, .string r.value, .int .i64 r.rev, .int .i64 r.life, .string r.note, .slice A n cap] 24)).heap.size := by simp
    have o1 := opt_le 1 r.key
    have o2 := opt_le 2 r.value
    have o3 := opt_le 3 (numD r.rev)
    have o4 := opt_le 4 (numD r.life)
    have o5 := opt_le 5 r.note
    generalize numD r.rev = N3 at *
    generalize numD r.life = N4 at *
    clear hx
    obtain ⟨l0, hl0⟩ : ∃ l : List Fld, [] = l := ⟨_, rfl⟩
    rw [hl0] at HE
    obtain ⟨l1, hl1⟩ : ∃ l, l0 ++ opt 1 (ob r.key) = l := ⟨_, rfl⟩
    rw [hl1] at HE
    obtain ⟨l2, hl2⟩ : ∃ l, l1 ++ opt 2 (ob r.value) = l := ⟨_, rfl⟩
    rw [hl2] at HE
    obtain ⟨l3, hl3⟩ : ∃ l, l2 ++ opt 3 (ob N3) = l := ⟨_, rfl⟩
    rw [hl3] at HE
    obtain ⟨l4, hl4⟩ : ∃ l, l3 ++ opt 4 (ob N4) = l := ⟨_, rfl⟩
    rw [hl4] at HE
    obtain ⟨l5, hl5⟩ : ∃ l, l4 ++ opt 5 (ob r.note) = l := ⟨_, rfl⟩
    rw [hl5] at HE
    have e0 : l0.length = 0 := by rw [← hl0]; rfl
    have e1 : l1.length ≤ 1 := by rw [← hl1, List.length_append]; omega
    have e2 : l2.length ≤ 2 := by rw [← hl2, List.length_append]; omega
    have e3 : l3.length ≤ 3 := by rw [← hl3, List.length_append]; omega
    have e4 : l4.length ≤ 4 := by rw [← hl4, List.length_append]; omega
    have e5 : l5.length ≤ 5 := by rw [← hl5, List.length_append]; omega
    have E0 := Lib.hid e0; clear e0
    have own0 : ∀ (W : World) (B : Nat), W.ownsRow B 44 2 (.slice none 0 0) 0 (cellsF l0) := by
      intro W B; rw [← hl0]; exact World.ownsRow_nil _ _ _ _
    have OWN0 := Lib.hid own0; clear own0
    have wf0 : FsWf l0 := by rw [← hl0]; intro f hf; cases hf
    have t1 := fun w hn ho hw hb => reftext_any (w.heap.size) none 0 0 l0 1 r.key w hn ho hw (by decide) (by omega) (by omega) hb
    rw [hl1] at t1
    have t2 := fun B A n cap w hn ho hw hl hb => reftext_any B A n cap l1 2 r.value w hn ho hw (by decide) (by omega) hl hb
    rw [hl2] at t2
    have t3 := fun B A n cap w hn ho hw hl hb => reftext_any B A n cap l2 3 N3 w hn ho hw (by decide) (by omega) hl hb
    rw [hl3] at t3
    have t4 := fun B A n cap w hn ho hw hl hb => reftext_any B A n cap l3 4 N4 w hn ho hw (by decide) (by omega) hl hb
    rw [hl4] at t4
    have t5 := fun B A n cap w hn ho hw hl hb => reftext_any B A n cap l4 5 r.note w hn ho hw (by decide) (by omega) hl hb
    rw [hl5] at t5
    have T1 := Lib.hid t1; clear t1
    have T2 := Lib.hid t2; clear t2
    have T3 := Lib.hid t3; clear t3
    have T4 := Lib.hid t4; clear t4
    have T5 := Lib.hid t5; clear t5
    clear hl0 hl1 hl2 hl3 hl4 hl5
    go_enter Try.func39, Try.ntmps39
    go_wp2_with fail
    ((with_reducible refine p1.mono ?_); rintro e w1 ⟨rfl, b1⟩)
    have d0 := (b1.cell (p := ⟨w.heap.size, 0, none⟩) hz).trans g0
    have d1 := (b1.cell (p := ⟨w.heap.size, 1, none⟩) hz).trans g1
    have d2 := (b1.cell (p := ⟨w.heap.size, 2, none⟩) hz).trans g2
    have d3 := (b1.cell (p := ⟨w.heap.size, 3, none⟩) hz).trans g3
    have d4 := (b1.cell (p := ⟨w.heap.size, 4, none⟩) hz).trans g4
    have d5 := (b1.cell (p := ⟨w.heap.size, 5, none⟩) hz).trans g5
    have hX := lt_of_cell (a := ⟨w.heap.size, 0, none⟩) d0
    have hfx := H0.out.below b1
    have b01 := bch hbw b1
    have HFX := Lib.hid hfx
    clear g0 g1 g2 g3 g4 g5 hz H0 p1 hbw hfx
    simp only at hX
    have u1 := T1.out w1 E0.out.symm (OWN0.out _ _) wf0 (Nat.le_refl _)
    go_wp2_with fail
    ((with_reducible refine u1.mono ?_); rintro e w2 ⟨A2, n2, cap2, rfl, hn2, hown2, hwf2, b2⟩)
    clear u1
    have d1 := (b2.cell (p := ⟨w.heap.size, 1, none⟩) hX).trans d1
    have hm2 := b2.size
    have hq2 : n2 ≤ 1 := by rw [hn2.out]; exact e1
    have u2 := T2.out w1.heap.size A2 n2 cap2 w2 hn2 hown2 hwf2 (by omega) hm2
    go_wp2_with fail
    ((with_reducible refine u2.mono ?_); rintro e w3 ⟨A3, n3, cap3, rfl, hn3, hown3, hwf3, b3⟩)
    clear u2
    have b3 := b2.trans b3
    have hm3 := b3.size
    have d2 := (b3.cell (p := ⟨w.heap.size, 2, none⟩) hX).trans d2
    have hq3 : n3 ≤ 2 := by rw [hn3.out]; exact e2
    go_wp2_with fail
    ((with_reducible refine (q3 _).mono ?_); rintro e w4 ⟨rfl, b4⟩)
    have u3 := T3.out w1.heap.size A3 n3 cap3 w4 hn3 (own_below hown3 b4) hwf3 (by omega) (by have := b4.size; omega)
    have b4 := b3.trans (b4.mono hm3)
    go_wp2_with fail
    ((with_reducible refine u3.mono ?_); rintro e w5 ⟨A5, n5, cap5, rfl, hn5, hown5, hwf5, b5⟩)
    clear u3 q3
    have b5 := b4.trans b5
    have hm5 := b5.size
    have d3 := (b5.cell (p := ⟨w.heap.size, 3, none⟩) hX).trans d3
    have hq5 : n5 ≤ 3 := by rw [hn5.out]; exact e3
    go_wp2_with fail
    ((with_reducible refine (q4 _).mono ?_); rintro e w6 ⟨rfl, b6⟩)
    have u4 := T4.out w1.heap.size A5 n5 cap5 w6 hn5 (own_below hown5 b6) hwf5 (by omega) (by have := b6.size; omega)
    have b6 := b5.trans (b6.mono hm5)
    go_wp2_with fail
    ((with_reducible refine u4.mono ?_); rintro e w7 ⟨A7, n7, cap7, rfl, hn7, hown7, hwf7, b7⟩)
    clear u4 q4
    have b7 := b6.trans b7
    have hm7 := b7.size
    have d4 := (b7.cell (p := ⟨w.heap.size, 4, none⟩) hX).trans d4
    have hq7 : n7 ≤ 4 := by rw [hn7.out]; exact e4
    have u5 := T5.out w1.heap.size A7 n7 cap7 w7 hn7 hown7 hwf7 (by omega) hm7
    go_wp2_with fail
    ((with_reducible refine u5.mono ?_); rintro e w8 ⟨A8, n8, cap8, rfl, hn8, hown8, hwf8, b8⟩)
    clear u5
    have b8 := b7.trans b8
    have hm8 := b8.size
    have d5 := (b8.cell (p := ⟨w.heap.size, 5, none⟩) hX).trans d5
    have hfx : IsFs w8 A n r.extra := HFX.out.below b8
    have hwx := hfx.2.2.1
    have hq8 : l5.length ≤ 5 := e5
    have hown8' : w8.ownsRow w1.heap.size 44 2 (.slice A8 n8 cap8) l5.length (cellsF l5) := by rw [← hn8.out]; exact hown8
    clear d0 d1 d2 d3 d4 hown8 hown7 hown5 hown3 hown2
    go_wp2_with (at_builtin; refine wpList_append_fs rfl _ _ rfl w1.heap.size _ l5 rfl hown8' A n cap r.extra rfl hfx (by omega) hm8 ?_)
    intro v' w9 hown9 hgrow
    obtain ⟨A9, cap9, hv, hcap9, hfs9⟩ := isFs_own hown9 (hwf8.append hwx)
    subst hv
    have b9 : Below w1.heap.size w1 w9 := b8.grown hgrow hm8 (fun g hg => (hown8'.lt g hg).1)
    have p9 := refencode_any A9 _ cap9 _ w9 hfs9
    rw [← HE.out] at p9
    clear hown9 hown8' hgrow hfs9
    generalize (l5 ++ r.extra).length = n9 at p9 ⊢
    go_wp2_with fail
    ((with_reducible refine p9.mono ?_); rintro e w10 ⟨rfl, b10⟩)
    go_wp2_with fail
    go_ret2
    exact ⟨rfl, bch (bch b01 b9) b10⟩
end Go.Proofs.Ytkcmjhpbjgjebaa
