import Derived.Test.YtjdpihppniibjaaWirePb
/-
  The contract of the program's own fieldsOf (stage 8): the fields of a message, in new memory.
-/
namespace Go.Proofs.Ytjdpihppniibjaa
open Go.RowKit
set_option linter.unusedVariables false
/-- What is left: fields in memory. -/
def FldPostW (w : World) (fs : List Fld) (e : Ending) (w' : World) : Prop :=
  ∃ A n cap, e = .returned (.slice A n cap) ∧ n ≤ cap ∧ IsFs w' A n fs ∧ Below w.heap.size w w'
theorem six_at (m : Mg) (k : Nat) (h : k < 6) : tg (six m) k = (k : Int) + 1 ∧ (k = 4 → dt (six m) k = m.body) ∧ (k ≠ 4 → ∃ n, dt (six m) k = numD n ∧ n = (if k = 0 then m.kind else if k = 1 then m.frm else if k = 2 then m.to else if k = 3 then m.seq else m.trace)) := by
  rcases (by omega : k = 0 ∨ k = 1 ∨ k = 2 ∨ k = 3 ∨ k = 4 ∨ k = 5) with rfl | rfl | rfl | rfl | rfl | rfl <;> simp [six, tg, dt]

theorem opt_yes {t : Int} {d : ByteArray} (h : d.size ≠ 0) : opt t (ob d) = [(t, d)] := by unfold ob; rw [if_neg h]; rfl
theorem opt_no {t : Int} {d : ByteArray} (h : d.size = 0) : opt t (ob d) = [] := by unfold ob; rw [if_pos h]; rfl
theorem full_snoc (l : List Fld) (t : Int) (d : ByteArray) : full (l ++ [(t, d)]) = full l ++ opt t (ob d) := by
  have h1 : full [(t, d)] = opt t (ob d) := by rw [full_cons, full_nil]; simp
  rw [← h1]; unfold full; rw [List.filter_append]
theorem full_take {fs : List Fld} {k : Nat} (h : k < fs.length) : full (fs.take (k + 1)) = full (fs.take k) ++ opt (tg fs k) (ob (dt fs k)) := by
  rw [List.take_succ_eq_append_getElem h, fld_at h, full_snoc]
theorem full_le (l : List Fld) : (full l).length ≤ l.length := List.length_filter_le _ _
theorem FsWf.full {l : List Fld} (h : FsWf l) (k : Nat) : FsWf (full (l.take k)) := fun f hf => h f (List.mem_of_mem_take (List.mem_filter.1 hf).1)
theorem six_wf {m : Mg} (hr : RightM 2 m) : FsWf (six m) := by
  obtain ⟨_, h1, h2, h3, h4, h6, h5⟩ := hr
  have n1 := numD_size (n := m.kind) (by omega) (by omega)
  have n2 := numD_size h2.1 h2.2
  have n3 := numD_size h3.1 h3.2
  have n4 := numD_size h4.1 h4.2
  have n6 := numD_size h6.1 h6.2
  intro f hf
  simp only [six, List.mem_cons, List.not_mem_nil, or_false] at hf
  rcases hf with rfl | rfl | rfl | rfl | rfl | rfl <;> exact ⟨rfl, by simp only; omega⟩
theorem place_num (g k : Nat) (h : k < 6) (h4 : k ≠ 4) (w : World) : (Instr.index 68 (plV g) (.int .i64 (k : Int))).run Try.prog w = .ok (.iface 79 (.pointer (some ⟨g, k, none⟩))) w := by
  rcases (by omega : k = 0 ∨ k = 1 ∨ k = 2 ∨ k = 3 ∨ k = 5) with rfl | rfl | rfl | rfl | rfl <;> kernel_rfl
theorem place_text (g k : Nat) (h4 : k = 4) (w : World) : (Instr.index 68 (plV g) (.int .i64 (k : Int))).run Try.prog w = .ok (.iface 81 (.pointer (some ⟨g, k, none⟩))) w := by
  subst h4; kernel_rfl
set_option maxRecDepth 100000 in
set_option maxHeartbeats 8000000 in
theorem fieldsOfW_any (m : Mg) (hr : RightM 2 m) (w : World) :
    Calls Try.prog 18 #[mgV m] w (FldPostW w (fieldsM m)) := by
  have hb0 : Below w.heap.size w (w.alloc (.cells #[.int .i64 m.kind, .int .i64 m.frm, .int .i64 m.to, .int .i64 m.seq, .string m.body, .int .i64 m.trace] 23)) := (Below.refl _ _).alloc (Nat.le_refl _) _
  have hm0 := MgBlk.new w m
  unfold mgV at *
  obtain ⟨W0, hW0⟩ : ∃ W, w.alloc (.cells #[.int .i64 m.kind, .int .i64 m.frm, .int .i64 m.to, .int .i64 m.seq, .string m.body, .int .i64 m.trace] 23) = W := ⟨_, rfl⟩
  rw [hW0] at hb0 hm0
  have q0 := placesOf_any w.heap.size m W0 hm0
  have HB0 := Lib.hid hb0; clear hb0
  have HM := Lib.hid hm0; clear hm0
  obtain ⟨c0, c1, c2, c3, c4, c5⟩ := HM.out.cells
  obtain ⟨i0, hi0, hz0, hz1, hz2⟩ := info_parts infoFld
  go_enter Try.func18, Try.ntmps18
  go_wp2_with fail
  ((with_reducible refine q0.mono ?_); rintro e W1 ⟨rfl, b1⟩)
  clear c0 c1 c2 c3 c4 c5 hW0 q0
  obtain ⟨d0, d1, d2, d3, d4, d5⟩ := (HM.out.below b1).cells
  have HWF := Lib.hid (six_wf hr)
  obtain ⟨P, hP⟩ : ∃ P, plV w.heap.size = P := ⟨_, rfl⟩
  rw [hP]
  have HP := Lib.hid hP; clear hP
  go_wp2_with fail
  go_loopw [3, 8] (fun l i wr => ∃ k : Nat, k ≤ 6 ∧ i = .int .i64 k ∧ wr.ownsRow W1.heap.size 47 2 l (full ((six m).take k)).length (cellsF (full ((six m).take k))) ∧ Below W1.heap.size W1 wr) (fun _ i _ => 6 - (intOf i).toNat)
  case atStart => exact ⟨0, by omega, rfl, World.ownsRow_nil _ _ _ _, Below.refl _ _⟩
  case round =>
    obtain ⟨k, hk, rfl, hown, hbw⟩ := hrel
    obtain ⟨A1, cap1, hv, hcap, hfs⟩ := isFs_own hown (HWF.out.full k)
    subst hv
    have hlf : (full ((six m).take k)).length ≤ k := Nat.le_trans (full_le _) (List.length_take_le _ _)
    have HB1 := Lib.hid hbw; clear hbw
    have HN := Lib.hid hown; clear hown
    by_cases hlt : k < 6
    · have hsix : (six m).length = 6 := rfl
      have hT := full_take (fs := six m) (k := k) (by omega)
      obtain ⟨a1, a2, a3⟩ := six_at m k hlt
      rw [a1] at hT
      by_cases h4 : k = 4
      · have hi := place_text w.heap.size k h4 
        rw [HP.out] at hi
        rw [a2 h4] at hT
        have hcell : W1.cell? ⟨w.heap.size, k, none⟩ = some (.string m.body) := by rw [h4]; exact d4
        have hcw := (HB1.out.cell (p := ⟨w.heap.size, k, none⟩) (lt_of_cell (a := ⟨w.heap.size, k, none⟩) hcell)).trans hcell
        have q := textData_any w.heap.size k m.body wr hcw
        have hsz : m.body.size ≤ 1000 := hr.2.2.2.2.2.2
        clear hcell hcw
        obtain ⟨D, hD⟩ : ∃ D, m.body = D := ⟨_, rfl⟩
        rw [hD] at hT q hsz
        have HT := Lib.hid hT; clear hT
        clear d0 d1 d2 d3 d4 d5 a1 a2 a3 h4 hsix hD
        by_cases h0 : D.size = 0
        · have HT2 : Hid (full ((six m).take (k + 1)) = full ((six m).take k)) := by show _ = _; rw [HT.out, opt_no h0, List.append_nil]
          have e0 := (tl_size _).2 h0
          clear HT h0
          go_wp2_with fail
          ((with_reducible refine q.mono ?_); rintro e W2 ⟨rfl, b2⟩)
          go_wp2_with fail
          go_roundw
          case rel => exact ⟨k + 1, by omega, by go_num, by rw [HT2.out]; exact ownsF_below HN.out b2, bch HB1.out b2⟩
          case measure => simp [intOf]; omega
        · have HT2 : Hid (full ((six m).take (k + 1)) = full ((six m).take k) ++ [((k : Int) + 1, D)]) := by show _ = _; rw [HT.out, opt_yes h0]
          have e0 := tl_ne0 h0
          clear HT h0
          go_wp2_with fail
          ((with_reducible refine q.mono ?_); rintro e W2 ⟨rfl, b2⟩)
          have HRa : Hid ((W2.alloc (.cells #[.int .i64 ((k : Int) + 1), .string D] 47)).ownsRow W1.heap.size 47 2 (.slice A1 (full ((six m).take k)).length cap1) (full ((six m).take k)).length (cellsF (full ((six m).take k)))) := ownsF_below (ownsF_below HN.out b2) ((Below.refl _ _).alloc (Nat.le_refl _) _)
          have HBa : Hid (Below W1.heap.size W1 (W2.alloc (.cells #[.int .i64 ((k : Int) + 1), .string D] 47))) := (bch HB1.out b2).alloc (bch HB1.out b2).size _
          have HS2 := Lib.hid (bch HB1.out b2).size
          go_wp2_with (at_builtin; refine wpList_append_own_at _ rfl _ _ 42 rfl W1.heap.size 47 i0 (.agg #[.int .i64 0, .string ⟨#[]⟩]) 2 24 Try.underlying42 hi0 hz0 hz1 hz2 rfl (by decide) _ _ _ rfl HRa.out ⟨W2.heap.size, 0, none⟩ 1 1 [.int .i64 ((k : Int) + 1), .string D] rfl rfl (cell_two_new W2 _ _ _) ?c2 ?c3 ?c4 ?c5 ?_)
          case c2 => intro u hu; simp at hu; rcases hu with rfl | rfl <;> rfl
          case c3 => unfold maxLen; omega
          case c4 => omega
          case c5 => have := HS2.out; simp; omega
          intro v7 W7 hown hgrow _ _
          have hr2 : W7.ownsRow W1.heap.size 47 2 v7 (full ((six m).take (k + 1))).length (cellsF (full ((six m).take (k + 1)))) := by
            rw [HT2.out, cellsF_append, List.length_append]; exact hown
          have hb2 : Below W1.heap.size W1 W7 := HBa.out.grown hgrow HBa.out.size (fun g hg => (HRa.out.lt g hg).1)
          have HR7 := Lib.hid hr2; clear hr2 hown hgrow
          have HB7 := Lib.hid hb2; clear hb2
          go_wp2_with fail
          go_roundw
          case rel => exact ⟨k + 1, by omega, by go_num, HR7.out, HB7.out⟩
          case measure => simp [intOf]; omega
      · have hi := place_num w.heap.size k hlt h4
        rw [HP.out] at hi
        obtain ⟨n, a3, a4⟩ := a3 h4
        rw [a3] at hT
        clear a2 
        have hcell : W1.cell? ⟨w.heap.size, k, none⟩ = some (.int .i64 n) := by
          rw [a4]
          rcases (by omega : k = 0 ∨ k = 1 ∨ k = 2 ∨ k = 3 ∨ k = 5) with rfl | rfl | rfl | rfl | rfl
          · exact d0
          · exact d1
          · exact d2
          · exact d3
          · exact d5
        have hn : 0 ≤ n ∧ n ≤ 9007199254740992 := by
          rw [a4]
          rcases (by omega : k = 0 ∨ k = 1 ∨ k = 2 ∨ k = 3 ∨ k = 5) with rfl | rfl | rfl | rfl | rfl
          · exact ⟨by have := hr.2.1; simp; omega, by have := hr.2.1; simp; omega⟩
          · exact hr.2.2.1
          · exact hr.2.2.2.1
          · exact hr.2.2.2.2.1
          · exact hr.2.2.2.2.2.1
        clear a4
        have hcw := (HB1.out.cell (p := ⟨w.heap.size, k, none⟩) (lt_of_cell (a := ⟨w.heap.size, k, none⟩) hcell)).trans hcell
        have q := numData_any w.heap.size k n hn.1 hn.2 wr hcw
        have hsz := numD_size hn.1 hn.2
        clear hcell hn hcw
        generalize numD n = D at *
        have HT := Lib.hid hT; clear hT
        clear d0 d1 d2 d3 d4 d5 a1 a3 h4 hsix
        by_cases h0 : D.size = 0
        · have HT2 : Hid (full ((six m).take (k + 1)) = full ((six m).take k)) := by show _ = _; rw [HT.out, opt_no h0, List.append_nil]
          have e0 := (tl_size _).2 h0
          clear HT h0
          go_wp2_with fail
          ((with_reducible refine q.mono ?_); rintro e W2 ⟨rfl, b2⟩)
          go_wp2_with fail
          go_roundw
          case rel => exact ⟨k + 1, by omega, by go_num, by rw [HT2.out]; exact ownsF_below HN.out b2, bch HB1.out b2⟩
          case measure => simp [intOf]; omega
        · have HT2 : Hid (full ((six m).take (k + 1)) = full ((six m).take k) ++ [((k : Int) + 1, D)]) := by show _ = _; rw [HT.out, opt_yes h0]
          have e0 := tl_ne0 h0
          clear HT h0
          go_wp2_with fail
          ((with_reducible refine q.mono ?_); rintro e W2 ⟨rfl, b2⟩)
          have HRa : Hid ((W2.alloc (.cells #[.int .i64 ((k : Int) + 1), .string D] 47)).ownsRow W1.heap.size 47 2 (.slice A1 (full ((six m).take k)).length cap1) (full ((six m).take k)).length (cellsF (full ((six m).take k)))) := ownsF_below (ownsF_below HN.out b2) ((Below.refl _ _).alloc (Nat.le_refl _) _)
          have HBa : Hid (Below W1.heap.size W1 (W2.alloc (.cells #[.int .i64 ((k : Int) + 1), .string D] 47))) := (bch HB1.out b2).alloc (bch HB1.out b2).size _
          have HS2 := Lib.hid (bch HB1.out b2).size
          go_wp2_with (at_builtin; refine wpList_append_own_at _ rfl _ _ 42 rfl W1.heap.size 47 i0 (.agg #[.int .i64 0, .string ⟨#[]⟩]) 2 24 Try.underlying42 hi0 hz0 hz1 hz2 rfl (by decide) _ _ _ rfl HRa.out ⟨W2.heap.size, 0, none⟩ 1 1 [.int .i64 ((k : Int) + 1), .string D] rfl rfl (cell_two_new W2 _ _ _) ?c2 ?c3 ?c4 ?c5 ?_)
          case c2 => intro u hu; simp at hu; rcases hu with rfl | rfl <;> rfl
          case c3 => unfold maxLen; omega
          case c4 => omega
          case c5 => have := HS2.out; simp; omega
          intro v7 W7 hown hgrow _ _
          have hr2 : W7.ownsRow W1.heap.size 47 2 v7 (full ((six m).take (k + 1))).length (cellsF (full ((six m).take (k + 1)))) := by
            rw [HT2.out, cellsF_append, List.length_append]; exact hown
          have hb2 : Below W1.heap.size W1 W7 := HBa.out.grown hgrow HBa.out.size (fun g hg => (HRa.out.lt g hg).1)
          have HR7 := Lib.hid hr2; clear hr2 hown hgrow
          have HB7 := Lib.hid hb2; clear hb2
          go_wp2_with fail
          go_roundw
          case rel => exact ⟨k + 1, by omega, by go_num, HR7.out, HB7.out⟩
          case measure => simp [intOf]; omega
    · have hk6 : k = 6 := by omega
      subst hk6
      have HT : Hid (full ((six m).take 6) = fieldsM m) := rfl
      go_wp2_with fail
      go_ret
      exact ⟨A1, _, cap1, rfl, hcap, by rw [← HT.out]; exact hfs, bch HB0.out (bch b1 HB1.out)⟩
end Go.Proofs.Ytjdpihppniibjaa
