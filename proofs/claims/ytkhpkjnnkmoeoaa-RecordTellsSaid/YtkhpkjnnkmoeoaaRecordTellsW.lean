/-
  The walk of the law RecordTells.
-/
import Derived.Test.YtkhpkjnnkmoeoaaRecTells
import Derived.Deep.DeepCutAuto
namespace Go.Proofs.Ytkhpkjnnkmoeoaa
open Go.RowKit
set_option linter.unusedVariables false
set_option linter.unusedSimpArgs false

set_option maxRecDepth 100000 in
set_option maxHeartbeats 8000000 in
theorem recordTells_walk (rc : Rcd) (Aa : Option Addr) (na capa : Nat) (v : Int) (x0 x1 x2 x3 x4 : Int) (A : Option Addr) (n cap : Nat) (f : Nat → Nat → Int) (B : Option Addr) (m cap2 : Nat) (g : Nat → ByteArray) (s : ByteArray) (at_ : Int) (more : ByteArray) (w : World) (hfa : IsFs w Aa na rc.extra) (hla : na ≤ capa) (hwa : RcWf rc) (hv : (Lit.int .i64 v).wf = true) (h0 : (Lit.int .i64 x0).wf = true) (h1 : (Lit.int .i64 x1).wf = true) (h2 : (Lit.int .i64 x2).wf = true) (h3 : (Lit.int .i64 x3).wf = true) (h4 : (Lit.int .i64 x4).wf = true) (hra : IsRaw w A n 2 f) (hst : IsStrs w B m g) (hs : s.size ≤ 140737488351232) (hat : (Lit.int .i64 at_).wf = true) (hm : more.size ≤ 140737488351232) :
    Calls Try.prog 3 #[rcV rc (.slice Aa na capa), .int .i64 v, .agg #[.int .i64 x0, .int .i64 x1, .int .i64 x2, .int .i64 x3, .int .i64 x4], .slice A n cap, .slice B m cap2, .string s, .int .i64 at_, .string more] w fun e w' => e = .returned (.bool true) ∧ Below w.heap.size w w' := by
  have hb0 : Below w.heap.size w ((w.alloc (.cells #[.string rc.key, .string rc.value, .int .i64 rc.rev, .int .i64 rc.life, .string rc.note, .slice Aa na capa] 24)).alloc (.cells #[.int .i64 x0, .int .i64 x1, .int .i64 x2, .int .i64 x3, .int .i64 x4] 25)) := ((Below.refl _ _).alloc (Nat.le_refl _) _).alloc (by simp) _
  have hxa : RcBlk ((w.alloc (.cells #[.string rc.key, .string rc.value, .int .i64 rc.rev, .int .i64 rc.life, .string rc.note, .slice Aa na capa] 24)).alloc (.cells #[.int .i64 x0, .int .i64 x1, .int .i64 x2, .int .i64 x3, .int .i64 x4] 25)) w.heap.size rc (.slice Aa na capa) := RcBlk.alloc (rcBlk_mk w rc _) _
  have harr : Arr5 ((w.alloc (.cells #[.string rc.key, .string rc.value, .int .i64 rc.rev, .int .i64 rc.life, .string rc.note, .slice Aa na capa] 24)).alloc (.cells #[.int .i64 x0, .int .i64 x1, .int .i64 x2, .int .i64 x3, .int .i64 x4] 25)) (w.heap.size + 1) x0 x1 x2 x3 x4 := by
    have hx := World.alloc_heap_new (w.alloc (.cells #[.string rc.key, .string rc.value, .int .i64 rc.rev, .int .i64 rc.life, .string rc.note, .slice Aa na capa] 24)) (.cells #[.int .i64 x0, .int .i64 x1, .int .i64 x2, .int .i64 x3, .int .i64 x4] 25)
    rw [show (w.alloc (.cells #[.string rc.key, .string rc.value, .int .i64 rc.rev, .int .i64 rc.life, .string rc.note, .slice Aa na capa] 24)).heap.size = w.heap.size + 1 from by simp] at hx
    exact hx
  go_enter Try.func3, Try.ntmps3
  go_wp2_with fail
  ((with_reducible refine (awake3_any _).mono ?_); rintro e w1 ⟨rfl, b1⟩)
  have hx1 := hxa.below b1
  have ha1 := harr.below b1
  have hb1 := bch hb0 b1
  clear harr hb0 hxa b1
  have hall : ∀ W : World, RowI (W.alloc (.cells #[.int .i64 v, .int .i64 1, .int .i64 2] 3)) W.heap.size 3 := by
    intro W q hq
    have hx := World.alloc_heap_new W (.cells #[.int .i64 v, .int .i64 1, .int .i64 2] 3)
    rcases (by omega : q = 0 ∨ q = 1 ∨ q = 2) with rfl | rfl | rfl
    · exact ⟨v, cell_blk hx 0, hv⟩
    · exact ⟨1, cell_blk hx 1, by decide⟩
    · exact ⟨2, cell_blk hx 2, by decide⟩
  have bb1 : Below w1.heap.size w1 (w1.alloc (.cells #[.int .i64 v, .int .i64 1, .int .i64 2] 3)) := (Below.refl _ _).alloc (Nat.le_refl _) _
  have hx2 := hx1.below bb1
  have ha2 := ha1.below bb1
  have hb2 := bch hb1 bb1
  have hr2 := hall w1
  clear hx1 ha1 hb1 bb1 hall
  go_upto_region 2 with fail
  go_wp2_with fail
  generalize w1.heap.size = b38 at *
  go_loopw [40] (fun i wr => ∃ j : Nat, j ≤ 3 ∧ i = .int .i64 j ∧ Below w.heap.size w wr ∧ RcBlk wr w.heap.size rc (.slice Aa na capa) ∧ Arr5 wr (w.heap.size + 1) x0 x1 x2 x3 x4 ∧ RowI wr b38 3) (fun i _ => 3 - (intOf i).toNat)
  case atStart => exact ⟨0, by omega, rfl, hb2, hx2, ha2, hr2⟩
  case round =>
    clear hb2 hx2 ha2 hr2
    rename_i wr _ _
    obtain ⟨j, hj, rfl, hbw, hxa, harr, hrow⟩ := hrel
    by_cases hlt : j < 3
    · obtain ⟨vv, cv, hvv⟩ := hrow j hlt
      have hraw := hra.below hbw
      have hstr := hst.below hbw
      have hcs := harr.cells
      have q0 := pickL_nat vv 2 (by omega) (by omega) hvv
      have k0 := pickN_lt vv 2 (by omega)
      generalize pickN vv 2 = k at q0 k0
      have hk : (1 + (k : Int)) = 1 ∨ (1 + (k : Int)) = 2 := by omega
      have hw1 : IntKind.i64.wrap (1 + (k : Int)) = 1 + (k : Int) := IntWalk.i64_in _ (by omega)
      go_upto_region 5 with fail
      have HX := Lib.hid hxa
      have HR := Lib.hid harr
      have HROW := Lib.hid hrow
      have HB := Lib.hid hbw
      clear hxa harr hrow hbw
      go_cut [20] (fun s20 wx => MadeAt (1 + (k : Int)) wr wx s20)
      case first =>
        have S0 : Hid (wr.cell? ⟨w.heap.size + 1, 0, none⟩ = some (.int .i64 x0) ∧ wr.cell? ⟨w.heap.size + 1, 1, none⟩ = some (.int .i64 x1) ∧ wr.cell? ⟨w.heap.size + 1, 2, none⟩ = some (.int .i64 x2) ∧ wr.cell? ⟨w.heap.size + 1, 3, none⟩ = some (.int .i64 x3) ∧ wr.cell? ⟨w.heap.size + 1, 4, none⟩ = some (.int .i64 x4) ∧ Below wr.heap.size wr wr) := ⟨hcs.1, hcs.2.1, hcs.2.2.1, hcs.2.2.2.1, hcs.2.2.2.2, Below.refl _ _⟩
        have SR : Hid (wr.drew.cell? ⟨w.heap.size + 1, 0, none⟩ = some (.int .i64 x0) ∧ wr.drew.cell? ⟨w.heap.size + 1, 1, none⟩ = some (.int .i64 x1) ∧ wr.drew.cell? ⟨w.heap.size + 1, 2, none⟩ = some (.int .i64 x2) ∧ wr.drew.cell? ⟨w.heap.size + 1, 3, none⟩ = some (.int .i64 x3) ∧ wr.drew.cell? ⟨w.heap.size + 1, 4, none⟩ = some (.int .i64 x4) ∧ Below wr.heap.size wr wr.drew) := ⟨hcs.1, hcs.2.1, hcs.2.2.1, hcs.2.2.2.1, hcs.2.2.2.2, (Below.refl _ _).drew⟩
        have SZ : Hid ((wr.alloc (.cells #[.string ⟨#[]⟩, .string ⟨#[]⟩, .int .i64 0, .int .i64 0, .string ⟨#[]⟩, .slice none 0 0] 24)).drew.cell? ⟨w.heap.size + 1, 0, none⟩ = some (.int .i64 x0) ∧ (wr.alloc (.cells #[.string ⟨#[]⟩, .string ⟨#[]⟩, .int .i64 0, .int .i64 0, .string ⟨#[]⟩, .slice none 0 0] 24)).drew.cell? ⟨w.heap.size + 1, 1, none⟩ = some (.int .i64 x1) ∧ (wr.alloc (.cells #[.string ⟨#[]⟩, .string ⟨#[]⟩, .int .i64 0, .int .i64 0, .string ⟨#[]⟩, .slice none 0 0] 24)).drew.cell? ⟨w.heap.size + 1, 2, none⟩ = some (.int .i64 x2) ∧ (wr.alloc (.cells #[.string ⟨#[]⟩, .string ⟨#[]⟩, .int .i64 0, .int .i64 0, .string ⟨#[]⟩, .slice none 0 0] 24)).drew.cell? ⟨w.heap.size + 1, 3, none⟩ = some (.int .i64 x3) ∧ (wr.alloc (.cells #[.string ⟨#[]⟩, .string ⟨#[]⟩, .int .i64 0, .int .i64 0, .string ⟨#[]⟩, .slice none 0 0] 24)).drew.cell? ⟨w.heap.size + 1, 4, none⟩ = some (.int .i64 x4) ∧ Below wr.heap.size wr (wr.alloc (.cells #[.string ⟨#[]⟩, .string ⟨#[]⟩, .int .i64 0, .int .i64 0, .string ⟨#[]⟩, .slice none 0 0] 24)).drew) := arr_keep S0.out ((Below.refl _ _).alloc (Nat.le_refl _) _).drew
        have HZ : Hid (RcBlk (wr.alloc (.cells #[.string ⟨#[]⟩, .string ⟨#[]⟩, .int .i64 0, .int .i64 0, .string ⟨#[]⟩, .slice none 0 0] 24)).drew wr.heap.size zeroR (.slice none 0 0)) := World.alloc_heap_new wr _
        have P1 : Hid (∀ W, (W.cell? ⟨w.heap.size + 1, 0, none⟩ = some (.int .i64 x0) ∧ W.cell? ⟨w.heap.size + 1, 1, none⟩ = some (.int .i64 x1) ∧ W.cell? ⟨w.heap.size + 1, 2, none⟩ = some (.int .i64 x2) ∧ W.cell? ⟨w.heap.size + 1, 3, none⟩ = some (.int .i64 x3) ∧ W.cell? ⟨w.heap.size + 1, 4, none⟩ = some (.int .i64 x4) ∧ Below wr.heap.size wr W) → Calls Try.prog 10 #[.int .i64 (1 + (k : Int)), .agg #[.int .i64 x0, .int .i64 x1, .int .i64 x2, .int .i64 x3, .int .i64 x4], .slice A n cap, .slice B m cap2] W (RecMade (1 + (k : Int)) W)) := fun W hW => record_any (1 + (k : Int)) hk x0 x1 x2 x3 x4 h0 h1 h2 h3 h4 A n cap f B m cap2 g W (hraw.below hW.2.2.2.2.2) (hstr.below hW.2.2.2.2.2)
        clear hcs hraw hstr hra hst hk k0 hv hvv
        refine wp_region_held_drew (S := (fun W => W.cell? ⟨w.heap.size + 1, 0, none⟩ = some (.int .i64 x0) ∧ W.cell? ⟨w.heap.size + 1, 1, none⟩ = some (.int .i64 x1) ∧ W.cell? ⟨w.heap.size + 1, 2, none⟩ = some (.int .i64 x2) ∧ W.cell? ⟨w.heap.size + 1, 3, none⟩ = some (.int .i64 x3) ∧ W.cell? ⟨w.heap.size + 1, 4, none⟩ = some (.int .i64 x4) ∧ Below wr.heap.size wr W)) (by kernel_rfl) SR.out (fun hHeld => ?_)
        refine wpAnyH_take (i := 0) (v := ?_) rfl (by kernel_rfl) (by kernel_rfl) (by kernel_rfl) (fun _ _ _ h => h) (Or.inl ⟨by rfl, ?_⟩) (by assumption) ?_
        rotate_left
        · intro w hSw; (try dsimp only at hSw); go_simp; (try with_reducible rfl)
        try simp only [Act.put, List.setIfInBounds_toArray, List.set_cons_zero, List.set_cons_succ]
        refine wpAnyH_take (i := 3) (v := ?_) rfl (by kernel_rfl) (by kernel_rfl) (by kernel_rfl) (fun _ _ _ h => h) (Or.inl ⟨by rfl, ?_⟩) (by assumption) ?_
        rotate_left
        · intro w hSw; (try dsimp only at hSw); go_simp; (try with_reducible rfl)
        try simp only [Act.put, List.setIfInBounds_toArray, List.set_cons_zero, List.set_cons_succ]
        refine wpAnyH_take (i := 4) (v := ?_) rfl (by kernel_rfl) (by kernel_rfl) (by kernel_rfl) (fun _ _ _ h => h) (Or.inl ⟨by rfl, ?_⟩) (by assumption) ?_
        rotate_left
        · intro w hSw; (try dsimp only at hSw); go_simp; (try with_reducible rfl)
        try simp only [Act.put, List.setIfInBounds_toArray, List.set_cons_zero, List.set_cons_succ]
        refine wpAnyH_take (i := 5) (v := ?_) rfl (by kernel_rfl) (by kernel_rfl) (by kernel_rfl) (fun _ _ _ h => h) (Or.inl ⟨by rfl, ?_⟩) (by assumption) ?_
        rotate_left
        · intro w hSw; (try dsimp only at hSw); go_simp; (try with_reducible rfl)
        try simp only [Act.put, List.setIfInBounds_toArray, List.set_cons_zero, List.set_cons_succ]
        refine wpAnyH_ready (rs := [1, 7]) (by kernel_rfl) (by simp) ?_
        refine AllReadyH.cons rfl (fun K hK => ?_) ?_
        · go_simp
          ((with_reducible refine (q0 _).mono ?_); rintro e w9 ⟨rfl, rfl⟩)
          (try go_wp2_with fail)
          refine hK.out _ _ ?_ (fun hHeld => ?_)
          · (first | assumption | exact SZ.out)
          clear hK K
          try simp only [Act.put, List.setIfInBounds_toArray, List.set_cons_zero, List.set_cons_succ]
          refine wpAnyH_take (i := 2) (v := ?_) rfl (by kernel_rfl) (by kernel_rfl) (by kernel_rfl) (fun _ _ _ h => h) (Or.inl ⟨by rfl, ?_⟩) (by assumption) ?_
          rotate_left
          · intro w hSw; (try dsimp only at hSw); go_simp; (try with_reducible rfl)
          try simp only [Act.put, List.setIfInBounds_toArray, List.set_cons_zero, List.set_cons_succ]
          refine wpAnyH_ready (rs := [6, 7]) (by kernel_rfl) (by simp) ?_
          refine AllReadyH.cons rfl (fun K hK => ?_) ?_
          · go_simp
            ((with_reducible refine (P1.out _ (by first | assumption | exact SZ.out)).mono ?_); rintro e w9 ⟨A1, n1, cap1, r, rfl, hc1, hf1, hN, b2⟩)
            (try go_wp2_with fail)
            have hb9 := bch SR.out.2.2.2.2.2 b2
            refine hK.out _ _ ?_ (fun hHeld => ?_)
            · exact arr_keep SR.out b2
            clear hK K
            try simp only [Act.put, List.setIfInBounds_toArray, List.set_cons_zero, List.set_cons_succ]
            refine wpAnyH_ready (rs := [7]) (by kernel_rfl) (by simp) ?_
            refine AllReadyH.cons rfl (fun K hK => ?_) ?_
            · go_simp
              refine hK.out _ _ ?_ (fun hHeld => ?_)
              · (first | exact SZ.out | exact arr_keep (arr_keep SR.out b2) ((Below.refl _ _).alloc (Nat.le_refl _) _))
              clear hK K
              try simp only [Act.put, List.setIfInBounds_toArray, List.set_cons_zero, List.set_cons_succ]
              refine wpAnyH_ready (rs := [8]) (by kernel_rfl) (by simp) ?_
              refine AllReadyH.cons rfl (fun K hK => ?_) ?_
              · go_simp
                refine hK.out _ _ ?_ (fun hHeld => ?_)
                · exact arr_keep (arr_keep SR.out b2) ((Below.refl _ _).alloc (Nat.le_refl _) _)
                clear hK K
                try simp only [Act.put, List.setIfInBounds_toArray, List.set_cons_zero, List.set_cons_succ]
                refine wpAnyH_done (by kernel_rfl) ?_ _
                go_wp2_with fail
                go_meet
                exact ⟨w9.heap.size, r, A1, n1, cap1, rfl, rcBlk_mk w9 r _, hc1, hf1.below ((Below.refl _ _).alloc (Nat.le_refl _) _), hN, hb9.alloc hb9.size _, hb9.size⟩
              exact AllReadyH.nil
            exact AllReadyH.nil
          refine AllReadyH.cons rfl (fun K hK => ?_) ?_
          · go_simp
            refine hK.out _ _ ?_ (fun hHeld => ?_)
            · (first | exact SZ.out | exact arr_keep (arr_keep SR.out b2) ((Below.refl _ _).alloc (Nat.le_refl _) _))
            clear hK K
            try simp only [Act.put, List.setIfInBounds_toArray, List.set_cons_zero, List.set_cons_succ]
            refine wpAnyH_ready (rs := [6]) (by kernel_rfl) (by simp) ?_
            refine AllReadyH.cons rfl (fun K hK => ?_) ?_
            · go_simp
              ((with_reducible refine (P1.out _ (by first | assumption | exact SZ.out)).mono ?_); rintro e w9 ⟨A1, n1, cap1, r, rfl, hc1, hf1, hN, b2⟩)
              (try go_wp2_with fail)
              have hb9 := bch SZ.out.2.2.2.2.2 b2
              have hz9 := HZ.out.below b2
              obtain ⟨v0, v1, v2, v3, v4, v5⟩ := hz9.cells
              have f0 := hz9.frozen 0
              have f1 := hz9.frozen 1
              have f2 := hz9.frozen 2
              have f3 := hz9.frozen 3
              have f4 := hz9.frozen 4
              have f5 := hz9.frozen 5
              have hl9 := lt_of_blk hz9
              refine hK.out _ _ ?_ (fun hHeld => ?_)
              · exact arr_keep SZ.out b2
              clear hK K
              try simp only [Act.put, List.setIfInBounds_toArray, List.set_cons_zero, List.set_cons_succ]
              refine wpAnyH_ready (rs := [8]) (by kernel_rfl) (by simp) ?_
              refine AllReadyH.cons rfl (fun K hK => ?_) ?_
              · go_simp
                refine hK.out _ _ ?_ (fun hHeld => ?_)
                · exact arr_keep S0.out (set6_below hb9 r _)
                clear hK K
                try simp only [Act.put, List.setIfInBounds_toArray, List.set_cons_zero, List.set_cons_succ]
                refine wpAnyH_done (by kernel_rfl) ?_ _
                go_wp2_with fail
                go_meet
                exact ⟨wr.heap.size, r, A1, n1, cap1, rfl, set6_rc hz9 r _, hc1, nice_fs6 hN hf1 hz9 _, hN, set6_below hb9 r _, Nat.le_refl _⟩
              exact AllReadyH.nil
            exact AllReadyH.nil
          exact AllReadyH.nil
        refine AllReadyH.cons rfl (fun K hK => ?_) ?_
        · go_simp
          refine hK.out _ _ ?_ (fun hHeld => ?_)
          · (first | exact SZ.out | exact arr_keep (arr_keep SR.out b2) ((Below.refl _ _).alloc (Nat.le_refl _) _))
          clear hK K
          try simp only [Act.put, List.setIfInBounds_toArray, List.set_cons_zero, List.set_cons_succ]
          refine wpAnyH_ready (rs := [1]) (by kernel_rfl) (by simp) ?_
          refine AllReadyH.cons rfl (fun K hK => ?_) ?_
          · go_simp
            ((with_reducible refine (q0 _).mono ?_); rintro e w9 ⟨rfl, rfl⟩)
            (try go_wp2_with fail)
            refine hK.out _ _ ?_ (fun hHeld => ?_)
            · (first | assumption | exact SZ.out)
            clear hK K
            try simp only [Act.put, List.setIfInBounds_toArray, List.set_cons_zero, List.set_cons_succ]
            refine wpAnyH_take (i := 2) (v := ?_) rfl (by kernel_rfl) (by kernel_rfl) (by kernel_rfl) (fun _ _ _ h => h) (Or.inl ⟨by rfl, ?_⟩) (by assumption) ?_
            rotate_left
            · intro w hSw; (try dsimp only at hSw); go_simp; (try with_reducible rfl)
            try simp only [Act.put, List.setIfInBounds_toArray, List.set_cons_zero, List.set_cons_succ]
            refine wpAnyH_ready (rs := [6]) (by kernel_rfl) (by simp) ?_
            refine AllReadyH.cons rfl (fun K hK => ?_) ?_
            · go_simp
              ((with_reducible refine (P1.out _ (by first | assumption | exact SZ.out)).mono ?_); rintro e w9 ⟨A1, n1, cap1, r, rfl, hc1, hf1, hN, b2⟩)
              (try go_wp2_with fail)
              have hb9 := bch SZ.out.2.2.2.2.2 b2
              have hz9 := HZ.out.below b2
              obtain ⟨v0, v1, v2, v3, v4, v5⟩ := hz9.cells
              have f0 := hz9.frozen 0
              have f1 := hz9.frozen 1
              have f2 := hz9.frozen 2
              have f3 := hz9.frozen 3
              have f4 := hz9.frozen 4
              have f5 := hz9.frozen 5
              have hl9 := lt_of_blk hz9
              refine hK.out _ _ ?_ (fun hHeld => ?_)
              · exact arr_keep SZ.out b2
              clear hK K
              try simp only [Act.put, List.setIfInBounds_toArray, List.set_cons_zero, List.set_cons_succ]
              refine wpAnyH_ready (rs := [8]) (by kernel_rfl) (by simp) ?_
              refine AllReadyH.cons rfl (fun K hK => ?_) ?_
              · go_simp
                refine hK.out _ _ ?_ (fun hHeld => ?_)
                · exact arr_keep S0.out (set6_below hb9 r _)
                clear hK K
                try simp only [Act.put, List.setIfInBounds_toArray, List.set_cons_zero, List.set_cons_succ]
                refine wpAnyH_done (by kernel_rfl) ?_ _
                go_wp2_with fail
                go_meet
                exact ⟨wr.heap.size, r, A1, n1, cap1, rfl, set6_rc hz9 r _, hc1, nice_fs6 hN hf1 hz9 _, hN, set6_below hb9 r _, Nat.le_refl _⟩
              exact AllReadyH.nil
            exact AllReadyH.nil
          exact AllReadyH.nil
        exact AllReadyH.nil
      case rest =>
        obtain ⟨b20, r, A1, n1, cap1, rfl, hr20, hc1, hf1, hN, hb2, hge⟩ := hcut
        have hxa := HX.out.below hb2
        have harr := HR.out.below hb2
        have hrow := HROW.out.below hb2
        have hbw := bch HB.out hb2
        have hfa2 : IsFs wc Aa na rc.extra := hfa.below hbw
        have hrr := rowRec_mk wc rc r Aa A1 na n1 capa cap1 hwa hN.wf hfa2 hf1
        have bbc : Below wc.heap.size wc (wc.alloc (.cells #[.string rc.key, .string rc.value, .int .i64 rc.rev, .int .i64 rc.life, .string rc.note, .slice Aa na capa, .string r.key, .string r.value, .int .i64 r.rev, .int .i64 r.life, .string r.note, .slice A1 n1 cap1] 24)) := (Below.refl _ _).alloc (Nat.le_refl _) _
        obtain ⟨y0, y1, y2, y3, y4, y5⟩ := hxa.cells
        obtain ⟨z0, z1, z2, z3, z4, z5⟩ := hr20.cells
        have HX2 := Lib.hid hxa
        have HR2 := Lib.hid harr
        have HROW2 := Lib.hid hrow
        have HB2 := Lib.hid hbw
        have HF1 := Lib.hid hf1
        have HR20 := Lib.hid hr20
        have HRR := Lib.hid hrr
        have HBBC := Lib.hid bbc
        have hb53 : wc.heap.size < (wc.alloc (.cells #[.string rc.key, .string rc.value, .int .i64 rc.rev, .int .i64 rc.life, .string rc.note, .slice Aa na capa, .string r.key, .string r.value, .int .i64 r.rev, .int .i64 r.life, .string r.note, .slice A1 n1 cap1] 24)).heap.size := by simp
        clear hxa harr hrow hbw hf1 hr20 hrr bbc HX HR HROW HB hb2 hcs hraw hstr hge cv
        go_upto_region 6 with fail
        go_upto_region 7 with fail
        have hrr := HRR.out
        have bbc := HBBC.out
        generalize (wc.alloc (.cells #[.string rc.key, .string rc.value, .int .i64 rc.rev, .int .i64 rc.life, .string rc.note, .slice Aa na capa, .string r.key, .string r.value, .int .i64 r.rev, .int .i64 r.life, .string r.note, .slice A1 n1 cap1] 24)) = W53 at *
        clear HRR HBBC y0 y1 y2 y3 y4 y5 z0 z1 z2 z3 z4 z5
        go_loopw [55] (fun i wy => ∃ (q : Nat) (wq : World), wq = wy ∧ q ≤ 2 ∧ i = .int .i64 q ∧ Below wc.heap.size wc wq ∧ RowRec wc wq wc.heap.size) (fun i _ => 2 - (intOf i).toNat)
        case atStart => exact ⟨0, _, rfl, by omega, rfl, bbc, hrr⟩
        case round =>
          clear hrr bbc hb53
          obtain ⟨q, wq, rfl, hq, rfl, hbq, hrr⟩ := hrel
          by_cases hlt2 : q < 2
          · obtain ⟨rq, Aq, nq, cq, ⟨y0, y1, y2, y3, y4, y5⟩, hwq, hfq⟩ := hrr q hlt2
            have hrq := rcBlk_mk wq rq (.slice Aq nq cq)
            have bb := (Below.refl wq.heap.size wq).alloc (Nat.le_refl _) (.cells #[.string rq.key, .string rq.value, .int .i64 rq.rev, .int .i64 rq.life, .string rq.note, .slice Aq nq cq] 24)
            have hb5 := bch hbq bb
            have hrr2 := hrr.below bb
            clear hrr bb hbq
            go_upto_region 8 with fail
            go_upto_region 9 with fail
            clear y0 y1 y2 y3 y4 y5
            generalize wq.heap.size = b22 at *
            generalize (wq.alloc (.cells #[.string rq.key, .string rq.value, .int .i64 rq.rev, .int .i64 rq.life, .string rq.note, .slice Aq nq cq] 24)) = W22 at *
            have P9 := fun W (hW : Below wc.heap.size wc W) => rEncode_any vv rq Aq nq cq W hwq (hfq.below hW)
            have P10 := fun W (hW : Below wc.heap.size wc W) => refrEncode_any vv rq Aq nq cq W hwq (hfq.below hW)
            have PR1 := fun W (hW : Below wc.heap.size wc W) => rRight_any vv rq Aq nq cq W hwq (hfq.below hW)
            have PR2 := fun W (hW : Below wc.heap.size wc W) => refrRight_any vv rq Aq nq cq W hwq (hfq.below hW)
            have PS1 := fun W (hW : Below wc.heap.size wc W) => rSame_any rq rc Aq Aa nq na cq capa W (hfq.below hW) (hfa2.below hW)
            have PS2 := fun W (hW : Below wc.heap.size wc W) => refSame_any rq rc Aq Aa nq na cq capa W (hfq.below hW) (hfa2.below hW)
            generalize (recE vv rq).2 = eE at P9 P10
            generalize bs (recE vv rq).1 = T at P9 P10
            generalize rightR vv rq = bR at PR1 PR2
            generalize sameR rq rc = bS at PS1 PS2
            have hxa5 := HX2.out.below hb5
            obtain ⟨y0, y1, y2, y3, y4, y5⟩ := hrq.cells
            have HRQ := Lib.hid hrq
            have HXA5 := Lib.hid hxa5
            have HRR2 := Lib.hid hrr2
            have p9 := P9 _ hb5
            clear hrq hxa5 hrr2 P9
            go_wp2_with fail
            ((with_reducible refine p9.mono ?_); rintro e w9 ⟨rfl, b9⟩)
            clear y0 y1 y2 y3 y4 y5 p9
            have hb9 := bch hb5 b9
            have hrq9 := HRQ.out.below b9
            have hxa9 := HXA5.out.below b9
            have hrr9 := HRR2.out.below b9
            obtain ⟨y0, y1, y2, y3, y4, y5⟩ := hrq9.cells
            have p10 := P10 _ hb9
            have HRQ9 := Lib.hid hrq9
            have HXA9 := Lib.hid hxa9
            have HRR9 := Lib.hid hrr9
            clear hrq9 hxa9 hrr9 HRQ HXA5 HRR2 P10 hb5 b9
            go_wp2_with fail
            ((with_reducible refine p10.mono ?_); rintro e w10 ⟨rfl, b10⟩)
            clear y0 y1 y2 y3 y4 y5 p10
            have hb10 := bch hb9 b10
            have hrq10 := HRQ9.out.below b10
            have hxa10 := HXA9.out.below b10
            have hrr10 := HRR9.out.below b10
            have HS11 : Hid (∀ W, W = w10.drew → (W.cell? ⟨b22, 0, none⟩ = some (.string rq.key) ∧ W.cell? ⟨b22, 1, none⟩ = some (.string rq.value) ∧ W.cell? ⟨b22, 2, none⟩ = some (.int .i64 rq.rev) ∧ W.cell? ⟨b22, 3, none⟩ = some (.int .i64 rq.life) ∧ W.cell? ⟨b22, 4, none⟩ = some (.string rq.note) ∧ W.cell? ⟨b22, 5, none⟩ = some (.slice Aq nq cq) ∧ W.cell? ⟨w.heap.size, 0, none⟩ = some (.string rc.key) ∧ W.cell? ⟨w.heap.size, 1, none⟩ = some (.string rc.value) ∧ W.cell? ⟨w.heap.size, 2, none⟩ = some (.int .i64 rc.rev) ∧ W.cell? ⟨w.heap.size, 3, none⟩ = some (.int .i64 rc.life) ∧ W.cell? ⟨w.heap.size, 4, none⟩ = some (.string rc.note) ∧ W.cell? ⟨w.heap.size, 5, none⟩ = some (.slice Aa na capa) ∧ Below w10.heap.size w10 W)) := by
              rintro W rfl
              obtain ⟨y0, y1, y2, y3, y4, y5⟩ := hrq10.cells
              obtain ⟨z0, z1, z2, z3, z4, z5⟩ := hxa10.cells
              exact ⟨y0, y1, y2, y3, y4, y5, z0, z1, z2, z3, z4, z5, (Below.refl _ _).drew⟩
            have QR1 : Hid (∀ W, (W.cell? ⟨b22, 0, none⟩ = some (.string rq.key) ∧ W.cell? ⟨b22, 1, none⟩ = some (.string rq.value) ∧ W.cell? ⟨b22, 2, none⟩ = some (.int .i64 rq.rev) ∧ W.cell? ⟨b22, 3, none⟩ = some (.int .i64 rq.life) ∧ W.cell? ⟨b22, 4, none⟩ = some (.string rq.note) ∧ W.cell? ⟨b22, 5, none⟩ = some (.slice Aq nq cq) ∧ W.cell? ⟨w.heap.size, 0, none⟩ = some (.string rc.key) ∧ W.cell? ⟨w.heap.size, 1, none⟩ = some (.string rc.value) ∧ W.cell? ⟨w.heap.size, 2, none⟩ = some (.int .i64 rc.rev) ∧ W.cell? ⟨w.heap.size, 3, none⟩ = some (.int .i64 rc.life) ∧ W.cell? ⟨w.heap.size, 4, none⟩ = some (.string rc.note) ∧ W.cell? ⟨w.heap.size, 5, none⟩ = some (.slice Aa na capa) ∧ Below w10.heap.size w10 W) → _) := fun W hW => PR1 W (bch hb10 hW.2.2.2.2.2.2.2.2.2.2.2.2)
            have QR2 : Hid (∀ W, (W.cell? ⟨b22, 0, none⟩ = some (.string rq.key) ∧ W.cell? ⟨b22, 1, none⟩ = some (.string rq.value) ∧ W.cell? ⟨b22, 2, none⟩ = some (.int .i64 rq.rev) ∧ W.cell? ⟨b22, 3, none⟩ = some (.int .i64 rq.life) ∧ W.cell? ⟨b22, 4, none⟩ = some (.string rq.note) ∧ W.cell? ⟨b22, 5, none⟩ = some (.slice Aq nq cq) ∧ W.cell? ⟨w.heap.size, 0, none⟩ = some (.string rc.key) ∧ W.cell? ⟨w.heap.size, 1, none⟩ = some (.string rc.value) ∧ W.cell? ⟨w.heap.size, 2, none⟩ = some (.int .i64 rc.rev) ∧ W.cell? ⟨w.heap.size, 3, none⟩ = some (.int .i64 rc.life) ∧ W.cell? ⟨w.heap.size, 4, none⟩ = some (.string rc.note) ∧ W.cell? ⟨w.heap.size, 5, none⟩ = some (.slice Aa na capa) ∧ Below w10.heap.size w10 W) → _) := fun W hW => PR2 W (bch hb10 hW.2.2.2.2.2.2.2.2.2.2.2.2)
            have QS1 : Hid (∀ W, (W.cell? ⟨b22, 0, none⟩ = some (.string rq.key) ∧ W.cell? ⟨b22, 1, none⟩ = some (.string rq.value) ∧ W.cell? ⟨b22, 2, none⟩ = some (.int .i64 rq.rev) ∧ W.cell? ⟨b22, 3, none⟩ = some (.int .i64 rq.life) ∧ W.cell? ⟨b22, 4, none⟩ = some (.string rq.note) ∧ W.cell? ⟨b22, 5, none⟩ = some (.slice Aq nq cq) ∧ W.cell? ⟨w.heap.size, 0, none⟩ = some (.string rc.key) ∧ W.cell? ⟨w.heap.size, 1, none⟩ = some (.string rc.value) ∧ W.cell? ⟨w.heap.size, 2, none⟩ = some (.int .i64 rc.rev) ∧ W.cell? ⟨w.heap.size, 3, none⟩ = some (.int .i64 rc.life) ∧ W.cell? ⟨w.heap.size, 4, none⟩ = some (.string rc.note) ∧ W.cell? ⟨w.heap.size, 5, none⟩ = some (.slice Aa na capa) ∧ Below w10.heap.size w10 W) → _) := fun W hW => PS1 W (bch hb10 hW.2.2.2.2.2.2.2.2.2.2.2.2)
            have QS2 : Hid (∀ W, (W.cell? ⟨b22, 0, none⟩ = some (.string rq.key) ∧ W.cell? ⟨b22, 1, none⟩ = some (.string rq.value) ∧ W.cell? ⟨b22, 2, none⟩ = some (.int .i64 rq.rev) ∧ W.cell? ⟨b22, 3, none⟩ = some (.int .i64 rq.life) ∧ W.cell? ⟨b22, 4, none⟩ = some (.string rq.note) ∧ W.cell? ⟨b22, 5, none⟩ = some (.slice Aq nq cq) ∧ W.cell? ⟨w.heap.size, 0, none⟩ = some (.string rc.key) ∧ W.cell? ⟨w.heap.size, 1, none⟩ = some (.string rc.value) ∧ W.cell? ⟨w.heap.size, 2, none⟩ = some (.int .i64 rc.rev) ∧ W.cell? ⟨w.heap.size, 3, none⟩ = some (.int .i64 rc.life) ∧ W.cell? ⟨w.heap.size, 4, none⟩ = some (.string rc.note) ∧ W.cell? ⟨w.heap.size, 5, none⟩ = some (.slice Aa na capa) ∧ Below w10.heap.size w10 W) → _) := fun W hW => PS2 W (bch hb10 hW.2.2.2.2.2.2.2.2.2.2.2.2)
            have HRR10 := Lib.hid hrr10
            have HB10 := Lib.hid hb10
            clear PR1 PR2 PS1 PS2 hrq10 hxa10 hrr10 HRQ9 HXA9 HRR9 hb9 b10 hb10
            go_upto_region 11 with fail
            go_region_held3 (fun W => W.cell? ⟨b22, 0, none⟩ = some (.string rq.key) ∧ W.cell? ⟨b22, 1, none⟩ = some (.string rq.value) ∧ W.cell? ⟨b22, 2, none⟩ = some (.int .i64 rq.rev) ∧ W.cell? ⟨b22, 3, none⟩ = some (.int .i64 rq.life) ∧ W.cell? ⟨b22, 4, none⟩ = some (.string rq.note) ∧ W.cell? ⟨b22, 5, none⟩ = some (.slice Aq nq cq) ∧ W.cell? ⟨w.heap.size, 0, none⟩ = some (.string rc.key) ∧ W.cell? ⟨w.heap.size, 1, none⟩ = some (.string rc.value) ∧ W.cell? ⟨w.heap.size, 2, none⟩ = some (.int .i64 rc.rev) ∧ W.cell? ⟨w.heap.size, 3, none⟩ = some (.int .i64 rc.life) ∧ W.cell? ⟨w.heap.size, 4, none⟩ = some (.string rc.note) ∧ W.cell? ⟨w.heap.size, 5, none⟩ = some (.slice Aa na capa) ∧ Below w10.heap.size w10 W) (first | exact HS11.out _ rfl | exact two_keep (by assumption) (by assumption)) (first | ((with_reducible refine (QR1.out _ (by assumption)).mono ?_); rintro e w' ⟨rfl, bq⟩) | ((with_reducible refine (QR2.out _ (by assumption)).mono ?_); rintro e w' ⟨rfl, bq⟩) | ((with_reducible refine (QS1.out _ (by assumption)).mono ?_); rintro e w' ⟨rfl, bq⟩) | ((with_reducible refine (QS2.out _ (by assumption)).mono ?_); rintro e w' ⟨rfl, bq⟩))
            rename_i hH
            have bw := hH.2.2.2.2.2.2.2.2.2.2.2.2
            clear QR1 QR2 QS1 QS2 HS11
            go_wp2_with fail
            go_roundw
            case rel => exact ⟨q + 1, _, rfl, by omega, by go_num, bch HB10.out bw, HRR10.out.below bw⟩
            case measure => simp [intOf]; omega
          · have hr20 := HR20.out.below hbq
            have hf20 := HF1.out.below hbq
            have H14 : Hid (∀ W, W = wq.drew → (W.cell? ⟨b20, 0, none⟩ = some (.string r.key) ∧ W.cell? ⟨b20, 1, none⟩ = some (.string r.value) ∧ W.cell? ⟨b20, 2, none⟩ = some (.int .i64 r.rev) ∧ W.cell? ⟨b20, 3, none⟩ = some (.int .i64 r.life) ∧ W.cell? ⟨b20, 4, none⟩ = some (.string r.note) ∧ W.cell? ⟨b20, 5, none⟩ = some (.slice A1 n1 cap1) ∧ Below wq.heap.size wq W)) := by
              rintro W rfl
              obtain ⟨y0, y1, y2, y3, y4, y5⟩ := hr20.cells
              exact ⟨y0, y1, y2, y3, y4, y5, (Below.refl _ _).drew⟩
            have hle : (bs (encL (fieldsR r))).size ≤ 4600 := by rw [bs_size]; exact hN.enc2
            have P14 : Hid (∀ W, (W.cell? ⟨b20, 0, none⟩ = some (.string r.key) ∧ W.cell? ⟨b20, 1, none⟩ = some (.string r.value) ∧ W.cell? ⟨b20, 2, none⟩ = some (.int .i64 r.rev) ∧ W.cell? ⟨b20, 3, none⟩ = some (.int .i64 r.life) ∧ W.cell? ⟨b20, 4, none⟩ = some (.string r.note) ∧ W.cell? ⟨b20, 5, none⟩ = some (.slice A1 n1 cap1) ∧ Below wq.heap.size wq W) → Calls Try.prog 13 #[.int .i64 (1 + (k : Int)), rcV r (.slice A1 n1 cap1)] W fun e w' => e = .returned (.tuple #[.string (bs (encL (fieldsR r))), .int .i64 0]) ∧ Below W.heap.size W w') := by
              intro W hW
              have := refrEncode_any (1 + (k : Int)) r A1 n1 cap1 W hN.wf (hf20.below hW.2.2.2.2.2.2)
              rw [hN.recE] at this
              exact this
            generalize bs (encL (fieldsR r)) = T at *
            have HB3 := Lib.hid hbq
            clear hrr hbq hr20 hf20
            go_upto_region 14 with fail
            go_region_held3 (fun W => W.cell? ⟨b20, 0, none⟩ = some (.string r.key) ∧ W.cell? ⟨b20, 1, none⟩ = some (.string r.value) ∧ W.cell? ⟨b20, 2, none⟩ = some (.int .i64 r.rev) ∧ W.cell? ⟨b20, 3, none⟩ = some (.int .i64 r.life) ∧ W.cell? ⟨b20, 4, none⟩ = some (.string r.note) ∧ W.cell? ⟨b20, 5, none⟩ = some (.slice A1 n1 cap1) ∧ Below wq.heap.size wq W) (first | exact H14.out _ rfl | exact rc_keep (by assumption) (by assumption)) (first | ((with_reducible refine (q0 _).mono ?_); rintro e w' ⟨rfl, rfl⟩) | ((with_reducible refine (P14.out _ (by assumption)).mono ?_); rintro e w' ⟨rfl, bq⟩))
            rename_i hH
            obtain ⟨w14, rfl⟩ : ∃ W, W = w' := ⟨_, rfl⟩
            have b13 : Hid (Below wc.heap.size wc w14) := bch HB3.out hH.2.2.2.2.2.2
            clear P14 H14 hH bq
            have hkn := pickN_lt at_ ((T.size : Int) + 1) (by omega)
            have hp := pickL_nat at_ ((T.size : Int) + 1) (by omega) (by omega) hat
            generalize pickN at_ ((T.size : Int) + 1) = kk at hp hkn
            have hw0 : IntKind.i64.wrap ((T.size : Int) + 1) = (T.size : Int) + 1 := IntWalk.i64_in _ (by omega)
            go_wp2_with fail
            ((with_reducible refine (hp _).mono ?_); rintro e w' ⟨rfl, rfl⟩)
            clear hp hw0
            go_upto_region 16 with fail
            have hkT : kk ≤ T.size := by omega
            obtain ⟨P, hP⟩ : ∃ P, T.extract 0 kk = P := ⟨_, rfl⟩
            obtain ⟨U, hU⟩ : ∃ U, T.extract kk T.size = U := ⟨_, rfl⟩
            obtain ⟨R, hR⟩ : ∃ R, T.extract (min ((kk : Int) + (more.size : Int)) (T.size : Int)).toNat T.size = R := ⟨_, rfl⟩
            have zP : P.size ≤ 4600 := by rw [← hP, ByteArray.size_extract]; omega
            have zU : U.size ≤ 4600 := by rw [← hU, ByteArray.size_extract]; omega
            have zR : R.size ≤ 4600 := by rw [← hR, ByteArray.size_extract]; omega
            obtain ⟨Q, hQ⟩ : ∃ Q, P ++ more = Q := ⟨_, rfl⟩
            have zQ : Q.size ≤ 140737488356000 := by rw [← hQ, ByteArray.size_append]; omega
            have ha1 : ∀ W : World, (Op.stringOp .add P more).run Try.prog W = .ok (.string Q) W := fun W => by rw [← hQ]; exact str_add (by omega) W
            obtain ⟨Y, hY⟩ : ∃ Y, Q ++ R = Y := ⟨_, rfl⟩
            obtain ⟨Z, hZ⟩ : ∃ Z, Q ++ U = Z := ⟨_, rfl⟩
            have zY : Y.size ≤ 140737488361000 := by rw [← hY, ByteArray.size_append]; omega
            have zZ : Z.size ≤ 140737488361000 := by rw [← hZ, ByteArray.size_append]; omega
            have ha2 : ∀ W : World, (Op.stringOp .add Q R).run Try.prog W = .ok (.string Y) W := fun W => by rw [← hY]; exact str_add (by omega) W
            have ha3 : ∀ W : World, (Op.stringOp .add Q U).run Try.prog W = .ok (.string Z) W := fun W => by rw [← hZ]; exact str_add (by omega) W
            have hw2 : IntKind.i64.wrap ((kk : Int) + (more.size : Int)) = (kk : Int) + (more.size : Int) := IntWalk.i64_in _ (by omega)
            have hrow : ∀ W : World, RowS (W.alloc (.cells #[.string s, .string T, .string Y, .string Z] 9)) W.heap.size 4 := by
              intro W j hj
              have hx := World.alloc_heap_new W (.cells #[.string s, .string T, .string Y, .string Z] 9)
              rcases (by omega : j = 0 ∨ j = 1 ∨ j = 2 ∨ j = 3) with rfl | rfl | rfl | rfl
              · exact ⟨s, cell_blk hx 0, by omega⟩
              · exact ⟨T, cell_blk hx 1, by omega⟩
              · exact ⟨Y, cell_blk hx 2, by omega⟩
              · exact ⟨Z, cell_blk hx 3, by omega⟩
            have HROW := Lib.hid hrow; clear hrow
            clear hQ hY hZ zY zZ zP zU zR
            have b3a : ∀ (o : Obj), Below wc.heap.size wc (w14.alloc o).drew := fun o => (b13.out.alloc b13.out.size o).drew
            have B3A := Lib.hid b3a; clear b3a
            have HSL : Hid (s.size ≤ 140737488351232) := hs
            have hmin0 : 0 ≤ min ((kk : Int) + (more.size : Int)) (T.size : Int) := by omega
            have hmin1 : min ((kk : Int) + (more.size : Int)) (T.size : Int) ≤ (T.size : Int) := by omega
            clear hk hw1 q0 k0
            go_region
            have hr2 : RowS (w14.alloc (.cells #[.string s, .string T, .string Y, .string Z] 9)).drew w14.heap.size 4 := HROW.out w14
            have bb := B3A.out (.cells #[.string s, .string T, .string Y, .string Z] 9)
            have hz : w14.heap.size < (w14.alloc (.cells #[.string s, .string T, .string Y, .string Z] 9)).drew.heap.size := by simp
            generalize (w14.alloc (.cells #[.string s, .string T, .string Y, .string Z] 9)).drew = W3 at hr2 bb hz ⊢
            clear hw2 ha1 ha2 ha3 hR hP hU zQ hmin0 hmin1 HROW B3A b13
            generalize w14.heap.size = b137 at *
            go_wp2_with fail
            go_loopw [139] (fun i wy => ∃ (q : Nat) (wq : World), wq = wy ∧ q ≤ 4 ∧ i = .int .i64 q ∧ Below wc.heap.size wc wq ∧ RowS wq b137 4) (fun i _ => 4 - (intOf i).toNat)
            case atStart => exact ⟨0, _, rfl, by omega, rfl, bb, hr2⟩
            case round =>
              clear bb hr2 hz
              obtain ⟨q2, wq2, rfl, hq2, rfl, hbw, hrr⟩ := hrel
              by_cases hlt3 : q2 < 4
              · obtain ⟨X, cX, zX⟩ := hrr q2 hlt3
                have D1 := fun W => rDecode_any vv X (by omega) W
                have D2 := fun W => refrDecode_any vv X (by omega) W
                generalize recD vv X.data.toList = D at D1 D2
                go_wp2_with fail
                ((with_reducible refine (D1 _).mono ?_); rintro e2 w4 ⟨A4, n4, cap4, rfl, hc4, hf4, _, b4⟩)
                clear cX
                have bb4 : Below w4.heap.size w4 (w4.alloc (.cells #[.string D.1.key, .string D.1.value, .int .i64 D.1.rev, .int .i64 D.1.life, .string D.1.note, .slice A4 n4 cap4] 24)) := (Below.refl _ _).alloc (Nat.le_refl _) _
                have hx4 := rcBlk_mk w4 D.1 (.slice A4 n4 cap4)
                have hf5 := hf4.below bb4
                have hb4 := bch (bch hbw b4) bb4
                have hrr4 := (hrr.below b4).below bb4
                have HX4 := Lib.hid hx4
                clear bb4 b4 hbw hrr hf4 hx4
                go_wp2_with fail
                ((with_reducible refine (D2 _).mono ?_); rintro e2 w5 ⟨A5, n5, cap5, rfl, hc5, hf6, _, b5⟩)
                have bb5 : Below w5.heap.size w5 (w5.alloc (.cells #[.string D.1.key, .string D.1.value, .int .i64 D.1.rev, .int .i64 D.1.life, .string D.1.note, .slice A5 n5 cap5] 24)) := (Below.refl _ _).alloc (Nat.le_refl _) _
                have hx5 := rcBlk_mk w5 D.1 (.slice A5 n5 cap5)
                have hx45 := (HX4.out.below b5).below bb5
                have hfa5 := (hf5.below b5).below bb5
                have hfb5 := hf6.below bb5
                have hb5 := bch (bch hb4 b5) bb5
                have hrr5 := (hrr4.below b5).below bb5
                have p6 := refSame_any D.1 D.1 A4 A5 n4 n5 cap4 cap5 _ hfa5 hfb5
                rw [sameR_self] at p6
                obtain ⟨y0, y1, y2, y3, y4, y5⟩ := hx5.cells
                obtain ⟨z0, z1, z2, z3, z4, z5⟩ := hx45.cells
                clear hx5 hx45 hf5 hf6 b5 bb5 hb4 hrr4 D1 D2 hfa5 hfb5 HX4
                go_wp2_with fail
                ((with_reducible refine p6.mono ?_); rintro e2 w6 ⟨rfl, b6⟩)
                clear y0 y1 y2 y3 y4 y5 z0 z1 z2 z3 z4 z5 p6
                go_wp2_with fail
                go_roundw
                case rel => exact ⟨q2 + 1, _, rfl, by omega, by go_num, bch hb5 b6, hrr5.below b6⟩
                case measure => simp [intOf]; omega
              · go_wp2_with fail
                go_roundw
                case rel => exact ⟨j + 1, by omega, by go_num, bch HB2.out hbw, HX2.out.below hbw, HR2.out.below hbw, HROW2.out.below hbw⟩
                case measure => simp [intOf]; omega
    · go_wp2_with fail
      go_ret
      exact ⟨rfl, hbw⟩
end Go.Proofs.Ytkhpkjnnkmoeoaa
