import Derived.Test.YtpnkkiokkhmjpaaTabPut
import Derived.Test.YtpnkkiokkhmjpaaStrs
import Derived.Test.YtpnkkiokkhmjpaaTill
/-
  The contract of the document's own 'scan' of tables (stage 12).
-/
namespace Go.Proofs.Ytpnkkiokkhmjpaa
open Go.RowKit
set_option linter.unusedVariables false
set_option linter.unusedSimpArgs false

theorem RowK.drew_k {w : World} {base : Nat} {v : Value} {l : List ByteArray} (h : RowK w base v l) : RowK w.drew base v l := h
theorem rowK_base {w : World} {a b : Nat} {v : Value} {l : List ByteArray} (h : b ≤ a) (hr : RowK w a v l) : RowK w b v l := by
  refine ⟨hr.1, ?_⟩
  rcases hr.2 with h2 | ⟨g, cap, cur, h1, h2, h3⟩
  · exact .inl h2
  · exact .inr ⟨g, cap, cur, h1, Nat.le_trans h h2, h3⟩
theorem rowK_far {W : World} {base g j : Nat} {v : Value} {l : List ByteArray} {u : Value} (h : RowK W base v l) (hne : some g ≠ v.ownBlock) : RowK (W.setCell ⟨g, j, none⟩ u) base v l :=
  World.ownsRow.kept h (gb_set W g j u) (.inr fun e => hne e.symm)
theorem rowK_four {W : World} {base g : Nat} {v : Value} {l : List ByteArray} (h : RowK W base v l) (hne : some g ≠ v.ownBlock) (x y z u : Value) :
    RowK (((((W).setCell ⟨g, 0, none⟩ x).setCell ⟨g, 1, none⟩ y).setCell ⟨g, 2, none⟩ z).setCell ⟨g, 3, none⟩ u) base v l := rowK_far (rowK_far (rowK_far (rowK_far h hne) hne) hne) hne
/-- The keys that a scan tells of the first k. -/
def scK (t : List Rcd) (o : OpR) (k : Nat) : List ByteArray := ((t.take k).filter fun r => inScan o r.key).map (·.key)
theorem scK_succ {t : List Rcd} {o : OpR} {k : Nat} (h : k < t.length) : scK t o (k + 1) = scK t o k ++ (if inScan o (atR t k).key then [(atR t k).key] else []) := by
  unfold scK
  rw [take_succR h, List.filter_append, List.map_append]
  congr 1
  cases e : inScan o (atR t k).key <;> simp [e]
theorem scK_end {t : List Rcd} {o : OpR} {k : Nat} (h : t.length ≤ k ∨ 5 ≤ (scK t o k).length) (h5 : (scK t o k).length ≤ 5) : scK t o k = scanT t o := by
  unfold scanT
  unfold scK at h h5 ⊢
  rw [List.length_map] at h h5
  rcases h with h | h
  · rw [List.take_of_length_le h] at h5 ⊢
    rw [List.take_of_length_le h5]
  · congr 1
    have e : t = t.take k ++ t.drop k := (List.take_append_drop k t).symm
    have e2 : (t.filter fun r => inScan o r.key) = ((t.take k).filter fun r => inScan o r.key) ++ ((t.drop k).filter fun r => inScan o r.key) := by rw [← List.filter_append, ← e]
    rw [e2, List.take_append_of_le_length h, List.take_of_length_le h5]
set_option maxRecDepth 100000 in
set_option maxHeartbeats 8000000 in
theorem refscan_any (t : List Rcd) (o : OpR) (A : Option Addr) (n cap : Nat) (w : World) (h : IsTs w A n t) (h88 : n * 88 ≤ 140737488351232) :
    Calls Try.prog 35 #[.slice A n cap, opV o] w fun e w' => ∃ K, e = .returned (rpV ⟨0, 0, ByteArray.empty, scanT t o⟩ K) ∧ RowK w' w.heap.size K (scanT t o) ∧ Below w.heap.size w w' := by
  have HN : Hid (n = t.length) := h.1
  have HT := Lib.hid h; clear h
  have hbw : Below w.heap.size w (((w.alloc (.cells #[.int .i64 o.kind, .string o.key, .string o.value, .int .i64 o.rev, .string o.upto, .int .i64 o.life, .string o.note] 26)).alloc (.cells #[.int .i64 0, .int .i64 0, .string ⟨#[]⟩, .slice none 0 0] 37)).alloc (.cells #[.int .i64 0, .int .i64 0, .string ⟨#[]⟩, .slice none 0 0] 37)) := (((Below.refl _ _).alloc (Nat.le_refl _) _).alloc (by simp) _).alloc (by simp; omega) _
  have hob : OpBlk (((w.alloc (.cells #[.int .i64 o.kind, .string o.key, .string o.value, .int .i64 o.rev, .string o.upto, .int .i64 o.life, .string o.note] 26)).alloc (.cells #[.int .i64 0, .int .i64 0, .string ⟨#[]⟩, .slice none 0 0] 37)).alloc (.cells #[.int .i64 0, .int .i64 0, .string ⟨#[]⟩, .slice none 0 0] 37)) w.heap.size o := ((OpBlk.new w o).below ((Below.refl _ _).alloc (Nat.le_refl _) _)).below ((Below.refl _ _).alloc (Nat.le_refl _) _)
  have ha1 : Blk (((w.alloc (.cells #[.int .i64 o.kind, .string o.key, .string o.value, .int .i64 o.rev, .string o.upto, .int .i64 o.life, .string o.note] 26)).alloc (.cells #[.int .i64 0, .int .i64 0, .string ⟨#[]⟩, .slice none 0 0] 37)).alloc (.cells #[.int .i64 0, .int .i64 0, .string ⟨#[]⟩, .slice none 0 0] 37)) (w.heap.size + 1) (.cells #[.int .i64 0, .int .i64 0, .string ⟨#[]⟩, .slice none 0 0] 37 (0, 0)) := by have h := Blk.below (Blk.new (w.alloc (.cells #[.int .i64 o.kind, .string o.key, .string o.value, .int .i64 o.rev, .string o.upto, .int .i64 o.life, .string o.note] 26)) (.cells #[.int .i64 0, .int .i64 0, .string ⟨#[]⟩, .slice none 0 0] 37)) ((Below.refl _ _).alloc (Nat.le_refl _) (.cells #[.int .i64 0, .int .i64 0, .string ⟨#[]⟩, .slice none 0 0] 37)); rw [World.size_alloc] at h; exact h
  have hz1 : Blk (((w.alloc (.cells #[.int .i64 o.kind, .string o.key, .string o.value, .int .i64 o.rev, .string o.upto, .int .i64 o.life, .string o.note] 26)).alloc (.cells #[.int .i64 0, .int .i64 0, .string ⟨#[]⟩, .slice none 0 0] 37)).alloc (.cells #[.int .i64 0, .int .i64 0, .string ⟨#[]⟩, .slice none 0 0] 37)) (w.heap.size + 2) (.cells #[.int .i64 0, .int .i64 0, .string ⟨#[]⟩, .slice none 0 0] 37 (0, 0)) := by have h := Blk.new ((w.alloc (.cells #[.int .i64 o.kind, .string o.key, .string o.value, .int .i64 o.rev, .string o.upto, .int .i64 o.life, .string o.note] 26)).alloc (.cells #[.int .i64 0, .int .i64 0, .string ⟨#[]⟩, .slice none 0 0] 37)) (.cells #[.int .i64 0, .int .i64 0, .string ⟨#[]⟩, .slice none 0 0] 37); rw [World.size_alloc, World.size_alloc] at h; exact h
  obtain ⟨W0, hW0⟩ : ∃ W, ((w.alloc (.cells #[.int .i64 o.kind, .string o.key, .string o.value, .int .i64 o.rev, .string o.upto, .int .i64 o.life, .string o.note] 26)).alloc (.cells #[.int .i64 0, .int .i64 0, .string ⟨#[]⟩, .slice none 0 0] 37)).alloc (.cells #[.int .i64 0, .int .i64 0, .string ⟨#[]⟩, .slice none 0 0] 37) = W := ⟨_, rfl⟩
  rw [hW0] at hbw hob ha1 hz1
  have HBW := Lib.hid hbw; clear hbw
  unfold opV
  go_enter Try.func35, Try.ntmps35
  go_wp2_with fail
  clear hW0
  obtain ⟨B, hB⟩ : ∃ B, w.heap.size = B := ⟨_, rfl⟩
  have HBE := Lib.hid hB
  have e2 : B + 1 + 1 = B + 2 := rfl
  rw [hB] at hob ha1 hz1 ⊢
  rw [e2]
  clear hB e2
  go_loopw [6] (fun i wy => ∃ (k : Nat) (wr : World) (KV : Value), wr = wy ∧ k ≤ n ∧ i = .int .i64 k ∧ OpBlk wr B o ∧ Blk wr (B + 1) (.cells #[.int .i64 0, .int .i64 0, .string ⟨#[]⟩, .slice none 0 0] 37 (0, 0)) ∧ Blk wr (B + 2) (.cells #[.int .i64 0, .int .i64 0, .string ⟨#[]⟩, KV] 37 (0, 0)) ∧ RowK wr (B + 3) KV (scK t o k) ∧ (scK t o k).length ≤ 5 ∧ Below w.heap.size w wr) (fun i _ => n - (intOf i).toNat)
  case atStart => exact ⟨0, _, _, rfl, by omega, rfl, hob, ha1, hz1, rowK_nil _ _, by simp [scK], HBW.out⟩
  case round =>
    clear hob ha1 hz1 HBW
    obtain ⟨k, wr, KV, rfl, hk, rfl, hob, ha1, hz1, hro, hlk, hb⟩ := hrel
    obtain ⟨Ak, ck, hkv⟩ := own_formK hro
    subst hkv
    have HRO0 := Lib.hid hro; clear hro
    have HLK := Lib.hid hlk; clear hlk
    have HB := Lib.hid hb; clear hb
    have HOB := Lib.hid hob; clear hob
    have HA1 := Lib.hid ha1; clear ha1
    have HZ := Lib.hid hz1; clear hz1
    obtain ⟨kk, hkk⟩ : ∃ kk, scK t o k = kk := ⟨_, rfl⟩
    have HEN : Hid (t.length ≤ k ∨ 5 ≤ (scK t o k).length → scK t o k = scanT t o) := fun h => scK_end h HLK.out
    rw [hkk] at HRO0 HLK HEN HZ
    have HKK := Lib.hid hkk; clear hkk
    have z3 := Blk.cell HZ.out 3
    simp only [List.getElem?_toArray, List.getElem?_cons_zero, List.getElem?_cons_succ] at z3
    have gk : kk.length ≤ 5 := HLK.out
    by_cases hlt : k < n
    · have hki : (k : Int) < (n : Int) := by omega
      by_cases h5 : kk.length < 5
      · have h5i : (kk.length : Int) < 5 := by omega
        have HK : Hid (k < t.length) := by have := HN.out; show k < t.length; omega
        obtain ⟨b, off, hA, hbb⟩ := HT.out.block (by omega)
        subst hA
        obtain ⟨E, m, c, hx, hmc, hfs⟩ := HT.out.at HK.out (Below.refl _ w)
        have HPX := Lib.hid hx; clear hx hfs
        have hg1 : decide ((k : Int) < 0) = false := decide_eq_false (by omega)
        have hg2 : decide ((n : Int) ≤ (k : Int)) = false := decide_eq_false (by omega)
        have hg2n : decide (n ≤ k) = false := decide_eq_false (by omega)
        have hk0 : (0 : Int) ≤ (k : Int) := by omega
        have HKN0 := Lib.hid (scK_succ (o := o) HK.out)
        rw [HKK.out] at HKN0
        have HIN : Hid (inScan o (atR t k).key = (!ltB (atR t k).key o.key && (decide (o.upto.size = 0) || ltB (atR t k).key o.upto))) := rfl
        generalize atR t k = r at *
        have HBV : Hid (∀ V, Below wr.heap.size wr V → Below w.heap.size w V) := fun V hv => bch HB.out hv
        cases hin : inScan o r.key with
        | false =>
          rw [hin] at HKN0 HIN
          have HKN : Hid (scK t o (k + 1) = kk) := by show _ = _; rw [HKN0.out]; simp
          clear hin HKN0
          have hin2 : (!Go.Op.bytesLess r.key.toList o.key.toList) = false ∨ (!Go.Op.bytesLess r.key.toList o.key.toList) = true ∧ (o.upto.toList == []) = false ∧ Go.Op.bytesLess r.key.toList o.upto.toList = false := by
            have h := HIN.out
            cases h1 : Go.Op.bytesLess r.key.toList o.key.toList
            · right
              have h1' : ltB r.key o.key = false := h1
              rw [h1'] at h
              have h2 : (decide (o.upto.size = 0) || ltB r.key o.upto) = false := by simpa using h.symm
              rw [Bool.or_eq_false_iff] at h2
              refine ⟨rfl, ?_, h2.2⟩
              rw [beq_eq_false_iff_ne]; intro e; exact (of_decide_eq_false h2.1) ((toList_size _).1 e)
            · left; rfl
          have H2 := Lib.hid hin2; clear hin2
          obtain ⟨q0, q1, q2, q3, q4, q5, q6⟩ := HOB.out.cells
          obtain ⟨x0, x1, x2, x3, x4, x5⟩ := RcAt.below (show RcAt w b (off + k * 6) r (.slice E m c) from HPX.out) HB.out
          rcases H2.out with e1 | ⟨e1, e2, e3⟩
          all_goals
            go_wp2_with fail
            go_quiet (fail)
            go_wp2_with fail
            go_roundw
            case rel => exact ⟨k + 1, _, _, rfl, by omega, by go_num, (show OpBlk wr B o from HOB.out).below (bdn (Below.refl _ _) _), Blk.below HA1.out (bdn (Below.refl _ _) _), Blk.below HZ.out (bdn (Below.refl _ _) _), by rw [HKN.out]; exact HRO0.out.below (bdn (Below.refl _ _) _), by rw [HKN.out]; exact HLK.out, bdn HB.out _⟩
            case measure => simp [intOf]; omega
        | true =>
          rw [hin] at HKN0 HIN
          have HKN : Hid (scK t o (k + 1) = kk ++ [r.key]) := by show _ = _; rw [HKN0.out]; simp
          clear hin HKN0
          have hin1 : (!Go.Op.bytesLess r.key.toList o.key.toList) = true ∧ ((o.upto.toList == []) = true ∨ (o.upto.toList == []) = false ∧ Go.Op.bytesLess r.key.toList o.upto.toList = true) := by
            have h := HIN.out.symm
            rw [Bool.and_eq_true, Bool.or_eq_true] at h
            refine ⟨h.1, ?_⟩
            cases h3 : o.upto.toList == []
            · right
              refine ⟨rfl, ?_⟩
              rcases h.2 with h4 | h4
              · have := (toList_size _).2 (of_decide_eq_true h4)
                rw [this] at h3; cases h3
              · exact h4
            · left; rfl
          have H2 := Lib.hid hin1; clear hin1
          obtain ⟨q0, q1, q2, q3, q4, q5, q6⟩ := HOB.out.cells
          obtain ⟨x0, x1, x2, x3, x4, x5⟩ := RcAt.below (show RcAt w b (off + k * 6) r (.slice E m c) from HPX.out) HB.out
          have e1 := H2.out.1
          rcases H2.out.2 with e2 | ⟨e2, e3⟩
          all_goals
            go_wp2_with fail
            go_quiet (fail)
            go_upto_region 6 with fail
            have hbv : Below wr.heap.size wr (wr.drewN nq) := bdn (Below.refl _ _) _
            have HRO := Lib.hid (HRO0.out.below hbv)
            have HZv := Lib.hid (Blk.below HZ.out hbv)
            have HAv := Lib.hid (Blk.below HA1.out hbv)
            have HOv : Hid (OpBlk (wr.drewN nq) B o) := OpBlk.below HOB.out hbv
            have HBv := Lib.hid (bch HB.out hbv)
            obtain ⟨V, hV⟩ : ∃ V, wr.drewN nq = V := ⟨_, rfl⟩
            have HOv2 : Hid (OpBlk V B o) := by rw [← hV]; exact HOv.out
            clear HOv
            rw [hV] at HRO HZv HAv HBv ⊢
            clear hV hbv q0 q1 q2 q3 q4 q5 q6 x0 x1 x2 x3 x4 x5 z3 HZ HA1 HOB HB HRO0
            have HZ := HZv
            have HA1 := HAv
            have HOB := HOv2
            have HB := HBv
            clear HZv HAv HOv2 HBv e1 e2
            have z3 := Blk.cell HZ.out 3
            simp only [List.getElem?_toArray, List.getElem?_cons_zero, List.getElem?_cons_succ] at z3
            refine wp_region_noPanic ?_
            refine wp_region_till (S := (fun W => Below w.heap.size w W ∧ W.cell? ⟨B + 2, 3, none⟩ = some (.slice Ak kk.length ck))) [10] (by kernel_rfl) (⟨HB.out.drew, z3⟩) (fun hHeld => ?_)
            refine wpTill_take (i := 0) (v := ?_) rfl (by kernel_rfl) (by kernel_rfl) (by kernel_rfl) (by kernel_rfl) (fun _ _ _ h => h) (Or.inl ⟨by rfl, ?_⟩) (by assumption) ?_
            rotate_left
            · (intro w hSw; (try dsimp only at hSw); go_simp; (try with_reducible rfl))
            simp only [Act.put, List.getElem_toArray, List.getElem_cons_zero, List.setIfInBounds_toArray, List.set_cons_zero, List.set_cons_succ]
            refine wpTill_take (i := 1) (v := ?_) rfl (by kernel_rfl) (by kernel_rfl) (by kernel_rfl) (by kernel_rfl) (fun _ _ _ h => h) (Or.inl ⟨by rfl, ?_⟩) (by assumption) ?_
            rotate_left
            · (intro w hSw; (try dsimp only at hSw); have y3 := hSw.2; go_simp; (try with_reducible rfl))
            simp only [Act.put, List.getElem_toArray, List.getElem_cons_zero, List.getElem_cons_succ, List.setIfInBounds_toArray, List.set_cons_zero, List.set_cons_succ]
            refine wpTill_take (i := 2) (v := ?_) rfl (by kernel_rfl) (by kernel_rfl) (by kernel_rfl) (by kernel_rfl) (fun _ _ _ h => h) (Or.inl ⟨by rfl, ?_⟩) (by assumption) ?_
            rotate_left
            · (intro w hSw; (try dsimp only at hSw); go_simp; (try with_reducible rfl))
            simp only [Act.put, List.getElem_toArray, List.getElem_cons_zero, List.getElem_cons_succ, List.setIfInBounds_toArray, List.set_cons_zero, List.set_cons_succ]
            refine wpTill_take (i := 3) (v := ?_) rfl (by kernel_rfl) (by kernel_rfl) (by kernel_rfl) (by kernel_rfl) (fun _ _ _ h => h) (Or.inl ⟨by rfl, ?_⟩) (by assumption) ?_
            rotate_left
            · (intro w hSw; (try dsimp only at hSw); go_simp; (try with_reducible rfl))
            simp only [Act.put, List.getElem_toArray, List.getElem_cons_zero, List.getElem_cons_succ, List.setIfInBounds_toArray, List.set_cons_zero, List.set_cons_succ]
            refine wpTill_take (i := 4) (v := ?_) rfl (by kernel_rfl) (by kernel_rfl) (by kernel_rfl) (by kernel_rfl) (fun _ _ _ h => h) (Or.inl ⟨by rfl, ?_⟩) (by assumption) ?_
            rotate_left
            · (intro w hSw; (try dsimp only at hSw); go_simp; (try with_reducible rfl))
            simp only [Act.put, List.getElem_toArray, List.getElem_cons_zero, List.getElem_cons_succ, List.setIfInBounds_toArray, List.set_cons_zero, List.set_cons_succ]
            refine wpTill_take (i := 5) (v := ?_) rfl (by kernel_rfl) (by kernel_rfl) (by kernel_rfl) (by kernel_rfl) (fun _ _ _ h => h) (Or.inl ⟨by rfl, ?_⟩) (by assumption) ?_
            rotate_left
            · (intro w hSw; (try dsimp only at hSw); go_simp; (try with_reducible rfl))
            simp only [Act.put, List.getElem_toArray, List.getElem_cons_zero, List.getElem_cons_succ, List.setIfInBounds_toArray, List.set_cons_zero, List.set_cons_succ]
            refine wpTill_take (i := 6) (v := ?_) rfl (by kernel_rfl) (by kernel_rfl) (by kernel_rfl) (by kernel_rfl) (fun _ _ _ h => h) (Or.inl ⟨by rfl, ?_⟩) (by assumption) ?_
            rotate_left
            · (intro w hSw; (try dsimp only at hSw); obtain ⟨x0, x1, x2, x3, x4, x5⟩ := RcAt.below HPX.out hSw.1; go_simp; (try with_reducible rfl))
            simp only [Act.put, List.getElem_toArray, List.getElem_cons_zero, List.getElem_cons_succ, List.setIfInBounds_toArray, List.set_cons_zero, List.set_cons_succ]
            have hb7 : Below V.heap.size V (V.alloc (.cells #[.string r.key] 9)) := (Below.refl _ _).alloc (Nat.le_refl _) _
            refine wpTill_ready (rs := [7]) (by kernel_rfl) (by simp) ?_
            refine AllReadyT.cons rfl (fun K hK => ?_) AllReadyT.nil
            rw [if_pos (by rfl)]
            go_simp
            refine hK.out _ _ (⟨hHeld.1.alloc HB.out.size _, (hb7.cell (p := ⟨B + 2, 3, none⟩) (lt_of_cell hHeld.2)).trans hHeld.2⟩) (fun hHeld2 => ?_)
            clear hK K hHeld
            have hHeld := hHeld2; clear hHeld2
            have hc7 : (V.alloc (.cells #[.string r.key] 9)).drew.cell? ⟨V.heap.size, 0, none⟩ = some (.string r.key) := cell_one_new V _ _
            have HRO7 := Lib.hid ((HRO.out.below hb7).drew_k)
            have HZ7 := Lib.hid (Blk.drew (Blk.below HZ.out hb7))
            have HA7 := Lib.hid (Blk.drew (Blk.below HA1.out hb7))
            have HO7 := Lib.hid (OpBlk.below HOB.out hb7)
            have HS7 : Hid (B + 2 < (V.alloc (.cells #[.string r.key] 9)).drew.heap.size) := Nat.lt_of_lt_of_le (Blk.lt HZ.out) (by show V.heap.size ≤ (V.alloc (.cells #[.string r.key] 9)).heap.size; simp)
            obtain ⟨V7, hV7⟩ : ∃ W, (V.alloc (.cells #[.string r.key] 9)).drew = W := ⟨_, rfl⟩
            rw [hV7] at hHeld hc7 HRO7 HZ7 HA7 HS7 ⊢
            have HO7 : Hid (OpBlk V7 B o) := by rw [← hV7]; exact HO7.out
            clear hV7 hb7
            refine wpTill_ready (rs := [8]) (by kernel_rfl) (by simp) ?_
            refine AllReadyT.cons rfl (fun K hK => ?_) AllReadyT.nil
            refine step_append_ss rfl _ _ rfl (B + 3) _ (kk) rfl HRO7.out V.heap.size 1 r.key rfl hc7 (by have := HLK.out; omega) (by have := HS7.out; omega) ?_
            intro A8 cap8 V8 hrow8 hgr8
            have hlt8 := HRO7.out.lt
            have hn8 : ∀ j, j < B + 3 → some j ≠ (Value.slice Ak kk.length ck).ownBlock := fun j hj e => by have := (hlt8 j e.symm).1; omega
            have hb8 : Below w.heap.size w V8 := hHeld.1.grown hgr8 hHeld.1.size (fun g hg => by have := (hlt8 g hg).1; have := HBE.out; omega)
            have HZ8 := Lib.hid (Blk.kept HZ7.out hgr8 (hn8 (B + 2) (by omega)))
            have HA8 := Lib.hid (Blk.kept HA7.out hgr8 (hn8 (B + 1) (by omega)))
            have HO8 : Hid (OpBlk V8 B o) := Blk.kept (o := _) HO7.out hgr8 (hn8 B (by omega))
            have y8 := Blk.cell HZ8.out 3
            simp only [List.getElem?_toArray, List.getElem?_cons_zero, List.getElem?_cons_succ] at y8
            have f8 := Blk.frozen HZ8.out 3
            have HR8 := Lib.hid hrow8
            refine hK.out _ _ ⟨hb8, y8⟩ (fun hHeld2 => ?_)
            clear hK K hHeld hgr8 hb8 hrow8 hlt8 hn8
            have hHeld := hHeld2; clear hHeld2
            refine wpTill_take (i := 9) (v := ?_) rfl (by kernel_rfl) (by kernel_rfl) (by kernel_rfl) (by kernel_rfl) (fun _ _ _ h => h) (Or.inl ⟨by rfl, ?_⟩) (by assumption) ?_
            rotate_left
            · (intro w hSw; (try dsimp only at hSw); go_simp; (try with_reducible rfl))
            simp only [Act.put, List.getElem_toArray, List.getElem_cons_zero, List.getElem_cons_succ, List.setIfInBounds_toArray, List.set_cons_zero, List.set_cons_succ]
            have HS := Lib.hid hHeld.1
            refine wpTill_ready (rs := [10]) (by kernel_rfl) (by simp) ?_
            refine AllReadyT.last rfl (by kernel_rfl) (fun K hK => ?_) AllReadyT.nil
            rw [if_pos (by rfl)]
            go_simp
            refine hK.out _ _ (trivial) (fun hHeld2 => ?_)
            clear hK K hHeld
            have hHeld := hHeld2; clear hHeld2
            refine wpTill_done (by kernel_rfl) ?_ _
            refine NoPanic.normal ?_
            have hz9 := Blk.set HZ8.out 3 (.slice A8 (kk.length + 1) cap8) #[.int .i64 0, .int .i64 0, .string ⟨#[]⟩, .slice A8 (kk.length + 1) cap8] rfl
            have ha9 := Blk.far HA8.out (show B + 1 ≠ B + 2 by omega) 3 (.slice A8 (kk.length + 1) cap8)
            have ho9 : OpBlk (V8.setCell ⟨B + 2, 3, none⟩ (.slice A8 (kk.length + 1) cap8)) B o := Blk.far (o := _) HO8.out (show B ≠ B + 2 by omega) 3 (.slice A8 (kk.length + 1) cap8)
            have hb9 := HS.out.setCell (p := ⟨B + 2, 3, none⟩) (show w.heap.size ≤ B + 2 by have := HBE.out; omega) (.slice A8 (kk.length + 1) cap8)
            have hr9 := World.ownsRow.kept HR8.out (gb_set V8 (B + 2) 3 (.slice A8 (kk.length + 1) cap8)) (.inr fun e => by have := (HR8.out.lt _ e).1; omega)
            have HZ9 := Lib.hid hz9; clear hz9
            have HA9 := Lib.hid ha9; clear ha9
            have HO9 := Lib.hid ho9; clear ho9
            have HB9 := Lib.hid hb9; clear hb9
            have HR9 := Lib.hid hr9; clear hr9
            clear hHeld y8 f8
            go_wp2_with fail
            go_roundw
            case rel => exact ⟨k + 1, _, .slice A8 (kk.length + 1) cap8, rfl, by omega, by go_num, HO9.out, HA9.out, HZ9.out, by rw [HKN.out]; exact HR9.out, by rw [HKN.out]; simp; omega, HB9.out⟩
            case measure => simp [intOf]; omega
      · have HE : Hid (kk = scanT t o) := HEN.out (.inr (by omega))
        have h5i : ¬ (kk.length : Int) < 5 := by omega
        clear hlt h5
        have y0 := Blk.cell HZ.out 0
        have y1 := Blk.cell HZ.out 1
        have y2 := Blk.cell HZ.out 2
        simp only [List.getElem?_toArray, List.getElem?_cons_zero, List.getElem?_cons_succ] at y0 y1 y2
        have y3 := z3
        clear z3
        have z0 := Blk.cell HA1.out 0
        have z1 := Blk.cell HA1.out 1
        have z2 := Blk.cell HA1.out 2
        have z3 := Blk.cell HA1.out 3
        simp only [List.getElem?_toArray, List.getElem?_cons_zero, List.getElem?_cons_succ] at z0 z1 z2 z3
        have f0 := Blk.frozen HA1.out 0
        have f1 := Blk.frozen HA1.out 1
        have f2 := Blk.frozen HA1.out 2
        have f3 := Blk.frozen HA1.out 3
        have hfin := rp_put HA1.out (.int .i64 0) (.int .i64 0) (.string ⟨#[]⟩) (.slice Ak kk.length ck)
        have e0 := Blk.cell hfin 0
        have e1 := Blk.cell hfin 1
        have e2 := Blk.cell hfin 2
        have e3 := Blk.cell hfin 3
        simp only [List.getElem?_toArray, List.getElem?_cons_zero, List.getElem?_cons_succ] at e0 e1 e2 e3
        have hnk : ∀ j, j < B + 3 → some j ≠ (Value.slice Ak kk.length ck).ownBlock := fun j hj e => by have := (HRO0.out.lt j e.symm).1; omega
        have HRF := Lib.hid (rowK_four HRO0.out (hnk (B + 1) (by omega)) (.int .i64 0) (.int .i64 0) (.string ⟨#[]⟩) (.slice Ak kk.length ck))
        have HBF := Lib.hid (below_four (g := B + 1) HB.out (by have := HBE.out; omega) (.int .i64 0) (.int .i64 0) (.string ⟨#[]⟩) (.slice Ak kk.length ck))
        clear hfin hnk
        go_wp2_with fail
        refine bodyPost_ret (v := .agg #[.int .i64 0, .int .i64 0, .string ⟨#[]⟩, .slice Ak kk.length ck]) (by simp [results, Try.results35, go_sem, e0, e1, e2, e3]) rfl ⟨.slice Ak kk.length ck, rfl, by rw [← HE.out]; exact rowK_base (show w.heap.size ≤ B + 3 by have := HBE.out; omega) HRF.out, HBF.out⟩
    · have HE : Hid (kk = scanT t o) := HEN.out (.inl (by have := HN.out; omega))
      have hki : ¬ (k : Int) < (n : Int) := by omega
      clear hlt
      have y0 := Blk.cell HZ.out 0
      have y1 := Blk.cell HZ.out 1
      have y2 := Blk.cell HZ.out 2
      simp only [List.getElem?_toArray, List.getElem?_cons_zero, List.getElem?_cons_succ] at y0 y1 y2
      have y3 := z3
      clear z3
      have z0 := Blk.cell HA1.out 0
      have z1 := Blk.cell HA1.out 1
      have z2 := Blk.cell HA1.out 2
      have z3 := Blk.cell HA1.out 3
      simp only [List.getElem?_toArray, List.getElem?_cons_zero, List.getElem?_cons_succ] at z0 z1 z2 z3
      have f0 := Blk.frozen HA1.out 0
      have f1 := Blk.frozen HA1.out 1
      have f2 := Blk.frozen HA1.out 2
      have f3 := Blk.frozen HA1.out 3
      have hfin := rp_put HA1.out (.int .i64 0) (.int .i64 0) (.string ⟨#[]⟩) (.slice Ak kk.length ck)
      have e0 := Blk.cell hfin 0
      have e1 := Blk.cell hfin 1
      have e2 := Blk.cell hfin 2
      have e3 := Blk.cell hfin 3
      simp only [List.getElem?_toArray, List.getElem?_cons_zero, List.getElem?_cons_succ] at e0 e1 e2 e3
      have hnk : ∀ j, j < B + 3 → some j ≠ (Value.slice Ak kk.length ck).ownBlock := fun j hj e => by have := (HRO0.out.lt j e.symm).1; omega
      have HRF := Lib.hid (rowK_four HRO0.out (hnk (B + 1) (by omega)) (.int .i64 0) (.int .i64 0) (.string ⟨#[]⟩) (.slice Ak kk.length ck))
      have HBF := Lib.hid (below_four (g := B + 1) HB.out (by have := HBE.out; omega) (.int .i64 0) (.int .i64 0) (.string ⟨#[]⟩) (.slice Ak kk.length ck))
      clear hfin hnk
      go_wp2_with fail
      refine bodyPost_ret (v := .agg #[.int .i64 0, .int .i64 0, .string ⟨#[]⟩, .slice Ak kk.length ck]) (by simp [results, Try.results35, go_sem, e0, e1, e2, e3]) rfl ⟨.slice Ak kk.length ck, rfl, by rw [← HE.out]; exact rowK_base (show w.heap.size ≤ B + 3 by have := HBE.out; omega) HRF.out, HBF.out⟩
end Go.Proofs.Ytpnkkiokkhmjpaa
