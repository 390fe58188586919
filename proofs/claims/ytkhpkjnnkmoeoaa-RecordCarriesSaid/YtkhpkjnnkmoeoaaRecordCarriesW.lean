/-
  The walk of the law RecordCarries.
-/
import Derived.Test.YtkhpkjnnkmoeoaaRecordUnlikeW
import Derived.Test.YtkhpkjnnkmoeoaaSameQ
import Derived.Deep.QuietTactic
import Derived.BigQuiet
namespace Go.Proofs.Ytkhpkjnnkmoeoaa
open Go.RowKit
set_option linter.unusedVariables false
set_option linter.unusedSimpArgs false

/-- How many fields have a tag of at most 3. -/
def cnt3 (l : List Fld) : Nat := (l.filter fun f => decide (f.1 ≤ 3)).length
theorem cnt3_take {fs : List Fld} {k : Nat} (h : k < fs.length) : cnt3 (fs.take (k + 1)) = cnt3 (fs.take k) + (if tg fs k ≤ 3 then 1 else 0) := by
  unfold cnt3
  rw [List.take_succ_eq_append_getElem h, List.filter_append, List.length_append, tg_at h]
  by_cases h2 : fs[k].1 ≤ 3
  · rw [if_pos h2, List.filter_cons_of_pos (by simpa using h2)]; simp
  · rw [if_neg h2, List.filter_cons_of_neg (by simpa using h2)]; simp
theorem cnt3_le (l : List Fld) : cnt3 l ≤ l.length := List.length_filter_le _ _
theorem cnt3_opt {t : Int} {o : Option ByteArray} (h : t ≤ 3) : cnt3 (opt t o) = (opt t o).length := by
  cases o with
  | none => rfl
  | some d => simp [cnt3, opt, h]
theorem cnt3_append (a b : List Fld) : cnt3 (a ++ b) = cnt3 a + cnt3 b := by unfold cnt3; rw [List.filter_append, List.length_append]
theorem cnt3_zero {l : List Fld} (h : ∀ f ∈ l, 3 < f.1) : cnt3 l = 0 := by
  unfold cnt3
  rw [List.filter_eq_nil_iff.2]
  · rfl
  · intro f hf; have := h f hf; simp; omega
/-- What version 1 carries of a record of version 2 is what stands behind the fields of the tags up to 3. -/
theorem carried {r : Rcd} (hp : RightP 2 r) : (fieldsR r).drop (cnt3 (fieldsR r)) = opt 4 (ob (numD r.life)) ++ (opt 5 (ob r.note) ++ r.extra) := by
  have hc := chain_up (extraB_iff.1 hp.2.2.2.2.2).1 (extraB_iff.1 hp.2.2.2.2.2).2.2
  have hE : ∀ f ∈ opt 4 (ob (numD r.life)) ++ (opt 5 (ob r.note) ++ r.extra), (3 : Int) < f.1 := by
    intro f hf
    simp only [List.mem_append, mem_opt] at hf
    rcases hf with ⟨_, h⟩ | ⟨_, h⟩ | h
    · omega
    · omega
    · have := (chain_unknown (v := 2) (a := 5) (Int.le_refl _) hc f h).2; omega
  have he : fieldsR r = (opt 1 (ob r.key) ++ (opt 2 (ob r.value) ++ opt 3 (ob (numD r.rev)))) ++ (opt 4 (ob (numD r.life)) ++ (opt 5 (ob r.note) ++ r.extra)) := by
    rw [fieldsR_parts]; unfold parts; simp only [List.append_assoc]
  have hcn : cnt3 (fieldsR r) = (opt 1 (ob r.key) ++ (opt 2 (ob r.value) ++ opt 3 (ob (numD r.rev)))).length := by
    rw [he, cnt3_append, cnt3_zero hE, cnt3_append, cnt3_append, cnt3_opt (by omega), cnt3_opt (by omega), cnt3_opt (by omega)]
    simp only [List.length_append]; omega
  rw [hcn, he, List.drop_left]
theorem older {r : Rcd} (h : RecNice 2 r) : recD 1 (encL (fieldsR r)) = (⟨r.key, r.value, r.rev, 0, ByteArray.empty, opt 4 (ob (numD r.life)) ++ (opt 5 (ob r.note) ++ r.extra)⟩, 0) := by
  obtain ⟨a1, a2, a3⟩ := acc_older h.1
  rw [← a1]
  exact recD_ok (.inl rfl) (dec_enc (right_fields h.1).1 h.enc) a3 a2

set_option maxRecDepth 100000 in
set_option maxHeartbeats 8000000 in
theorem recordCarries_walk (x0 x1 x2 x3 x4 : Int) (A : Option Addr) (n cap : Nat) (f : Nat → Nat → Int) (B : Option Addr) (m cap2 : Nat) (g : Nat → ByteArray) (w : World) (h0 : (Lit.int .i64 x0).wf = true) (h1 : (Lit.int .i64 x1).wf = true) (h2 : (Lit.int .i64 x2).wf = true) (h3 : (Lit.int .i64 x3).wf = true) (h4 : (Lit.int .i64 x4).wf = true) (hra : IsRaw w A n 2 f) (hst : IsStrs w B m g) :
    Calls Try.prog 6 #[.agg #[.int .i64 x0, .int .i64 x1, .int .i64 x2, .int .i64 x3, .int .i64 x4], .slice A n cap, .slice B m cap2] w fun e w' => e = .returned (.bool true) ∧ Below w.heap.size w w' := by
  have hb0 : Below w.heap.size w (w.alloc (.cells #[.int .i64 x0, .int .i64 x1, .int .i64 x2, .int .i64 x3, .int .i64 x4] 25)) := (Below.refl _ _).alloc (Nat.le_refl _) _
  have harr : Arr5 (w.alloc (.cells #[.int .i64 x0, .int .i64 x1, .int .i64 x2, .int .i64 x3, .int .i64 x4] 25)) w.heap.size x0 x1 x2 x3 x4 := World.alloc_heap_new w _
  go_enter Try.func6, Try.ntmps6
  go_wp2_with fail
  ((with_reducible refine (awake3_any _).mono ?_); rintro e w1 ⟨rfl, b1⟩)
  have ha1 := harr.below b1
  have hb1 := bch hb0 b1
  clear harr hb0 b1
  have p1 := record_any 2 (.inr rfl) x0 x1 x2 x3 x4 h0 h1 h2 h3 h4 A n cap f B m cap2 g w1 (hra.below hb1) (hst.below hb1)
  obtain ⟨c0, c1, c2, c3, c4⟩ := ha1.cells
  clear ha1
  go_wp2_with fail
  ((with_reducible refine p1.mono ?_); rintro e w2 ⟨A1, n1, cap1, r, rfl, hc1, hf1, hN, b2⟩)
  clear p1 c0 c1 c2 c3 c4
  have hr2 := rcBlk_mk w2 r (.slice A1 n1 cap1)
  have bb2 : Below w2.heap.size w2 (w2.alloc (.cells #[.string r.key, .string r.value, .int .i64 r.rev, .int .i64 r.life, .string r.note, .slice A1 n1 cap1] 24)) := (Below.refl _ _).alloc (Nat.le_refl _) _
  have hf2 := hf1.below bb2
  have hb2 := bch (bch hb1 b2) bb2
  have p2 := rEncode_any 2 r A1 n1 cap1 _ hN.wf hf2
  rw [hN.recE] at p2
  have hle : (bs (encL (fieldsR r))).size ≤ 281474976710656 := by rw [bs_size]; have := hN.enc; omega
  have p3 := decode_any (bs (encL (fieldsR r))) hle
  rw [bs_data, dec_enc (right_fields hN.1).1 hN.enc] at p3
  have p4 := rDecode_any 1 (bs (encL (fieldsR r))) hle
  rw [bs_data, older hN] at p4
  have hcar := carried hN.1
  have hfl : (fieldsR r).length ≤ 15 := (right_fields hN.1).2
  clear hf1 bb2 b2 hN hb1 hf2 hle
  generalize bs (encL (fieldsR r)) = S at p2 p3 p4
  generalize hfs : fieldsR r = fs at *
  clear hfs
  generalize opt 4 (ob (numD r.life)) ++ (opt 5 (ob r.note) ++ r.extra) = ex at *
  obtain ⟨y0, y1, y2, y3, y4, y5⟩ := hr2.cells
  have HR2 := Lib.hid hr2
  have HCAR := Lib.hid hcar
  clear hr2 hcar
  go_wp2_with fail
  ((with_reducible refine p2.mono ?_); rintro e w3 ⟨rfl, b3⟩)
  clear y0 y1 y2 y3 y4 y5 p2
  go_wp2_with fail
  ((with_reducible refine (p3 _).mono ?_); rintro e w4 ⟨A4, n4, cap4, rfl, hc4, hf4, b4⟩)
  have hf4' : IsFs w4 A4 n4 fs := hf4
  have HR4 := Lib.hid ((HR2.out.below b3).below b4)
  have hb4 := bch (bch hb2 b3) b4
  clear hf4 hb2 b3 b4 p3 HR2
  go_wp2_with fail
  ((with_reducible refine (p4 _).mono ?_); rintro e w5 ⟨A5, n5, cap5, rfl, hc5, hf5, hnew5, b5⟩)
  have hf5' : IsFs w5 A5 n5 ex := hf5
  have bb5 : Below w5.heap.size w5 (w5.alloc (.cells #[.string r.key, .string r.value, .int .i64 r.rev, .int .i64 0, .string ByteArray.empty, .slice A5 n5 cap5] 24)) := (Below.refl _ _).alloc (Nat.le_refl _) _
  have hx5 : RcBlk (w5.alloc (.cells #[.string r.key, .string r.value, .int .i64 r.rev, .int .i64 0, .string ByteArray.empty, .slice A5 n5 cap5] 24)) w5.heap.size ⟨r.key, r.value, r.rev, 0, ByteArray.empty, ex⟩ (.slice A5 n5 cap5) := World.alloc_heap_new w5 _
  have hr5 := (HR4.out.below b5).below bb5
  have hff := (hf4'.below b5).below bb5
  have hfx := hf5'.below bb5
  have hb5 := bch (bch hb4 b5) bb5
  have hwfx := lt_of_blk hx5
  have hwfr := lt_of_blk hr5
  obtain ⟨y0, y1, y2, y3, y4, y5⟩ := hr5.cells
  obtain ⟨z0, z1, z2, z3, z4, z5⟩ := hx5.cells
  have HR5 := Lib.hid hr5
  have HX5 := Lib.hid hx5
  have HFX := Lib.hid hfx
  have HFF := Lib.hid hff
  clear hf5 hf5' hf4' p4 HR4 hr5 hx5 hfx b5 hb4 hnew5
  obtain ⟨hn4, _, hwf4, hat4⟩ := hff
  have HN4 := Lib.hid hn4
  have HC4 := Lib.hid hat4
  have hn4b : n4 ≤ 15 := by omega
  clear hn4 hat4 hfl
  go_upto_region 8 with fail
  generalize (w5.alloc (.cells #[.string r.key, .string r.value, .int .i64 r.rev, .int .i64 0, .string ByteArray.empty, .slice A5 n5 cap5] 24)) = W at *
  go_wp2_with fail
  go_loop [15, 16] (fun a i => ∃ (k q : Nat), k ≤ n4 ∧ q ≤ k ∧ i = .int .i64 k ∧ a = .int .i64 q ∧ Hid (cnt3 (fs.take k) = q)) (fun _ i => n4 - (intOf i).toNat)
  case atStart => exact ⟨0, 0, by omega, by omega, rfl, rfl, rfl⟩
  case round =>
    obtain ⟨k, q, hk, hq, rfl, rfl, hf⟩ := hrel
    by_cases hlt : k < n4
    · obtain ⟨b, off, hA, hb, hat⟩ := HC4.out (by omega)
      subst hA
      have HK : Hid (k < fs.length) := by have := HN4.out; show k < fs.length; omega
      obtain ⟨c1, c2⟩ := hat k HK.out
      clear hat
      by_cases h3 : tg fs k ≤ 3
      · have HS : Hid (cnt3 (fs.take (k + 1)) = q + 1) := (cnt3_take HK.out).trans (by rw [hf.out, if_pos h3])
        go_wp2_with fail
        go_round
        case rel => exact ⟨k + 1, q + 1, by omega, by omega, by go_num, by go_num, HS⟩
        case measure => simp [intOf]; omega
      · have HS : Hid (cnt3 (fs.take (k + 1)) = q) := (cnt3_take HK.out).trans (by rw [hf.out, if_neg h3]; rfl)
        have h3' : decide (tg fs k ≤ 3) = false := by simpa using h3
        go_wp2_with fail
        go_round
        case rel => exact ⟨k + 1, q, by omega, by omega, by go_num, rfl, HS⟩
        case measure => simp [intOf]; omega
    · have hkn : n4 = k := by omega
      subst hkn
      have hQ : cnt3 fs = q := by
        have := hf.out
        rwa [HN4.out, List.take_of_length_le (Nat.le_refl _)] at this
      obtain ⟨A', hsl, hfsl⟩ := slice_fs_from HFF.out (k := q) hq hc4
      rw [← hQ, HCAR.out] at hfsl
      rw [hQ] at hfsl
      have p7 : ∀ nq, Calls Try.prog 21 #[.slice A5 n5 cap5, .slice A' (n4 - q) (cap4 - q)] (W.drewN nq) fun e w' => e = .returned (.bool true) ∧ ∃ m, w' = (W.drewN nq).drewN m := fun nq => by
        have h := same_quiet A5 A' n5 (n4 - q) cap5 (cap4 - q) ex ex (W.drewN nq) (HFX.out.below (bdn (Below.refl _ _) _)) (hfsl.below (bdn (Below.refl _ _) _))
        rw [sameB_self] at h
        exact h
      have eE : ByteArray.empty.toList = [] := bs_toList []
      clear hQ hfsl hf
      go_upto_region 14 with fail
      go_quiet ((exact Calls.quiet_of (p7 _)))
      go_wp2
      go_ret
      exact ⟨rfl, bdn hb5 _⟩
end Go.Proofs.Ytkhpkjnnkmoeoaa
