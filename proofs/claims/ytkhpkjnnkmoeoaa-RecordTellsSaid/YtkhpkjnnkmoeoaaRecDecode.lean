/-
  The contract of record.Decode: what recD says, in new memory; nothing that was in memory changes.
-/
import Derived.Test.YtkhpkjnnkmoeoaaRecOf
import Derived.Test.YtkhpkjnnkmoeoaaFind
namespace Go.Proofs.Ytkhpkjnnkmoeoaa
open Go.RowKit

/-- What Decode leaves. -/
def RecPost (w : World) (r : Rcd × Nat) (e : Ending) (w' : World) : Prop :=
  ∃ A n cap, e = .returned (.tuple #[rcV r.1 (.slice A n cap), .int .i64 r.2]) ∧ n ≤ cap ∧ IsFs w' A n r.1.extra ∧ NewAt w.heap.size A ∧ Below w.heap.size w w'
theorem recD_ver {v : Int} {s : List UInt8} (h : ¬ (v = 1 ∨ v = 2)) : recD v s = (zeroR, 1) := by unfold recD; rw [if_pos h]
theorem recD_err {v : Int} {s : List UInt8} (h : v = 1 ∨ v = 2) {fs : List Fld} {e : Nat} (hd : decR s = (fs, e)) (he : e ≠ 0) : recD v s = (zeroR, e) := by
  unfold recD; rw [if_neg (fun h2 => h2 h), hd]; simp only; rw [if_pos he]
theorem recD_key {v : Int} {s : List UInt8} (h : v = 1 ∨ v = 2) {fs : List Fld} (hd : decR s = (fs, 0)) (hf : (findR fs 1).2 = false) : recD v s = (zeroR, 20) := by
  unfold recD; rw [if_neg (fun h2 => h2 h), hd]; simp only; rw [if_neg (by simp), if_pos hf]
theorem recD_known {v : Int} {s : List UInt8} (h : v = 1 ∨ v = 2) {fs : List Fld} (hd : decR s = (fs, 0)) (hf : (findR fs 1).2 = true) (hp : recP v fs = false) : recD v s = (zeroR, 21) := by
  unfold recD; rw [if_neg (fun h2 => h2 h), hd]; simp only; rw [if_neg (by simp), if_neg (by simp [hf]), if_pos hp]
theorem recD_ok {v : Int} {s : List UInt8} (h : v = 1 ∨ v = 2) {fs : List Fld} (hd : decR s = (fs, 0)) (hf : (findR fs 1).2 = true) (hp : recP v fs = true) : recD v s = (accR v fs, 0) := by
  unfold recD; rw [if_neg (fun h2 => h2 h), hd]; simp only; rw [if_neg (by simp), if_neg (by simp [hf]), if_neg (by simp [hp])]

theorem isFs_set {w : World} {A : Option Addr} {n : Nat} {fs : List Fld} (h : IsFs w A n fs) {B : Nat} (hB : ∀ b off, A = some ⟨b, off, none⟩ → 0 < n → b ≠ B) (j : Nat) (u : Value) : IsFs (w.setCell ⟨B, j, none⟩ u) A n fs := by
  obtain ⟨h1, h2, h3, h4⟩ := h
  refine ⟨h1, h2, h3, fun hn => ?_⟩
  obtain ⟨b, off, hA, hlt, hc⟩ := h4 hn
  have hne := hB b off hA hn
  refine ⟨b, off, hA, by simpa using hlt, fun i hi => ?_⟩
  obtain ⟨c1, c2⟩ := hc i hi
  exact ⟨(World.cell?_of_block (a := ⟨b, off + i * 2, none⟩) (heap_setCell_other w ⟨B, j, none⟩ b u hne)).trans c1, (World.cell?_of_block (a := ⟨b, off + i * 2 + 1, none⟩) (heap_setCell_other w ⟨B, j, none⟩ b u hne)).trans c2⟩
theorem below_set6 {B : Nat} {a w : World} (h : Below B a w) (u0 u1 u2 u3 u4 u5 : Value) : Below B a ((((((w.setCell ⟨B, 0, none⟩ u0).setCell ⟨B, 1, none⟩ u1).setCell ⟨B, 2, none⟩ u2).setCell ⟨B, 3, none⟩ u3).setCell ⟨B, 4, none⟩ u4).setCell ⟨B, 5, none⟩ u5) :=
  (((((h.setCell (Nat.le_refl _) _).setCell (Nat.le_refl _) _).setCell (Nat.le_refl _) _).setCell (Nat.le_refl _) _).setCell (Nat.le_refl _) _).setCell (Nat.le_refl _) _
theorem newAt_ne {B B2 : Nat} {A : Option Addr} {n : Nat} (h : NewAt B A) (hB : B2 < B) : ∀ b off, A = some ⟨b, off, none⟩ → 0 < n → b ≠ B2 := fun b off hA _ => by have := h b off hA; omega
theorem isFs_set6 {w : World} {A : Option Addr} {n : Nat} {fs : List Fld} (h : IsFs w A n fs) {B B2 : Nat} (h2 : NewAt B2 A) (hB : B < B2) (u0 u1 u2 u3 u4 u5 : Value) : IsFs ((((((w.setCell ⟨B, 0, none⟩ u0).setCell ⟨B, 1, none⟩ u1).setCell ⟨B, 2, none⟩ u2).setCell ⟨B, 3, none⟩ u3).setCell ⟨B, 4, none⟩ u4).setCell ⟨B, 5, none⟩ u5) A n fs :=
  isFs_set (isFs_set (isFs_set (isFs_set (isFs_set (isFs_set h (newAt_ne h2 hB) 0 u0) (newAt_ne h2 hB) 1 u1) (newAt_ne h2 hB) 2 u2) (newAt_ne h2 hB) 3 u3) (newAt_ne h2 hB) 4 u4) (newAt_ne h2 hB) 5 u5
theorem NewAt.mono {B B2 : Nat} {A : Option Addr} (h : NewAt B A) (hB : B2 ≤ B) : NewAt B2 A := fun b off hA => Nat.le_trans hB (h b off hA)

set_option maxRecDepth 100000 in
set_option maxHeartbeats 4000000 in
theorem rDecode_any (v : Int) (s : ByteArray) (hs : s.size ≤ 281474976710656) (w : World) :
    Calls Try.prog 18 #[.int .i64 v, .string s] w (RecPost w (recD v s.data.toList)) := by
  have p1 := version_any v
  have hz0 : RcBlk (w.alloc (.cells #[.string ⟨#[]⟩, .string ⟨#[]⟩, .int .i64 0, .int .i64 0, .string ⟨#[]⟩, .slice none 0 0] 24)) w.heap.size zeroR (.slice none 0 0) := World.alloc_heap_new w _
  have hb0 : Below w.heap.size w (w.alloc (.cells #[.string ⟨#[]⟩, .string ⟨#[]⟩, .int .i64 0, .int .i64 0, .string ⟨#[]⟩, .slice none 0 0] 24)) := (Below.refl _ _).alloc (Nat.le_refl _) _
  have hsz0 : (w.alloc (.cells #[.string ⟨#[]⟩, .string ⟨#[]⟩, .int .i64 0, .int .i64 0, .string ⟨#[]⟩, .slice none 0 0] 24)).heap.size = w.heap.size + 1 := by simp
  have HSZ0 := Lib.hid hsz0; clear hsz0
  cases h1 : verB v with
  | false =>
    rw [h1] at p1
    have HE : Hid (recD v s.data.toList = (zeroR, 1)) := recD_ver (by simpa [verB] using h1)
    clear h1 hb0 hz0
    go_enter Try.func18, Try.ntmps18
    go_wp2_with fail
    ((with_reducible refine (p1 _).mono ?_); rintro e w1 ⟨rfl, rfl⟩)
    go_wp2_with fail
    refine bodyPost_ret (v := .tuple #[.agg #[.string ⟨#[]⟩, .string ⟨#[]⟩, .int .i64 0, .int .i64 0, .string ⟨#[]⟩, .slice none 0 0], .int .i64 1]) (by simp [results, Try.results18, go_sem]) rfl ⟨none, 0, 0, by rw [HE.out]; rfl, Nat.le_refl _, by rw [HE.out]; exact isFs_nil _ _, newAt_none _, ?_⟩
    first | exact (Below.refl _ _).alloc (Nat.le_refl _) _ | exact (((((((Below.refl _ _).alloc (Nat.le_refl _) _).setCell (Nat.le_refl _) _).setCell (Nat.le_refl _) _).setCell (Nat.le_refl _) _).setCell (Nat.le_refl _) _).setCell (Nat.le_refl _) _).setCell (Nat.le_refl _) _
  | true =>
    rw [h1] at p1
    have hv : v = 1 ∨ v = 2 := by simpa [verB] using h1
    clear h1
    have p2 := decode_any s hs
    obtain ⟨D, hD⟩ : ∃ D, decR s.data.toList = D := ⟨_, rfl⟩
    rw [hD] at p2
    obtain ⟨fs, x⟩ := D
    by_cases hx : x = 0
    · subst hx
      have hright := (dec_ok hD).2.2
      have h64 := (rightB_iff.1 hright).1
      have hY : Hid ((findR fs 1).2 = true → recP v fs = true → recD v s.data.toList = (accR v fs, 0)) := fun hf hp => recD_ok hv hD hf hp
      have hN : Hid ((findR fs 1).2 = true → recP v fs = false → recD v s.data.toList = (zeroR, 21)) := fun hf hp => recD_known hv hD hf hp
      have hK : Hid ((findR fs 1).2 = false → recD v s.data.toList = (zeroR, 20)) := fun hf => recD_key hv hD hf
      clear hD hv hright
      generalize recD v s.data.toList = RR at *
      cases hf : (findR fs 1).2 with
      | false =>
        have HE := Lib.hid (hK.out hf)
        clear hY hN hK
        go_enter Try.func18, Try.ntmps18
        go_wp2_with fail
        ((with_reducible refine (p1 _).mono ?_); rintro e w1 ⟨rfl, rfl⟩)
        go_wp2_with fail
        ((with_reducible refine (p2 _).mono ?_); rintro e w2 ⟨A2, n2, cap2, rfl, hc2, hf2, b2⟩)
        have p3 := find_any A2 n2 cap2 fs 1 w2 hf2
        rw [hf] at p3
        have HF2 := Lib.hid hf; clear hf hf2
        have hz2 := hz0.below b2
        have b02 := bch hb0 b2
        clear hz0 hb0 b2
        go_wp2_with fail
        ((with_reducible refine p3.mono ?_); rintro e w3 ⟨rfl, b3⟩)
        have hz3 := hz2.below b3
        have HBW := Lib.hid (bch b02 b3)
        obtain ⟨z0, z1, z2, z3, z4, z5⟩ := hz3.cells
        have f0 := hz3.frozen 0
        have f1 := hz3.frozen 1
        have f2 := hz3.frozen 2
        have f3 := hz3.frozen 3
        have f4 := hz3.frozen 4
        have f5 := hz3.frozen 5
        simp only [zeroR] at z0 z1 z2 z3 z4
        clear hz2 hz3 b02 b3
        go_wp2_with fail
        refine bodyPost_ret (v := .tuple #[.agg #[.string ⟨#[]⟩, .string ⟨#[]⟩, .int .i64 0, .int .i64 0, .string ⟨#[]⟩, .slice none 0 0], .int .i64 20]) (by simp [results, Try.results18, go_sem, z0, z1, z2, z3, z4, z5]) rfl ⟨none, 0, 0, by rw [HE.out]; rfl, Nat.le_refl _, by rw [HE.out]; exact isFs_nil _ _, newAt_none _, ?_⟩
        exact (((((HBW.out.setCell (Nat.le_refl _) _).setCell (Nat.le_refl _) _).setCell (Nat.le_refl _) _).setCell (Nat.le_refl _) _).setCell (Nat.le_refl _) _).setCell (Nat.le_refl _) _
      | true =>
        have hYE := hY.out hf
        have hNE := hN.out hf
        have HYE := Lib.hid hYE
        have HNE := Lib.hid hNE
        clear hY hN hK hYE hNE
        go_enter Try.func18, Try.ntmps18
        go_wp2_with fail
        ((with_reducible refine (p1 _).mono ?_); rintro e w1 ⟨rfl, rfl⟩)
        go_wp2_with fail
        ((with_reducible refine (p2 _).mono ?_); rintro e w2 ⟨A2, n2, cap2, rfl, hc2, hf2, b2⟩)
        have p3 := find_any A2 n2 cap2 fs 1 w2 hf2
        rw [hf] at p3
        have HF2 := Lib.hid hf; clear hf
        have hn2 : n2 ≤ 64 := by have := hf2.1; simp only at this; omega
        have hz2 := hz0.below b2
        have b02 := bch hb0 b2
        have HFS := Lib.hid hf2
        clear hz0 hb0 b2 hf2
        go_wp2_with fail
        ((with_reducible refine p3.mono ?_); rintro e w3 ⟨rfl, b3⟩)
        have hz3 := hz2.below b3
        have b03 := bch b02 b3
        have hw3 := lt_of_blk hz3
        have p4 := recordOf_any v A2 n2 cap2 fs w3 (HFS.out.below b3) hn2
        clear hz2 b02 b3 HFS
        cases hp : recP v fs with
        | false =>
          have HE := Lib.hid (HNE.out hp)
          rw [hp] at p4
          clear hp
          go_wp2_with fail
          ((with_reducible refine p4.mono ?_); rintro e w4 ⟨A4, n4, cap4, rfl, hc4, hf4, hnew, b4⟩)
          have hz4 := hz3.below b4
          have b04 := bch b03 b4
          clear hz3 b03 p4 hf4
          have HB4 := Lib.hid b04
          obtain ⟨z0, z1, z2, z3, z4, z5⟩ := hz4.cells
          have f0 := hz4.frozen 0
          have f1 := hz4.frozen 1
          have f2 := hz4.frozen 2
          have f3 := hz4.frozen 3
          have f4 := hz4.frozen 4
          have f5 := hz4.frozen 5
          have hlt4 := lt_of_blk hz4
          simp only [zeroR] at z0 z1 z2 z3 z4
          clear hz4 b04
          go_wp2_with fail
          refine bodyPost_ret (v := .tuple #[.agg #[.string ⟨#[]⟩, .string ⟨#[]⟩, .int .i64 0, .int .i64 0, .string ⟨#[]⟩, .slice none 0 0], .int .i64 21]) (by simp [results, Try.results18, go_sem, z0, z1, z2, z3, z4, z5, hlt4]) rfl ⟨none, 0, 0, by rw [HE.out]; rfl, Nat.le_refl _, by rw [HE.out]; exact isFs_nil _ _, newAt_none _, ?_⟩
          exact (below_set6 HB4.out _ _ _ _ _ _).alloc (by simp; omega) _
        | true =>
          have HE := Lib.hid (HYE.out hp)
          rw [hp] at p4
          clear hp
          obtain ⟨R, hR⟩ : ∃ R, accR v fs = R := ⟨_, rfl⟩
          rw [hR] at p4 HE
          clear hR
          go_wp2_with fail
          ((with_reducible refine p4.mono ?_); rintro e w4 ⟨A4, n4, cap4, rfl, hc4, hf4, hnew, b4⟩)
          have hf4' : IsFs w4 A4 n4 R.extra := hf4
          have hz4 := hz3.below b4
          have b04 := bch b03 b4
          clear hz3 b03 p4 hf4
          obtain ⟨z0, z1, z2, z3, z4, z5⟩ := hz4.cells
          have f0 := hz4.frozen 0
          have f1 := hz4.frozen 1
          have f2 := hz4.frozen 2
          have f3 := hz4.frozen 3
          have f4 := hz4.frozen 4
          have f5 := hz4.frozen 5
          have hlt4 := lt_of_blk hz4
          simp only [zeroR] at z0 z1 z2 z3 z4
          clear hz4
          go_wp2_with fail
          refine bodyPost_ret (v := .tuple #[rcV R (.slice A4 n4 cap4), .int .i64 0]) (by simp [results, Try.results18, go_sem, z0, z1, z2, z3, z4, z5, hlt4]) rfl ⟨A4, n4, cap4, by rw [HE.out]; rfl, hc4, ?_, hnew.mono (by omega), ?_⟩
          · rw [HE.out]
            exact (isFs_set6 hf4' hnew hw3 _ _ _ _ _ _).below ((Below.refl _ _).alloc (Nat.le_refl _) _)
          · exact (below_set6 b04 _ _ _ _ _ _).alloc (by simp; omega) _
    · have HE := Lib.hid (recD_err hv hD hx)
      have hxx : ((x : Int) != 0) = true := by simp; omega
      clear hD hv hx
      generalize recD v s.data.toList = RR at *
      go_enter Try.func18, Try.ntmps18
      go_wp2_with fail
      ((with_reducible refine (p1 _).mono ?_); rintro e w1 ⟨rfl, rfl⟩)
      go_wp2_with fail
      ((with_reducible refine (p2 _).mono ?_); rintro e w2 ⟨A2, n2, cap2, rfl, hc2, hf2, b2⟩)
      have hz3 := hz0.below b2
      have HBW := Lib.hid (bch hb0 b2)
      obtain ⟨z0, z1, z2, z3, z4, z5⟩ := hz3.cells
      have f0 := hz3.frozen 0
      have f1 := hz3.frozen 1
      have f2 := hz3.frozen 2
      have f3 := hz3.frozen 3
      have f4 := hz3.frozen 4
      have f5 := hz3.frozen 5
      simp only [zeroR] at z0 z1 z2 z3 z4
      clear hz0 hz3 hb0 b2 hf2
      go_wp2_with fail
      refine bodyPost_ret (v := .tuple #[.agg #[.string ⟨#[]⟩, .string ⟨#[]⟩, .int .i64 0, .int .i64 0, .string ⟨#[]⟩, .slice none 0 0], .int .i64 x]) (by simp [results, Try.results18, go_sem, z0, z1, z2, z3, z4, z5]) rfl ⟨none, 0, 0, by rw [HE.out]; rfl, Nat.le_refl _, by rw [HE.out]; exact isFs_nil _ _, newAt_none _, ?_⟩
      exact below_set6 HBW.out _ _ _ _ _ _
end Go.Proofs.Ytkhpkjnnkmoeoaa
