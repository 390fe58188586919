import Derived.Test.YtndkmepdnekigaaCtPd
import Derived.Test.YtndkmepdnekigaaCtIn
/-
  The contracts of the program's own changed, Plan, Commit and Cancel (stage 18).
-/
namespace Go.Proofs.Ytndkmepdnekigaa
open Go.RowKit Go.Lib
set_option linter.unusedVariables false
set_option linter.unusedSimpArgs false

/-- What a place is changed into, and an error. -/
def canR (p : PlR) : PlR × Int := if p.2.2 = 0 then (p, 70) else ((p.1, p.2.1, 0), 0)
def comR (p : PlR) : PlR × Int := if p.2.2 = 0 then (p, 70) else if p.2.1 = 9007199254740992 then (p, 50) else ((p.2.2, p.2.1 + 1, 0), 0)
def plaR (l : List MbR) (t : Int) (p : PlR) : PlR × Int := if ¬ isMem l t then (p, 70) else if p.2.2 ≠ 0 then (p, 92) else if p.1 = t then (p, 1) else if p.2.1 = 9007199254740992 then (p, 50) else ((p.1, p.2.1, t), 0)
def chR (c : CtR) (s : Int) (f : PlR → PlR × Int) : CtR × Int :=
  if placeE c s ≠ 0 then (c, placeE c s) else if (f (atP9 c.pl s.toNat)).2 ≠ 0 then (c, (f (atP9 c.pl s.toNat)).2) else (setPl c s (f (atP9 c.pl s.toNat)).1, 0)
theorem can_ch (c : CtR) (s : Int) : cancelC c s = chR c s canR := by
  unfold cancelC chR canR
  split
  · rfl
  · by_cases h : (atP9 c.pl s.toNat).2.2 = 0 <;> simp [h]
theorem com_ch (c : CtR) (s : Int) : commitC c s = chR c s comR := by
  unfold commitC chR comR
  split
  · rfl
  · by_cases h : (atP9 c.pl s.toNat).2.2 = 0
    · simp [h]
    · by_cases h2 : (atP9 c.pl s.toNat).2.1 = 9007199254740992 <;> simp [h, h2]
theorem pla_ch (c : CtR) (s t : Int) : planC c s t = chR c s (plaR c.mem t) := by
  unfold planC chR plaR
  split
  · rfl
  · by_cases h0 : isMem c.mem t
    · by_cases h : (atP9 c.pl s.toNat).2.2 = 0
      · by_cases h1 : (atP9 c.pl s.toNat).1 = t
        · simp [h, h0, h1]
        · by_cases h2 : (atP9 c.pl s.toNat).2.1 = 9007199254740992 <;> simp [h, h0, h1, h2]
      · simp [h, h0]
    · simp [h0]
theorem set_self9 {l : List PlR} {i : Nat} (h : i < l.length) : l.set i (atP9 l i) = l := by
  refine List.ext_getElem? fun j => ?_
  rw [List.getElem?_set]
  split
  · rename_i e; subst e; exact (atP9_get h).symm
  · rfl
/-- What the change of a place leaves. -/
def ChgP (W : World) (base g m cm : Nat) (l : List PlR) (i : Nat) (r : PlR × Int) (e : Ending) (W' : World) : Prop :=
  e = .returned (.int .i64 r.2) ∧ RowG s3 48 W' base (.slice (some ⟨g, 0, none⟩) m cm) (l.set i r.1) ∧ W.grownBy W' (some g)
def EpW (l : List PlR) : Prop := ∀ p ∈ l, 1 ≤ p.2.1 ∧ p.2.1 ≤ 9007199254740992
/-- A closure that changes a place. -/
def ChgF (w : World) (F : Nat) (cs : Array Value) (f : PlR → PlR × Int) : Prop :=
  ∀ (W : World) (base g m cm : Nat) (l : List PlR) (i : Nat), Below w.heap.size w W → w.heap.size ≤ base → RowG s3 48 W base (.slice (some ⟨g, 0, none⟩) m cm) l → i < l.length → EpW l →
    Calls Try.prog F (#[.pointer (some ⟨g, i * 3, none⟩)] ++ cs) W (ChgP W base g m cm l i (f (atP9 l i)))
theorem chg_same {W : World} {base g m cm : Nat} {l : List PlR} {i : Nat} {z : Int} (h : RowG s3 48 W base (.slice (some ⟨g, 0, none⟩) m cm) l) (hi : i < l.length) : ChgP W base g m cm l i (atP9 l i, z) (.returned (.int .i64 z)) W :=
  ⟨rfl, by rw [set_self9 hi]; exact h, ⟨rfl, rfl, rfl, Nat.le_refl _, fun _ _ _ => rfl⟩⟩
theorem below_gb9 {w w' : World} (h : Below w.heap.size w w') (row : Option Nat) : w.grownBy w' row := ⟨h.os, h.tape, h.output, h.size, fun k hk _ => h.block k hk⟩
theorem rowG_lt {S : Shp PlR} {T : TypeId} {W : World} {base g m cm : Nat} {l : List PlR} (h : RowG S T W base (.slice (some ⟨g, 0, none⟩) m cm) l) : g < W.heap.size := (h.lt g rfl).2
set_option maxRecDepth 100000 in
set_option maxHeartbeats 8000000 in
theorem cancel1_any (W : World) (base g m cm : Nat) (l : List PlR) (i : Nat) (hr : RowG s3 48 W base (.slice (some ⟨g, 0, none⟩) m cm) l) (hi : i < l.length) :
    Calls Try.prog 60 #[.pointer (some ⟨g, i * 3, none⟩)] W (ChgP W base g m cm l i (canR (atP9 l i))) := by
  have hat := atP9_get hi
  have c0 : W.cell? ⟨g, i * 3, none⟩ = some (.int .i64 (atP9 l i).1) := hr.cell (j := 0) hat rfl
  have c1 : W.cell? ⟨g, i * 3 + 1, none⟩ = some (.int .i64 (atP9 l i).2.1) := hr.cell (j := 1) hat rfl
  have c2 : W.cell? ⟨g, i * 3 + 2, none⟩ = some (.int .i64 (atP9 l i).2.2) := hr.cell (j := 2) hat rfl
  have f0 := hr.frozen (i * 3)
  have f1 := hr.frozen (i * 3 + 1)
  have f2 := hr.frozen (i * 3 + 2)
  have hset := fun u => hr.set (i := i) (j := 2) (u := .int .i64 u) (y := ((atP9 l i).1, (atP9 l i).2.1, u)) hat (by decide) rfl
  have HSET := Lib.hid (hset 0); clear hset
  have HR := Lib.hid hr; clear hr
  have HI := Lib.hid hi; clear hi
  have HE : Hid (canR (atP9 l i) = if (atP9 l i).2.2 = 0 then (atP9 l i, 70) else (((atP9 l i).1, (atP9 l i).2.1, 0), 0)) := rfl
  have HS := fun z => Lib.hid (chg_same (z := z) HR.out HI.out)
  generalize canR (atP9 l i) = R at *
  generalize atP9 l i = p at *
  obtain ⟨ow, ep, tz⟩ := p
  simp only at c0 c1 c2 HSET HE
  clear hat
  by_cases h : tz = 0
  · have HQ : Hid (R = ((ow, ep, tz), 70)) := by show _ = _; rw [HE.out, if_pos h]
    have e1 : (tz == 0) = true := by simpa using h
    clear h HE
    go_enter Try.func60, Try.ntmps60
    go_wp2_with fail
    go_ret
    rw [HQ.out]; exact (HS 70).out
  · have HQ : Hid (R = ((ow, ep, 0), 0)) := by show _ = _; rw [HE.out, if_neg h]
    have e1 : (tz == 0) = false := by simpa using h
    clear h HE
    go_enter Try.func60, Try.ntmps60
    go_wp2_with fail
    go_ret
    rw [HQ.out]; exact ⟨rfl, HSET.out.1, HSET.out.2⟩
theorem pl9_cells {V : World} {base g m cm : Nat} {l : List PlR} {i : Nat} (h : RowG s3 48 V base (.slice (some ⟨g, 0, none⟩) m cm) l) (hi : i < l.length) :
    V.cell? ⟨g, i * 3, none⟩ = some (.int .i64 (atP9 l i).1) ∧ V.cell? ⟨g, i * 3 + 1, none⟩ = some (.int .i64 (atP9 l i).2.1) ∧ V.cell? ⟨g, i * 3 + 2, none⟩ = some (.int .i64 (atP9 l i).2.2) :=
  ⟨h.cell (j := 0) (atP9_get hi) rfl, h.cell (j := 1) (atP9_get hi) rfl, h.cell (j := 2) (atP9_get hi) rfl⟩
theorem row3_set {V : World} {base g m cm : Nat} {l : List PlR} {i : Nat} (h : RowG s3 48 V base (.slice (some ⟨g, 0, none⟩) m cm) l) (hi : i < l.length) (a b c : Int) :
    RowG s3 48 (((V.setCell ⟨g, i * 3, none⟩ (.int .i64 a)).setCell ⟨g, i * 3 + 1, none⟩ (.int .i64 b)).setCell ⟨g, i * 3 + 2, none⟩ (.int .i64 c)) base (.slice (some ⟨g, 0, none⟩) m cm) (l.set i (a, b, c)) ∧
      V.grownBy (((V.setCell ⟨g, i * 3, none⟩ (.int .i64 a)).setCell ⟨g, i * 3 + 1, none⟩ (.int .i64 b)).setCell ⟨g, i * 3 + 2, none⟩ (.int .i64 c)) (some g) := by
  obtain ⟨h1, k1⟩ := h.set (i := i) (j := 0) (u := .int .i64 a) (y := (a, (atP9 l i).2.1, (atP9 l i).2.2)) (atP9_get hi) (by decide) rfl
  obtain ⟨h2, k2⟩ := h1.set (i := i) (j := 1) (u := .int .i64 b) (x := (a, (atP9 l i).2.1, (atP9 l i).2.2)) (y := (a, b, (atP9 l i).2.2)) (List.getElem?_set_self hi) (by decide) rfl
  obtain ⟨h3, k3⟩ := h2.set (i := i) (j := 2) (u := .int .i64 c) (x := (a, b, (atP9 l i).2.2)) (y := (a, b, c)) (List.getElem?_set_self (by rw [List.length_set]; exact hi)) (by decide) rfl
  rw [List.set_set, List.set_set] at h3
  exact ⟨h3, (k1.trans k2).trans k3⟩
set_option maxRecDepth 100000 in
set_option maxHeartbeats 8000000 in
theorem commit1_any (W : World) (base g m cm : Nat) (l : List PlR) (i : Nat) (hr : RowG s3 48 W base (.slice (some ⟨g, 0, none⟩) m cm) l) (hi : i < l.length) (hpw : EpW l) :
    Calls Try.prog 59 #[.pointer (some ⟨g, i * 3, none⟩)] W (ChgP W base g m cm l i (comR (atP9 l i))) := by
  have hat := atP9_get hi
  have c0 : W.cell? ⟨g, i * 3, none⟩ = some (.int .i64 (atP9 l i).1) := hr.cell (j := 0) hat rfl
  have c1 : W.cell? ⟨g, i * 3 + 1, none⟩ = some (.int .i64 (atP9 l i).2.1) := hr.cell (j := 1) hat rfl
  have c2 : W.cell? ⟨g, i * 3 + 2, none⟩ = some (.int .i64 (atP9 l i).2.2) := hr.cell (j := 2) hat rfl
  have f0 := hr.frozen (i * 3)
  have f1 := hr.frozen (i * 3 + 1)
  have f2 := hr.frozen (i * 3 + 2)
  have hwf := hpw _ (atP9_mem hi)
  have HR := Lib.hid hr; clear hr
  have HI := Lib.hid hi; clear hi
  have HE : Hid (comR (atP9 l i) = if (atP9 l i).2.2 = 0 then (atP9 l i, 70) else if (atP9 l i).2.1 = 9007199254740992 then (atP9 l i, 50) else (((atP9 l i).2.2, (atP9 l i).2.1 + 1, 0), 0)) := rfl
  have HS := fun z => Lib.hid (chg_same (z := z) HR.out HI.out)
  clear hat hpw
  generalize comR (atP9 l i) = R at *
  obtain ⟨p, hp⟩ : ∃ p, atP9 l i = p := ⟨_, rfl⟩
  have HP := Lib.hid hp
  rw [hp] at c0 c1 c2 HE HS hwf
  clear hp
  obtain ⟨ow, ep, tz⟩ := p
  simp only at c0 c1 c2 HE hwf
  have HWF := Lib.hid hwf; clear hwf
  by_cases h : tz = 0
  · have HQ : Hid (R = ((ow, ep, tz), 70)) := by show _ = _; rw [HE.out, if_pos h]
    have e1 : (tz == 0) = true := by simpa using h
    clear h HE
    go_enter Try.func59, Try.ntmps59
    go_wp2_with fail
    go_ret
    rw [HQ.out]; exact (HS 70).out
  have e1 : (tz == 0) = false := by simpa using h
  by_cases h2 : ep = 9007199254740992
  · have HQ : Hid (R = ((ow, ep, tz), 50)) := by show _ = _; rw [HE.out, if_neg h, if_pos h2]
    have e2 : (ep == 9007199254740992) = true := by simpa using h2
    clear h h2 HE
    go_enter Try.func59, Try.ntmps59
    go_wp2_with fail
    go_ret
    rw [HQ.out]; exact (HS 50).out
  have HQ : Hid (R = ((tz, ep + 1, 0), 0)) := by show _ = _; rw [HE.out, if_neg h, if_neg h2]
  have e2 : (ep == 9007199254740992) = false := by simpa using h2
  have hw1 : IntKind.i64.wrap (ep + 1) = ep + 1 := IntWalk.i64_in _ (by have := HWF.out; omega)
  clear h h2 HE
  go_enter Try.func59, Try.ntmps59
  go_upto_region 5 with fail
  refine wp_region_noPanic ?_
  refine wp_region_till (S := (fun V => Below W.heap.size W V)) [12] (by kernel_rfl) ((Below.refl _ _).drew) (fun hHeld => ?_)
  refine wpTill_take (i := 0) (v := ?_) rfl (by kernel_rfl) (by kernel_rfl) (by kernel_rfl) (by kernel_rfl) (fun _ _ _ h => h) (Or.inl ⟨by rfl, ?_⟩) (by assumption) ?_
  rotate_left
  · (intro w hSw; (try dsimp only at hSw); go_simp; (try with_reducible rfl))
  simp only [Act.put, List.getElem_toArray, List.getElem_cons_zero, List.setIfInBounds_toArray, List.set_cons_zero, List.set_cons_succ]
  refine wpTill_take (i := 1) (v := ?_) rfl (by kernel_rfl) (by kernel_rfl) (by kernel_rfl) (by kernel_rfl) (fun _ _ _ h => h) (Or.inl ⟨by rfl, ?_⟩) (by assumption) ?_
  rotate_left
  · (intro w hSw; (try dsimp only at hSw); go_simp; (try with_reducible rfl))
  simp only [Act.put, List.getElem_toArray, List.getElem_cons_zero, List.getElem_cons_succ, List.setIfInBounds_toArray, List.set_cons_zero, List.set_cons_succ]
  refine wpTill_take (i := 2) (v := ?_) rfl (by kernel_rfl) (by kernel_rfl) (by kernel_rfl) (by kernel_rfl) (fun _ _ _ h => h) (Or.inl ⟨by rfl, ?_⟩) (by assumption) ?_
  rotate_left
  · (intro w hSw; (try dsimp only at hSw); go_simp; (try with_reducible rfl))
  simp only [Act.put, List.getElem_toArray, List.getElem_cons_zero, List.getElem_cons_succ, List.setIfInBounds_toArray, List.set_cons_zero, List.set_cons_succ]
  refine wpTill_take (i := 3) (v := ?_) rfl (by kernel_rfl) (by kernel_rfl) (by kernel_rfl) (by kernel_rfl) (fun _ _ _ h => h) (Or.inl ⟨by rfl, ?_⟩) (by assumption) ?_
  rotate_left
  · (intro w hSw; (try dsimp only at hSw); go_simp; (try with_reducible rfl))
  simp only [Act.put, List.getElem_toArray, List.getElem_cons_zero, List.getElem_cons_succ, List.setIfInBounds_toArray, List.set_cons_zero, List.set_cons_succ]
  refine wpTill_take (i := 4) (v := ?_) rfl (by kernel_rfl) (by kernel_rfl) (by kernel_rfl) (by kernel_rfl) (fun _ _ _ h => h) (Or.inl ⟨by rfl, ?_⟩) (by assumption) ?_
  rotate_left
  · (intro w hSw; (try dsimp only at hSw); obtain ⟨c0, c1, c2⟩ := pl9_cells (RowG.below HR.out hSw) HI.out; rw [HP.out] at c0 c1 c2; go_simp; (try with_reducible rfl))
  simp only [Act.put, List.getElem_toArray, List.getElem_cons_zero, List.getElem_cons_succ, List.setIfInBounds_toArray, List.set_cons_zero, List.set_cons_succ]
  refine wpTill_take (i := 5) (v := ?_) rfl (by kernel_rfl) (by kernel_rfl) (by kernel_rfl) (by kernel_rfl) (fun _ _ _ h => h) (Or.inl ⟨by rfl, ?_⟩) (by assumption) ?_
  rotate_left
  · (intro w hSw; (try dsimp only at hSw); go_simp; (try with_reducible rfl))
  simp only [Act.put, List.getElem_toArray, List.getElem_cons_zero, List.getElem_cons_succ, List.setIfInBounds_toArray, List.set_cons_zero, List.set_cons_succ]
  refine wpTill_take (i := 6) (v := ?_) rfl (by kernel_rfl) (by kernel_rfl) (by kernel_rfl) (by kernel_rfl) (fun _ _ _ h => h) (Or.inl ⟨by rfl, ?_⟩) (by assumption) ?_
  rotate_left
  · (intro w hSw; (try dsimp only at hSw); go_simp; (try with_reducible rfl))
  simp only [Act.put, List.getElem_toArray, List.getElem_cons_zero, List.getElem_cons_succ, List.setIfInBounds_toArray, List.set_cons_zero, List.set_cons_succ]
  refine wpTill_take (i := 7) (v := ?_) rfl (by kernel_rfl) (by kernel_rfl) (by kernel_rfl) (by kernel_rfl) (fun _ _ _ h => h) (Or.inl ⟨by rfl, ?_⟩) (by assumption) ?_
  rotate_left
  · (intro w hSw; (try dsimp only at hSw); go_simp; (try with_reducible rfl))
  simp only [Act.put, List.getElem_toArray, List.getElem_cons_zero, List.getElem_cons_succ, List.setIfInBounds_toArray, List.set_cons_zero, List.set_cons_succ]
  refine wpTill_take (i := 8) (v := ?_) rfl (by kernel_rfl) (by kernel_rfl) (by kernel_rfl) (by kernel_rfl) (fun _ _ _ h => h) (Or.inl ⟨by rfl, ?_⟩) (by assumption) ?_
  rotate_left
  · (intro w hSw; (try dsimp only at hSw); obtain ⟨c0, c1, c2⟩ := pl9_cells (RowG.below HR.out hSw) HI.out; rw [HP.out] at c0 c1 c2; go_simp; (try with_reducible rfl))
  simp only [Act.put, List.getElem_toArray, List.getElem_cons_zero, List.getElem_cons_succ, List.setIfInBounds_toArray, List.set_cons_zero, List.set_cons_succ]
  refine wpTill_take (i := 9) (v := ?_) rfl (by kernel_rfl) (by kernel_rfl) (by kernel_rfl) (by kernel_rfl) (fun _ _ _ h => h) (Or.inl ⟨by rfl, ?_⟩) (by assumption) ?_
  rotate_left
  · (intro w hSw; (try dsimp only at hSw); go_simp; (try with_reducible rfl))
  simp only [Act.put, List.getElem_toArray, List.getElem_cons_zero, List.getElem_cons_succ, List.setIfInBounds_toArray, List.set_cons_zero, List.set_cons_succ]
  refine wpTill_take (i := 10) (v := ?_) rfl (by kernel_rfl) (by kernel_rfl) (by kernel_rfl) (by kernel_rfl) (fun _ _ _ h => h) (Or.inl ⟨by rfl, ?_⟩) (by assumption) ?_
  rotate_left
  · (intro w hSw; (try dsimp only at hSw); go_simp; (try with_reducible rfl))
  simp only [Act.put, List.getElem_toArray, List.getElem_cons_zero, List.getElem_cons_succ, List.setIfInBounds_toArray, List.set_cons_zero, List.set_cons_succ]
  refine wpTill_take (i := 11) (v := ?_) rfl (by kernel_rfl) (by kernel_rfl) (by kernel_rfl) (by kernel_rfl) (fun _ _ _ h => h) (Or.inl ⟨by rfl, ?_⟩) (by assumption) ?_
  rotate_left
  · (intro w hSw; (try dsimp only at hSw); go_simp; (try with_reducible rfl))
  simp only [Act.put, List.getElem_toArray, List.getElem_cons_zero, List.getElem_cons_succ, List.setIfInBounds_toArray, List.set_cons_zero, List.set_cons_succ]
  have HRV := Lib.hid (RowG.below HR.out hHeld)
  obtain ⟨c0, c1, c2⟩ := pl9_cells HRV.out HI.out
  rw [HP.out] at c0 c1 c2
  have f0 := HRV.out.frozen (i * 3)
  have f1 := HRV.out.frozen (i * 3 + 1)
  have f2 := HRV.out.frozen (i * 3 + 2)
  have HS := Lib.hid hHeld
  refine wpTill_ready (rs := [12]) (by kernel_rfl) (by simp) ?_
  refine AllReadyT.last rfl (by kernel_rfl) (fun K hK => ?_) AllReadyT.nil
  rw [if_pos (by rfl)]
  go_simp
  refine hK.out _ _ (trivial) (fun hHeld2 => ?_)
  clear hK K hHeld
  have hHeld := hHeld2; clear hHeld2
  refine wpTill_done (by kernel_rfl) ?_ _
  refine NoPanic.normal ?_
  skip
  have HROW := Lib.hid (row3_set HRV.out HI.out tz (ep + 1) 0)
  go_wp2_with fail
  go_ret
  rw [HQ.out]
  exact ⟨rfl, HROW.out.1, (below_gb9 HS.out _).trans HROW.out.2⟩
set_option maxRecDepth 100000 in
set_option maxHeartbeats 8000000 in
theorem plan1_any (W : World) (base g m cm : Nat) (l : List PlR) (i : Nat) (ml : List MbR) (t : Int) (c : CtR) (A B : Option Addr) (n cap m2 cm2 gc gt : Nat) (hr : RowG s3 48 W base (.slice (some ⟨g, 0, none⟩) m cm) l) (hi : i < l.length) (hg : Blk W gc (ctB c A n cap B m2 cm2)) (ht : Blk W gt (.cells #[.int .i64 t] 3)) (hm : IsG s2 W A n c.mem) (hri : RiseM c.mem) (h8 : n ≤ 8) :
    Calls Try.prog 57 #[.pointer (some ⟨g, i * 3, none⟩), .pointer (some ⟨gc, 0, none⟩), .pointer (some ⟨gt, 0, none⟩)] W (ChgP W base g m cm l i (plaR c.mem t (atP9 l i))) := by
  have g1 := Blk.cell hg 1
  have t0 := Blk.cell ht 0
  simp only [List.getElem?_toArray, List.getElem?_cons_zero, List.getElem?_cons_succ] at g1 t0
  have q := find9_any A n cap c.mem t W hm hri h8
  have HT := Lib.hid ht; clear ht
  have HR := Lib.hid hr; clear hr
  have HI := Lib.hid hi; clear hi
  have HRI := Lib.hid hri; clear hri
  have HEE := fun p => Lib.hid (show plaR c.mem t p = if ¬ isMem c.mem t then (p, 70) else if p.2.2 ≠ 0 then (p, 92) else if p.1 = t then (p, 1) else if p.2.1 = 9007199254740992 then (p, 50) else ((p.1, p.2.1, t), 0) from rfl)
  clear hg hm
  go_enter Try.func57, Try.ntmps57
  go_wp2_with fail
  ((with_reducible refine (q).mono ?_); rintro e V ⟨⟨j, th, hp, rfl⟩, b1⟩)
  have HMEM : Hid (th = decide (isMem c.mem t)) := placeM_mem HRI.out hp
  have HRV := Lib.hid (RowG.below HR.out b1)
  have HB := Lib.hid b1
  obtain ⟨c0, c1, c2⟩ := pl9_cells HRV.out HI.out
  have t1 := Blk.cell (Blk.below HT.out b1) 0
  simp only [List.getElem?_toArray, List.getElem?_cons_zero, List.getElem?_cons_succ] at t1
  have HTV := Lib.hid (Blk.below HT.out b1)
  clear q g1 t0 hp HT b1
  have HS := fun z (V2 : World) (b2 : Below W.heap.size W V2) => Lib.hid (show ChgP W base g m cm l i (atP9 l i, z) (.returned (.int .i64 z)) V2 from ⟨rfl, by rw [set_self9 HI.out]; exact RowG.below HR.out b2, below_gb9 b2 _⟩)
  have HE := HEE (atP9 l i)
  clear HEE
  generalize plaR c.mem t (atP9 l i) = R at *
  obtain ⟨p, hp⟩ : ∃ p, atP9 l i = p := ⟨_, rfl⟩
  have HP := Lib.hid hp
  rw [hp] at c0 c1 c2 HE HS
  clear hp
  obtain ⟨ow, ep, tz⟩ := p
  simp only at c0 c1 c2 HE
  cases th with
  | false =>
    have HQ : Hid (R = ((ow, ep, tz), 70)) := by show _ = _; rw [HE.out, if_pos (of_decide_eq_false HMEM.out.symm)]
    go_wp2_with fail
    go_ret
    rw [HQ.out]; exact (HS 70 _ HB.out).out
  | true =>
    have HE2 : Hid (R = if tz ≠ 0 then ((ow, ep, tz), 92) else if ow = t then ((ow, ep, tz), 1) else if ep = 9007199254740992 then ((ow, ep, tz), 50) else ((ow, ep, t), 0)) := by show _ = _; rw [HE.out, if_neg (fun e => e (of_decide_eq_true HMEM.out.symm))]
    clear HE HMEM
    by_cases h : tz = 0
    rotate_left
    · have HQ : Hid (R = ((ow, ep, tz), 92)) := by show _ = _; rw [HE2.out, if_pos h]
      have e1 : (tz != 0) = true := by simpa using h
      clear h HE2
      go_wp2_with fail
      go_ret
      rw [HQ.out]; exact (HS 92 _ HB.out).out
    have e1 : (tz != 0) = false := by simpa using h
    by_cases h2 : ow = t
    · have HQ : Hid (R = ((ow, ep, tz), 1)) := by show _ = _; rw [HE2.out, if_neg (fun e => e h), if_pos h2]
      have e2 : (t == ow) = true := by simpa using h2.symm
      clear h h2 HE2
      go_upto_region 6 with fail
      go_quiet (fail)
      go_wp2_with fail
      go_ret
      rw [HQ.out]; exact (HS 1 _ (bdn HB.out _)).out
    have e2 : (t == ow) = false := by simpa using fun e => h2 (Eq.symm e)
    by_cases h3 : ep = 9007199254740992
    · have HQ : Hid (R = ((ow, ep, tz), 50)) := by show _ = _; rw [HE2.out, if_neg (fun e => e h), if_neg h2, if_pos h3]
      have e3 : (ep == 9007199254740992) = true := by simpa using h3
      clear h h2 h3 HE2
      go_upto_region 6 with fail
      go_quiet (fail)
      go_wp2_with fail
      go_ret
      rw [HQ.out]; exact (HS 50 _ (bdn HB.out _)).out
    have HQ : Hid (R = ((ow, ep, t), 0)) := by show _ = _; rw [HE2.out, if_neg (fun e => e h), if_neg h2, if_neg h3]
    have e3 : (ep == 9007199254740992) = false := by simpa using h3
    clear h h2 h3 HE2 HS
    go_upto_region 6 with fail
    go_quiet (fail)
    have hb3 := bdn HB.out nq
    have hb4 := bdn (Below.refl V.heap.size V) nq
    obtain ⟨V2, hV2⟩ : ∃ X, V.drewN nq = X := ⟨_, rfl⟩
    rw [hV2] at hb3 hb4 ⊢
    clear hV2 c0 c1 c2 t1
    have HR2 := Lib.hid (RowG.below HRV.out hb4)
    have HB3 := Lib.hid hb3
    obtain ⟨c0, c1, c2⟩ := pl9_cells HR2.out HI.out
    rw [HP.out] at c0 c1 c2
    have t1 := Blk.cell (Blk.below HTV.out hb4) 0
    simp only [List.getElem?_toArray, List.getElem?_cons_zero, List.getElem?_cons_succ] at t1
    have f2 := HR2.out.frozen (i * 3 + 2)
    have HSET := Lib.hid (HR2.out.set (i := i) (j := 2) (u := .int .i64 t) (y := (ow, ep, t)) (atP9_get HI.out) (by decide) (by rw [HP.out]; rfl))
    clear hb3 hb4 HRV HTV
    go_wp2_with fail
    go_ret
    rw [HQ.out]; exact ⟨rfl, HSET.out.1, (below_gb9 HB3.out _).trans HSET.out.2⟩
set_option maxRecDepth 100000 in
set_option maxHeartbeats 8000000 in
theorem changed9_any (c : CtR) (A B : Option Addr) (n cap m cm : Nat) (s : Int) (K : Nat) (cs : Array Value) (f : PlR → PlR × Int) (w : World) (harg : CtArg w c A n cap B m cm) (hws : (Lit.int .i64 s).wf = true)
    (cf : ∀ args w, (callFunc K args).run Try.prog w = .ok (.enter K args) w) (hf : RightC c → ChgF w K cs f) :
    Calls Try.prog 56 #[ctV c A n cap B m cm, .int .i64 s, .func (.func K) #[] cs] w (CtPost w c (chR c s f)) := by
  have HF := Lib.hid hf; clear hf
  have h := harg.1
  have HX := Blk.below (Blk.new w (ctB c A n cap B m cm)) (ba9 (w.alloc (ctB c A n cap B m cm)) (.cells #[.int .i64 0, .slice none 0 0, .slice none 0 0] 26))
  have HZ := Blk.new (w.alloc (ctB c A n cap B m cm)) (.cells #[.int .i64 0, .slice none 0 0, .slice none 0 0] 26)
  rw [World.size_alloc] at HZ
  have HB := (ba9 w (ctB c A n cap B m cm)).alloc (ba9 w (ctB c A n cap B m cm)).size (.cells #[.int .i64 0, .slice none 0 0, .slice none 0 0] 26)
  have HI : IsG s2 _ A n c.mem ∧ IsG s3 _ B m c.pl := h.below HB
  have HAP : ApartN (w.heap.size + 1) A n ∧ ApartN (w.heap.size + 1) B m := ⟨h.1.apart (Nat.le_succ _), h.2.apart (Nat.le_succ _)⟩
  obtain ⟨W, hW⟩ : ∃ W, (w.alloc (ctB c A n cap B m cm)).alloc (.cells #[.int .i64 0, .slice none 0 0, .slice none 0 0] 26) = W := ⟨_, rfl⟩
  rw [hW] at HX HZ HB HI
  have HXX := Lib.hid HX; clear HX
  have HZZ := Lib.hid HZ; clear HZ
  have HBB := Lib.hid HB; clear HB
  have HII := Lib.hid HI; clear HI
  have HAPP := Lib.hid HAP; clear HAP
  have HC : Hid (n ≤ cap ∧ m ≤ cm) := ⟨harg.2.2.1, harg.2.2.2.1⟩
  have HARG := Lib.hid harg.2; clear harg
  have HNM : Hid (n = c.mem.length ∧ m = c.pl.length) := ⟨h.1.1, h.2.1⟩
  have hnm := h.1.2.1
  have hmm := h.2.2.1
  unfold maxLen at hnm hmm
  clear h
  have qr := fun V (hb : Below W.heap.size W V) => rightC9_any c A B n cap m cm V ⟨IsCt.below HII.out hb, HARG.out⟩
  have z0 := Blk.cell HXX.out 0
  have z1 := Blk.cell HXX.out 1
  have z2 := Blk.cell HXX.out 2
  simp only [List.getElem?_toArray, List.getElem?_cons_zero, List.getElem?_cons_succ] at z0 z1 z2
  go_enter Try.func56, Try.ntmps56
  go_upto_region 1 with fail
  try rw [hW]
  clear hW
  have HNO : Hid (rightC c = false → chR c s f = (c, 1)) := fun h => by
    unfold rightC at h
    have h := of_decide_eq_false h
    unfold chR placeE
    rw [if_pos h]; simp
  have HSH : Hid (rightC c = true → wi9 s 0 ((m : Int) - 1) = false → chR c s f = (c, 83)) := fun h h2 => by
    unfold rightC at h
    have h := of_decide_eq_true h
    have h2 := of_decide_eq_false h2
    have h3 := HNM.out.2
    have hp : placeE c s = 83 := by unfold placeE; rw [if_neg (fun e => e h), if_pos (by omega)]
    unfold chR
    rw [hp]; simp
  have HGO : Hid (rightC c = true → wi9 s 0 ((m : Int) - 1) = true → RightC c ∧ ∃ i : Nat, s = i ∧ i < c.pl.length ∧ chR c s f = if (f (atP9 c.pl i)).2 ≠ 0 then (c, (f (atP9 c.pl i)).2) else (⟨c.level, c.mem, c.pl.set i (f (atP9 c.pl i)).1⟩, 0)) := fun h h2 => by
    unfold rightC at h
    have h := of_decide_eq_true h
    have h2 := of_decide_eq_true h2
    have h3 := HNM.out.2
    refine ⟨h, s.toNat, by omega, by omega, ?_⟩
    unfold chR
    rw [if_neg (by unfold placeE; rw [if_neg (fun e => e h), if_neg (by omega)]; simp)]
    unfold setPl; rfl
  have qw := fun V => within9_any s 0 ((m : Int) - 1) V
  have q := qr W (Below.refl _ _)
  clear qr
  go_wp2_with fail
  ((with_reducible refine (q).mono ?_); rintro e V ⟨rfl, b1⟩)
  clear q z0 z1 z2
  cases hr : rightC c with
  | false =>
    have HE := Lib.hid (HNO.out hr)
    have HB := Lib.hid (bch HBB.out b1)
    have HZ := Lib.hid (Blk.below HZZ.out b1)
    have HI : Hid (IsG s2 V A n c.mem ∧ IsG s3 V B m c.pl) := ⟨HII.out.1.below b1, HII.out.2.below b1⟩
    have HAP := HAPP
    have hx_ := Blk.below HXX.out b1
    have z0 := Blk.cell hx_ 0
    have z1 := Blk.cell hx_ 1
    have z2 := Blk.cell hx_ 2
    simp only [List.getElem?_toArray, List.getElem?_cons_zero, List.getElem?_cons_succ] at z0 z1 z2
    clear hx_
    have x0 := Blk.cell HZ.out 0
    have x1 := Blk.cell HZ.out 1
    have x2 := Blk.cell HZ.out 2
    simp only [List.getElem?_toArray, List.getElem?_cons_zero, List.getElem?_cons_succ] at x0 x1 x2
    have f0 := Blk.frozen HZ.out 0
    have f1 := Blk.frozen HZ.out 1
    have f2 := Blk.frozen HZ.out 2
    have hz3 := Blk.set (Blk.set (Blk.set HZ.out 0 (.int .i64 c.level) #[.int .i64 c.level, .slice none 0 0, .slice none 0 0] rfl) 1 (.slice A n cap) #[.int .i64 c.level, .slice A n cap, .slice none 0 0] rfl) 2 (.slice B m cm) #[.int .i64 c.level, .slice A n cap, .slice B m cm] rfl
    have hb3 := ((HB.out.setCell (p := ⟨w.heap.size + 1, 0, none⟩) (Nat.le_succ _) (.int .i64 c.level)).setCell (p := ⟨w.heap.size + 1, 1, none⟩) (Nat.le_succ _) (.slice A n cap)).setCell (p := ⟨w.heap.size + 1, 2, none⟩) (Nat.le_succ _) (.slice B m cm)
    have hi3 := ((HI.out.1.far (j := 0) (u := .int .i64 c.level) HAP.out.1).far (j := 1) (u := .slice A n cap) HAP.out.1).far (j := 2) (u := .slice B m cm) HAP.out.1
    have hj3 := ((HI.out.2.far (j := 0) (u := .int .i64 c.level) HAP.out.2).far (j := 1) (u := .slice A n cap) HAP.out.2).far (j := 2) (u := .slice B m cm) HAP.out.2
    have HZ3 := Lib.hid hz3; clear hz3
    have HB3 := Lib.hid hb3; clear hb3
    have HI3 := Lib.hid hi3; clear hi3
    have HJ3 := Lib.hid hj3; clear hj3
    clear HZ HB HI HAP
    go_wp2_with fail
    have e0 := Blk.cell HZ3.out 0
    have e1 := Blk.cell HZ3.out 1
    have e2 := Blk.cell HZ3.out 2
    simp only [List.getElem?_toArray, List.getElem?_cons_zero, List.getElem?_cons_succ] at e0 e1 e2
    refine bodyPost_ret (v := .tuple #[.agg #[.int .i64 c.level, .slice A n cap, .slice B m cm], .int .i64 1]) (by simp [results, Try.results56, go_sem, e0, e1, e2]) rfl ?_
    rw [HE.out]
    exact ⟨_, _, _, _, _, _, rfl, HC.out.1, HC.out.2, ⟨HI3.out, HJ3.out⟩, HB3.out⟩
  | true =>
    have hwr : IntKind.i64.wrap ((m : Int) - 1) = (m : Int) - 1 := IntWalk.i64_in _ (by omega)
    have hx_ := Blk.below HXX.out b1
    have z0 := Blk.cell hx_ 0
    have z1 := Blk.cell hx_ 1
    have z2 := Blk.cell hx_ 2
    simp only [List.getElem?_toArray, List.getElem?_cons_zero, List.getElem?_cons_succ] at z0 z1 z2
    clear hx_
    cases hv : wi9 s 0 ((m : Int) - 1) with
    | false =>
      rw [hv] at qw
      have HE := Lib.hid (HSH.out hr hv)
      go_wp2_with fail
      ((with_reducible refine (qw _).mono ?_); rintro e V2 ⟨rfl, rfl⟩)
      clear z0 z1 z2 qw
      have HB := Lib.hid (bch HBB.out b1)
      have HZ := Lib.hid (Blk.below HZZ.out b1)
      have HI : Hid (IsG s2 V A n c.mem ∧ IsG s3 V B m c.pl) := ⟨HII.out.1.below b1, HII.out.2.below b1⟩
      have HAP := HAPP
      have hx_ := Blk.below HXX.out b1
      have z0 := Blk.cell hx_ 0
      have z1 := Blk.cell hx_ 1
      have z2 := Blk.cell hx_ 2
      simp only [List.getElem?_toArray, List.getElem?_cons_zero, List.getElem?_cons_succ] at z0 z1 z2
      clear hx_
      have x0 := Blk.cell HZ.out 0
      have x1 := Blk.cell HZ.out 1
      have x2 := Blk.cell HZ.out 2
      simp only [List.getElem?_toArray, List.getElem?_cons_zero, List.getElem?_cons_succ] at x0 x1 x2
      have f0 := Blk.frozen HZ.out 0
      have f1 := Blk.frozen HZ.out 1
      have f2 := Blk.frozen HZ.out 2
      have hz3 := Blk.set (Blk.set (Blk.set HZ.out 0 (.int .i64 c.level) #[.int .i64 c.level, .slice none 0 0, .slice none 0 0] rfl) 1 (.slice A n cap) #[.int .i64 c.level, .slice A n cap, .slice none 0 0] rfl) 2 (.slice B m cm) #[.int .i64 c.level, .slice A n cap, .slice B m cm] rfl
      have hb3 := ((HB.out.setCell (p := ⟨w.heap.size + 1, 0, none⟩) (Nat.le_succ _) (.int .i64 c.level)).setCell (p := ⟨w.heap.size + 1, 1, none⟩) (Nat.le_succ _) (.slice A n cap)).setCell (p := ⟨w.heap.size + 1, 2, none⟩) (Nat.le_succ _) (.slice B m cm)
      have hi3 := ((HI.out.1.far (j := 0) (u := .int .i64 c.level) HAP.out.1).far (j := 1) (u := .slice A n cap) HAP.out.1).far (j := 2) (u := .slice B m cm) HAP.out.1
      have hj3 := ((HI.out.2.far (j := 0) (u := .int .i64 c.level) HAP.out.2).far (j := 1) (u := .slice A n cap) HAP.out.2).far (j := 2) (u := .slice B m cm) HAP.out.2
      have HZ3 := Lib.hid hz3; clear hz3
      have HB3 := Lib.hid hb3; clear hb3
      have HI3 := Lib.hid hi3; clear hi3
      have HJ3 := Lib.hid hj3; clear hj3
      clear HZ HB HI HAP
      go_wp2_with fail
      have e0 := Blk.cell HZ3.out 0
      have e1 := Blk.cell HZ3.out 1
      have e2 := Blk.cell HZ3.out 2
      simp only [List.getElem?_toArray, List.getElem?_cons_zero, List.getElem?_cons_succ] at e0 e1 e2
      refine bodyPost_ret (v := .tuple #[.agg #[.int .i64 c.level, .slice A n cap, .slice B m cm], .int .i64 83]) (by simp [results, Try.results56, go_sem, e0, e1, e2]) rfl ?_
      rw [HE.out]
      exact ⟨_, _, _, _, _, _, rfl, HC.out.1, HC.out.2, ⟨HI3.out, HJ3.out⟩, HB3.out⟩
    | true =>
      rw [hv] at qw
      obtain ⟨hrc, i, rfl, hil, hgo⟩ := HGO.out hr hv
      have hf := HF.out hrc
      have HRC := Lib.hid hrc
      have HGO2 := Lib.hid hgo
      have HIL := Lib.hid hil
      clear hr hv hrc hgo HGO HNO HSH hil
      go_wp2_with fail
      ((with_reducible refine (qw _).mono ?_); rintro e V2 ⟨rfl, rfl⟩)
      clear qw
      have qo := owned9_any c A B n cap m cm V (IsCt.below HII.out b1) HARG.out.2.2.2.1 HARG.out.2.2.2.2
      have HWV : Hid (W.heap.size ≤ V.heap.size) := b1.size
      have HG_ : Hid (w.heap.size < V.heap.size) := Nat.lt_of_lt_of_le (Blk.lt HXX.out) b1.size
      have HG2_ : Hid (w.heap.size + 1 < V.heap.size) := Nat.lt_of_lt_of_le (Blk.lt HZZ.out) b1.size
      go_wp2_with fail
      ((with_reducible refine qo.mono ?_); rintro e X1 ⟨Am, capm, Bp, capp, rfl, hrm, hrp, hne, b9⟩)
      clear qo z0 z1 z2
      obtain ⟨gp, cp, hv, hge, hlt, hcp⟩ := hrp.own (by have := HIL.out; omega)
      obtain ⟨rfl, _, rfl⟩ := slice_eqG hv
      clear hv
      have b19 := bch b1 b9
      go_upto_region 6 with fail
      have hx2 := Blk.below (Blk.below HXX.out b19) (ba9 X1 (ctB c Am c.mem.length capm (some ⟨gp, 0, none⟩) c.pl.length capp))
      have hz2 := Blk.below (Blk.below HZZ.out b19) (ba9 X1 (ctB c Am c.mem.length capm (some ⟨gp, 0, none⟩) c.pl.length capp))
      have ha2 := Blk.new X1 (ctB c Am c.mem.length capm (some ⟨gp, 0, none⟩) c.pl.length capp)
      have hb2 := (bch HBB.out b19).alloc (bch HBB.out b19).size (ctB c Am c.mem.length capm (some ⟨gp, 0, none⟩) c.pl.length capp)
      have hi2 := (IsCt.below HII.out b19).below (ba9 X1 (ctB c Am c.mem.length capm (some ⟨gp, 0, none⟩) c.pl.length capp))
      have hp2 := hrm.below (ba9 X1 (ctB c Am c.mem.length capm (some ⟨gp, 0, none⟩) c.pl.length capp))
      have hq2 := hrp.below (ba9 X1 (ctB c Am c.mem.length capm (some ⟨gp, 0, none⟩) c.pl.length capp))
      obtain ⟨X2, hX2⟩ : ∃ X, X1.alloc (ctB c Am c.mem.length capm (some ⟨gp, 0, none⟩) c.pl.length capp) = X := ⟨_, rfl⟩
      rw [hX2] at hx2 hz2 ha2 hb2 hi2 hp2 hq2
      try rw [hX2]
      clear hX2 hrm hrp b9 b19 b1
      have HX2 := Lib.hid hx2; clear hx2
      have HZ2 := Lib.hid hz2; clear hz2
      have HA2 := Lib.hid ha2; clear ha2
      have HB2 := Lib.hid hb2; clear hb2
      have HI2 := Lib.hid hi2; clear hi2
      have HP2 := Lib.hid hp2; clear hp2
      have HQ2 := Lib.hid hq2; clear hq2
      have HNE := Lib.hid hne; clear hne
      have HLT := Lib.hid hlt; clear hlt
      have HGE := Lib.hid hge; clear hge
      have qc := hf X2 _ gp c.pl.length capp c.pl i HB2.out (by have := HG_.out; omega) HQ2.out HIL.out (fun p hp => ⟨(HRC.out.2.2.2.2 p hp).2.1, (HRC.out.2.2.2.2 p hp).2.2.1⟩)
      clear hf
      have y2 := Blk.cell HA2.out 2
      simp only [List.getElem?_toArray, List.getElem?_cons_zero, List.getElem?_cons_succ] at y2
      have hi0 : (0 : Int) ≤ (i : Int) := by omega
      have hin : (i : Int) < (c.pl.length : Int) := by have := HIL.out; omega
      have hcl : c.pl.length ≤ 8 := HRC.out.2.2.1.2
      go_wp2_with fail
      ((with_reducible refine qc.mono ?_); rintro e X3 ⟨rfl, hrow, hgr⟩)
      clear qc y2
      have hx3 := Blk.kept HX2.out hgr (by intro e; have := HG_.out; have := HGE.out; cases e; omega)
      have hz3 := Blk.kept HZ2.out hgr (by intro e; have := HG2_.out; have := HGE.out; cases e; omega)
      have ha3 := Blk.kept HA2.out hgr (by intro e; have := HLT.out; cases e; omega)
      have hb3 := HB2.out.grown hgr HB2.out.size (by intro g e; cases e; have := HG_.out; have := HGE.out; omega)
      have hwg : W.heap.size ≤ gp := Nat.le_trans HWV.out HGE.out
      have hi3 : IsG s2 X3 A n c.mem := HI2.out.1.kept hgr (fun hn b off e k => (HII.out.1.apart hwg) hn b off e (Option.some.inj k))
      have hj3 : IsG s3 X3 B m c.pl := HI2.out.2.kept hgr (fun hn b off e k => (HII.out.2.apart hwg) hn b off e (Option.some.inj k))
      have HE0 := Lib.hid (HGO2.out)
      have HROW := Lib.hid hrow; clear hrow
      generalize f (atP9 c.pl i) = R at *
      obtain ⟨pr, er⟩ := R
      simp only at HE0 HROW ⊢
      by_cases her : er = 0
      rotate_left
      · have HE : Hid (chR c (i : Int) f = (c, er)) := by show _ = _; rw [HE0.out, if_pos her]
        have e1 : (er != 0) = true := by simpa using her
        have HZ := Lib.hid hz3
        have HB := Lib.hid hb3
        have HI : Hid (IsG s2 X3 A n c.mem ∧ IsG s3 X3 B m c.pl) := ⟨hi3, hj3⟩
        have HAP := HAPP
        have z0 := Blk.cell hx3 0
        have z1 := Blk.cell hx3 1
        have z2 := Blk.cell hx3 2
        simp only [List.getElem?_toArray, List.getElem?_cons_zero, List.getElem?_cons_succ] at z0 z1 z2
        clear hx3 hz3 ha3 hb3 hi3 hj3 her
        have x0 := Blk.cell HZ.out 0
        have x1 := Blk.cell HZ.out 1
        have x2 := Blk.cell HZ.out 2
        simp only [List.getElem?_toArray, List.getElem?_cons_zero, List.getElem?_cons_succ] at x0 x1 x2
        have f0 := Blk.frozen HZ.out 0
        have f1 := Blk.frozen HZ.out 1
        have f2 := Blk.frozen HZ.out 2
        have hz3 := Blk.set (Blk.set (Blk.set HZ.out 0 (.int .i64 c.level) #[.int .i64 c.level, .slice none 0 0, .slice none 0 0] rfl) 1 (.slice A n cap) #[.int .i64 c.level, .slice A n cap, .slice none 0 0] rfl) 2 (.slice B m cm) #[.int .i64 c.level, .slice A n cap, .slice B m cm] rfl
        have hb3 := ((HB.out.setCell (p := ⟨w.heap.size + 1, 0, none⟩) (Nat.le_succ _) (.int .i64 c.level)).setCell (p := ⟨w.heap.size + 1, 1, none⟩) (Nat.le_succ _) (.slice A n cap)).setCell (p := ⟨w.heap.size + 1, 2, none⟩) (Nat.le_succ _) (.slice B m cm)
        have hi3 := ((HI.out.1.far (j := 0) (u := .int .i64 c.level) HAP.out.1).far (j := 1) (u := .slice A n cap) HAP.out.1).far (j := 2) (u := .slice B m cm) HAP.out.1
        have hj3 := ((HI.out.2.far (j := 0) (u := .int .i64 c.level) HAP.out.2).far (j := 1) (u := .slice A n cap) HAP.out.2).far (j := 2) (u := .slice B m cm) HAP.out.2
        have HZ3 := Lib.hid hz3; clear hz3
        have HB3 := Lib.hid hb3; clear hb3
        have HI3 := Lib.hid hi3; clear hi3
        have HJ3 := Lib.hid hj3; clear hj3
        clear HZ HB HI HAP
        go_wp2_with fail
        have e0 := Blk.cell HZ3.out 0
        have e1 := Blk.cell HZ3.out 1
        have e2 := Blk.cell HZ3.out 2
        simp only [List.getElem?_toArray, List.getElem?_cons_zero, List.getElem?_cons_succ] at e0 e1 e2
        refine bodyPost_ret (v := .tuple #[.agg #[.int .i64 c.level, .slice A n cap, .slice B m cm], .int .i64 er]) (by simp [results, Try.results56, go_sem, e0, e1, e2]) rfl ?_
        rw [HE.out]
        exact ⟨_, _, _, _, _, _, rfl, HC.out.1, HC.out.2, ⟨HI3.out, HJ3.out⟩, HB3.out⟩
      have HE : Hid (chR c (i : Int) f = (⟨c.level, c.mem, c.pl.set i pr⟩, 0)) := by show _ = _; rw [HE0.out, if_neg (fun e => e her)]
      have e1 : (er != 0) = false := by simpa using her
      have HZ := Lib.hid hz3
      have HB := Lib.hid hb3
      obtain ⟨_, _, hv1, hc1, hi1⟩ := HP2.out.parts
      obtain ⟨_, _, hv2, hc2, hi2⟩ := HROW.out.parts
      obtain ⟨rfl, hl1, rfl⟩ := slice_eqG hv1
      obtain ⟨rfl, hl2, rfl⟩ := slice_eqG hv2
      have HI : Hid (IsG s2 X3 Am c.mem.length c.mem ∧ IsG s3 X3 (some ⟨gp, 0, none⟩) c.pl.length (c.pl.set i pr)) := ⟨hi1.kept hgr (fun _ b off e k => HNE.out b (by rw [e]; rfl) (by rw [k]; rfl)), by rw [hl2]; exact hi2⟩
      clear HC
      have HC : Hid (c.mem.length ≤ capm ∧ c.pl.length ≤ capp) := ⟨hc1, by rw [hl2]; exact hc2⟩
      have HAP : Hid (ApartN (w.heap.size + 1) Am c.mem.length ∧ ApartN (w.heap.size + 1) (some ⟨gp, 0, none⟩) c.pl.length) := ⟨fun _ b off e => by have := (HP2.out.lt b (by rw [e]; rfl)).1; have := HG2_.out; omega, fun _ b off e => by have := HGE.out; have := HG2_.out; cases e; omega⟩
      clear hv1 hc1 hi1 hl1 hv2 hc2 hi2 hl2 her hx3 hz3 hb3 hi3 hj3 hgr
      have z0 := Blk.cell ha3 0
      have z1 := Blk.cell ha3 1
      have z2 := Blk.cell ha3 2
      simp only [List.getElem?_toArray, List.getElem?_cons_zero, List.getElem?_cons_succ] at z0 z1 z2
      clear ha3
      have x0 := Blk.cell HZ.out 0
      have x1 := Blk.cell HZ.out 1
      have x2 := Blk.cell HZ.out 2
      simp only [List.getElem?_toArray, List.getElem?_cons_zero, List.getElem?_cons_succ] at x0 x1 x2
      have f0 := Blk.frozen HZ.out 0
      have f1 := Blk.frozen HZ.out 1
      have f2 := Blk.frozen HZ.out 2
      have hz3 := Blk.set (Blk.set (Blk.set HZ.out 0 (.int .i64 c.level) #[.int .i64 c.level, .slice none 0 0, .slice none 0 0] rfl) 1 (.slice Am c.mem.length capm) #[.int .i64 c.level, .slice Am c.mem.length capm, .slice none 0 0] rfl) 2 (.slice (some ⟨gp, 0, none⟩) c.pl.length capp) #[.int .i64 c.level, .slice Am c.mem.length capm, .slice (some ⟨gp, 0, none⟩) c.pl.length capp] rfl
      have hb3 := ((HB.out.setCell (p := ⟨w.heap.size + 1, 0, none⟩) (Nat.le_succ _) (.int .i64 c.level)).setCell (p := ⟨w.heap.size + 1, 1, none⟩) (Nat.le_succ _) (.slice Am c.mem.length capm)).setCell (p := ⟨w.heap.size + 1, 2, none⟩) (Nat.le_succ _) (.slice (some ⟨gp, 0, none⟩) c.pl.length capp)
      have hi3 := ((HI.out.1.far (j := 0) (u := .int .i64 c.level) HAP.out.1).far (j := 1) (u := .slice Am c.mem.length capm) HAP.out.1).far (j := 2) (u := .slice (some ⟨gp, 0, none⟩) c.pl.length capp) HAP.out.1
      have hj3 := ((HI.out.2.far (j := 0) (u := .int .i64 c.level) HAP.out.2).far (j := 1) (u := .slice Am c.mem.length capm) HAP.out.2).far (j := 2) (u := .slice (some ⟨gp, 0, none⟩) c.pl.length capp) HAP.out.2
      have HZ3 := Lib.hid hz3; clear hz3
      have HB3 := Lib.hid hb3; clear hb3
      have HI3 := Lib.hid hi3; clear hi3
      have HJ3 := Lib.hid hj3; clear hj3
      clear HZ HB HI HAP
      go_wp2_with fail
      have e0 := Blk.cell HZ3.out 0
      have e1 := Blk.cell HZ3.out 1
      have e2 := Blk.cell HZ3.out 2
      simp only [List.getElem?_toArray, List.getElem?_cons_zero, List.getElem?_cons_succ] at e0 e1 e2
      refine bodyPost_ret (v := .tuple #[.agg #[.int .i64 c.level, .slice Am c.mem.length capm, .slice (some ⟨gp, 0, none⟩) c.pl.length capp], .int .i64 0]) (by simp [results, Try.results56, go_sem, e0, e1, e2]) rfl ?_
      rw [HE.out]
      exact ⟨_, _, _, _, _, _, rfl, HC.out.1, HC.out.2, ⟨HI3.out, HJ3.out⟩, HB3.out⟩
theorem cf9commit (args : Array Value) (w : World) : (callFunc 59 args).run Try.prog w = .ok (.enter 59 args) w := run_callFunc_body9 Try.func59 (by kernel_rfl) (by kernel_rfl) args w
set_option maxRecDepth 100000 in
set_option maxHeartbeats 8000000 in
theorem commitC9_any : CommitC9 := by
  intro c A B n cap m cm s w harg hws
  have HX := Blk.below (Blk.new w (ctB c A n cap B m cm)) (ba9 (w.alloc (ctB c A n cap B m cm)) (.cells #[.int .i64 0, .slice none 0 0, .slice none 0 0] 26))
  have HZ := Blk.new (w.alloc (ctB c A n cap B m cm)) (.cells #[.int .i64 0, .slice none 0 0, .slice none 0 0] 26)
  rw [World.size_alloc] at HZ
  have HB := (ba9 w (ctB c A n cap B m cm)).alloc (ba9 w (ctB c A n cap B m cm)).size (.cells #[.int .i64 0, .slice none 0 0, .slice none 0 0] 26)
  obtain ⟨W, hW⟩ : ∃ W, (w.alloc (ctB c A n cap B m cm)).alloc (.cells #[.int .i64 0, .slice none 0 0, .slice none 0 0] 26) = W := ⟨_, rfl⟩
  rw [hW] at HX HZ HB
  have HXX := Lib.hid HX; clear HX
  have HZZ := Lib.hid HZ; clear HZ
  have HBB := Lib.hid HB; clear HB
  have q := changed9_any c A B n cap m cm s 59 #[] comR W ⟨IsCt.below harg.1 HBB.out, harg.2⟩ hws cf9commit (fun hrc W' base g m2 cm2 l i hb hbase hrow hi hep => commit1_any W' base g m2 cm2 l i hrow hi hep)
  rw [← com_ch c s] at q
  clear harg
  generalize commitC c s = R at *
  have z0 := Blk.cell HXX.out 0
  have z1 := Blk.cell HXX.out 1
  have z2 := Blk.cell HXX.out 2
  simp only [List.getElem?_toArray, List.getElem?_cons_zero, List.getElem?_cons_succ] at z0 z1 z2
  go_enter Try.func28, Try.ntmps28
  go_upto_region 1 with fail
  try rw [hW]
  clear hW
  go_wp2_with fail
  ((with_reducible refine (q).mono ?_); rintro e V ⟨A2, n2, cap2, B2, m2, cm2, rfl, hc2, hm2, hct, b1⟩)
  clear q z0 z1 z2
  have HZ := Lib.hid (Blk.below HZZ.out b1)
  have HB := Lib.hid (bch HBB.out b1)
  obtain ⟨cr, er⟩ := R
  have HI : Hid (IsG s2 V A2 n2 cr.mem ∧ IsG s3 V B2 m2 cr.pl) := hct
  have HAP : Hid (ApartN (w.heap.size + 1) A2 n2 ∧ ApartN (w.heap.size + 1) B2 m2) := ⟨s2_apart (c := zeroC) (A := none) (B := none) (n := 0) (cap := 0) (m := 0) (cm := 0) HZ.out hct.1, s3_apart (c := zeroC) (A := none) (B := none) (n := 0) (cap := 0) (m := 0) (cm := 0) HZ.out hct.2⟩
  have HC : Hid (n2 ≤ cap2 ∧ m2 ≤ cm2) := ⟨hc2, hm2⟩
  clear hct hc2 hm2 b1 HZZ HXX HBB
  have x0 := Blk.cell HZ.out 0
  have x1 := Blk.cell HZ.out 1
  have x2 := Blk.cell HZ.out 2
  simp only [List.getElem?_toArray, List.getElem?_cons_zero, List.getElem?_cons_succ] at x0 x1 x2
  have f0 := Blk.frozen HZ.out 0
  have f1 := Blk.frozen HZ.out 1
  have f2 := Blk.frozen HZ.out 2
  have hz3 := Blk.set (Blk.set (Blk.set HZ.out 0 (.int .i64 cr.level) #[.int .i64 cr.level, .slice none 0 0, .slice none 0 0] rfl) 1 (.slice A2 n2 cap2) #[.int .i64 cr.level, .slice A2 n2 cap2, .slice none 0 0] rfl) 2 (.slice B2 m2 cm2) #[.int .i64 cr.level, .slice A2 n2 cap2, .slice B2 m2 cm2] rfl
  have hb3 := ((HB.out.setCell (p := ⟨w.heap.size + 1, 0, none⟩) (Nat.le_succ _) (.int .i64 cr.level)).setCell (p := ⟨w.heap.size + 1, 1, none⟩) (Nat.le_succ _) (.slice A2 n2 cap2)).setCell (p := ⟨w.heap.size + 1, 2, none⟩) (Nat.le_succ _) (.slice B2 m2 cm2)
  have hi3 := ((HI.out.1.far (j := 0) (u := .int .i64 cr.level) HAP.out.1).far (j := 1) (u := .slice A2 n2 cap2) HAP.out.1).far (j := 2) (u := .slice B2 m2 cm2) HAP.out.1
  have hj3 := ((HI.out.2.far (j := 0) (u := .int .i64 cr.level) HAP.out.2).far (j := 1) (u := .slice A2 n2 cap2) HAP.out.2).far (j := 2) (u := .slice B2 m2 cm2) HAP.out.2
  have HZ3 := Lib.hid hz3; clear hz3
  have HB3 := Lib.hid hb3; clear hb3
  have HI3 := Lib.hid hi3; clear hi3
  have HJ3 := Lib.hid hj3; clear hj3
  clear HZ HB HI HAP
  go_wp2_with fail
  have e0 := Blk.cell HZ3.out 0
  have e1 := Blk.cell HZ3.out 1
  have e2 := Blk.cell HZ3.out 2
  simp only [List.getElem?_toArray, List.getElem?_cons_zero, List.getElem?_cons_succ] at e0 e1 e2
  refine bodyPost_ret (v := .tuple #[.agg #[.int .i64 cr.level, .slice A2 n2 cap2, .slice B2 m2 cm2], .int .i64 er]) (by simp [results, Try.results28, go_sem, e0, e1, e2]) rfl ?_
  skip
  exact ⟨_, _, _, _, _, _, rfl, HC.out.1, HC.out.2, ⟨HI3.out, HJ3.out⟩, HB3.out⟩
theorem cf9cancel (args : Array Value) (w : World) : (callFunc 60 args).run Try.prog w = .ok (.enter 60 args) w := run_callFunc_body9 Try.func60 (by kernel_rfl) (by kernel_rfl) args w
set_option maxRecDepth 100000 in
set_option maxHeartbeats 8000000 in
theorem cancelC9_any : CancelC9 := by
  intro c A B n cap m cm s w harg hws
  have HX := Blk.below (Blk.new w (ctB c A n cap B m cm)) (ba9 (w.alloc (ctB c A n cap B m cm)) (.cells #[.int .i64 0, .slice none 0 0, .slice none 0 0] 26))
  have HZ := Blk.new (w.alloc (ctB c A n cap B m cm)) (.cells #[.int .i64 0, .slice none 0 0, .slice none 0 0] 26)
  rw [World.size_alloc] at HZ
  have HB := (ba9 w (ctB c A n cap B m cm)).alloc (ba9 w (ctB c A n cap B m cm)).size (.cells #[.int .i64 0, .slice none 0 0, .slice none 0 0] 26)
  obtain ⟨W, hW⟩ : ∃ W, (w.alloc (ctB c A n cap B m cm)).alloc (.cells #[.int .i64 0, .slice none 0 0, .slice none 0 0] 26) = W := ⟨_, rfl⟩
  rw [hW] at HX HZ HB
  have HXX := Lib.hid HX; clear HX
  have HZZ := Lib.hid HZ; clear HZ
  have HBB := Lib.hid HB; clear HB
  have q := changed9_any c A B n cap m cm s 60 #[] canR W ⟨IsCt.below harg.1 HBB.out, harg.2⟩ hws cf9cancel (fun hrc W' base g m2 cm2 l i hb hbase hrow hi hep => cancel1_any W' base g m2 cm2 l i hrow hi)
  rw [← can_ch c s] at q
  clear harg
  generalize cancelC c s = R at *
  have z0 := Blk.cell HXX.out 0
  have z1 := Blk.cell HXX.out 1
  have z2 := Blk.cell HXX.out 2
  simp only [List.getElem?_toArray, List.getElem?_cons_zero, List.getElem?_cons_succ] at z0 z1 z2
  go_enter Try.func30, Try.ntmps30
  go_upto_region 1 with fail
  try rw [hW]
  clear hW
  go_wp2_with fail
  ((with_reducible refine (q).mono ?_); rintro e V ⟨A2, n2, cap2, B2, m2, cm2, rfl, hc2, hm2, hct, b1⟩)
  clear q z0 z1 z2
  have HZ := Lib.hid (Blk.below HZZ.out b1)
  have HB := Lib.hid (bch HBB.out b1)
  obtain ⟨cr, er⟩ := R
  have HI : Hid (IsG s2 V A2 n2 cr.mem ∧ IsG s3 V B2 m2 cr.pl) := hct
  have HAP : Hid (ApartN (w.heap.size + 1) A2 n2 ∧ ApartN (w.heap.size + 1) B2 m2) := ⟨s2_apart (c := zeroC) (A := none) (B := none) (n := 0) (cap := 0) (m := 0) (cm := 0) HZ.out hct.1, s3_apart (c := zeroC) (A := none) (B := none) (n := 0) (cap := 0) (m := 0) (cm := 0) HZ.out hct.2⟩
  have HC : Hid (n2 ≤ cap2 ∧ m2 ≤ cm2) := ⟨hc2, hm2⟩
  clear hct hc2 hm2 b1 HZZ HXX HBB
  have x0 := Blk.cell HZ.out 0
  have x1 := Blk.cell HZ.out 1
  have x2 := Blk.cell HZ.out 2
  simp only [List.getElem?_toArray, List.getElem?_cons_zero, List.getElem?_cons_succ] at x0 x1 x2
  have f0 := Blk.frozen HZ.out 0
  have f1 := Blk.frozen HZ.out 1
  have f2 := Blk.frozen HZ.out 2
  have hz3 := Blk.set (Blk.set (Blk.set HZ.out 0 (.int .i64 cr.level) #[.int .i64 cr.level, .slice none 0 0, .slice none 0 0] rfl) 1 (.slice A2 n2 cap2) #[.int .i64 cr.level, .slice A2 n2 cap2, .slice none 0 0] rfl) 2 (.slice B2 m2 cm2) #[.int .i64 cr.level, .slice A2 n2 cap2, .slice B2 m2 cm2] rfl
  have hb3 := ((HB.out.setCell (p := ⟨w.heap.size + 1, 0, none⟩) (Nat.le_succ _) (.int .i64 cr.level)).setCell (p := ⟨w.heap.size + 1, 1, none⟩) (Nat.le_succ _) (.slice A2 n2 cap2)).setCell (p := ⟨w.heap.size + 1, 2, none⟩) (Nat.le_succ _) (.slice B2 m2 cm2)
  have hi3 := ((HI.out.1.far (j := 0) (u := .int .i64 cr.level) HAP.out.1).far (j := 1) (u := .slice A2 n2 cap2) HAP.out.1).far (j := 2) (u := .slice B2 m2 cm2) HAP.out.1
  have hj3 := ((HI.out.2.far (j := 0) (u := .int .i64 cr.level) HAP.out.2).far (j := 1) (u := .slice A2 n2 cap2) HAP.out.2).far (j := 2) (u := .slice B2 m2 cm2) HAP.out.2
  have HZ3 := Lib.hid hz3; clear hz3
  have HB3 := Lib.hid hb3; clear hb3
  have HI3 := Lib.hid hi3; clear hi3
  have HJ3 := Lib.hid hj3; clear hj3
  clear HZ HB HI HAP
  go_wp2_with fail
  have e0 := Blk.cell HZ3.out 0
  have e1 := Blk.cell HZ3.out 1
  have e2 := Blk.cell HZ3.out 2
  simp only [List.getElem?_toArray, List.getElem?_cons_zero, List.getElem?_cons_succ] at e0 e1 e2
  refine bodyPost_ret (v := .tuple #[.agg #[.int .i64 cr.level, .slice A2 n2 cap2, .slice B2 m2 cm2], .int .i64 er]) (by simp [results, Try.results30, go_sem, e0, e1, e2]) rfl ?_
  skip
  exact ⟨_, _, _, _, _, _, rfl, HC.out.1, HC.out.2, ⟨HI3.out, HJ3.out⟩, HB3.out⟩
theorem cf9plan (args : Array Value) (w : World) : (callFunc 57 args).run Try.prog w = .ok (.enter 57 args) w := run_callFunc_body9 Try.func57 (by kernel_rfl) (by kernel_rfl) args w
set_option maxRecDepth 100000 in
set_option maxHeartbeats 8000000 in
theorem planC9_any : PlanC9 := by
  intro c A B n cap m cm s t w harg hws hwt
  have HX := Blk.below (Blk.below (Blk.new w (ctB c A n cap B m cm)) (ba9 (w.alloc (ctB c A n cap B m cm)) (.cells #[.int .i64 t] 3))) (ba9 ((w.alloc (ctB c A n cap B m cm)).alloc (.cells #[.int .i64 t] 3)) (.cells #[.int .i64 0, .slice none 0 0, .slice none 0 0] 26))
  have HT := Blk.below (Blk.new (w.alloc (ctB c A n cap B m cm)) (.cells #[.int .i64 t] 3)) (ba9 ((w.alloc (ctB c A n cap B m cm)).alloc (.cells #[.int .i64 t] 3)) (.cells #[.int .i64 0, .slice none 0 0, .slice none 0 0] 26))
  have HZ := Blk.new ((w.alloc (ctB c A n cap B m cm)).alloc (.cells #[.int .i64 t] 3)) (.cells #[.int .i64 0, .slice none 0 0, .slice none 0 0] 26)
  rw [World.size_alloc] at HT
  rw [World.size_alloc, World.size_alloc] at HZ
  have HB := ((ba9 w (ctB c A n cap B m cm)).alloc (ba9 w (ctB c A n cap B m cm)).size (.cells #[.int .i64 t] 3)).alloc ((ba9 w (ctB c A n cap B m cm)).alloc (ba9 w (ctB c A n cap B m cm)).size (.cells #[.int .i64 t] 3)).size (.cells #[.int .i64 0, .slice none 0 0, .slice none 0 0] 26)
  obtain ⟨W, hW⟩ : ∃ W, ((w.alloc (ctB c A n cap B m cm)).alloc (.cells #[.int .i64 t] 3)).alloc (.cells #[.int .i64 0, .slice none 0 0, .slice none 0 0] 26) = W := ⟨_, rfl⟩
  rw [hW] at HX HZ HB HT
  have HXX := Lib.hid HX; clear HX
  have HTT := Lib.hid HT; clear HT
  have HZZ := Lib.hid HZ; clear HZ
  have HBB := Lib.hid HB; clear HB
  have q := changed9_any c A B n cap m cm s 57 #[.pointer (some ⟨w.heap.size, 0, none⟩), .pointer (some ⟨w.heap.size + 1, 0, none⟩)] (plaR c.mem t) W ⟨IsCt.below harg.1 HBB.out, harg.2⟩ hws cf9plan (fun hrc W' base g m2 cm2 l i hb hbase hrow hi hep => plan1_any W' base g m2 cm2 l i c.mem t c A B n cap m cm w.heap.size (w.heap.size + 1) hrow hi (Blk.below HXX.out hb) (Blk.below HTT.out hb) ((IsCt.below harg.1 HBB.out).1.below hb) hrc.2.2.2.1.1 (by have h1 := harg.1.1.1; have h2 := hrc.2.1.2; omega))
  rw [← pla_ch c s t] at q
  clear harg
  generalize planC c s t = R at *
  have z0 := Blk.cell HXX.out 0
  have z1 := Blk.cell HXX.out 1
  have z2 := Blk.cell HXX.out 2
  simp only [List.getElem?_toArray, List.getElem?_cons_zero, List.getElem?_cons_succ] at z0 z1 z2
  go_enter Try.func26, Try.ntmps26
  go_upto_region 1 with fail
  try rw [hW]
  clear hW
  go_wp2_with fail
  ((with_reducible refine (q).mono ?_); rintro e V ⟨A2, n2, cap2, B2, m2, cm2, rfl, hc2, hm2, hct, b1⟩)
  clear q z0 z1 z2
  have HZ := Lib.hid (Blk.below HZZ.out b1)
  have HB := Lib.hid (bch HBB.out b1)
  obtain ⟨cr, er⟩ := R
  have HI : Hid (IsG s2 V A2 n2 cr.mem ∧ IsG s3 V B2 m2 cr.pl) := hct
  have HAP : Hid (ApartN (w.heap.size + 2) A2 n2 ∧ ApartN (w.heap.size + 2) B2 m2) := ⟨s2_apart (c := zeroC) (A := none) (B := none) (n := 0) (cap := 0) (m := 0) (cm := 0) HZ.out hct.1, s3_apart (c := zeroC) (A := none) (B := none) (n := 0) (cap := 0) (m := 0) (cm := 0) HZ.out hct.2⟩
  have HC : Hid (n2 ≤ cap2 ∧ m2 ≤ cm2) := ⟨hc2, hm2⟩
  clear hct hc2 hm2 b1 HZZ HXX HTT HBB
  have x0 := Blk.cell HZ.out 0
  have x1 := Blk.cell HZ.out 1
  have x2 := Blk.cell HZ.out 2
  simp only [List.getElem?_toArray, List.getElem?_cons_zero, List.getElem?_cons_succ] at x0 x1 x2
  have f0 := Blk.frozen HZ.out 0
  have f1 := Blk.frozen HZ.out 1
  have f2 := Blk.frozen HZ.out 2
  have hz3 := Blk.set (Blk.set (Blk.set HZ.out 0 (.int .i64 cr.level) #[.int .i64 cr.level, .slice none 0 0, .slice none 0 0] rfl) 1 (.slice A2 n2 cap2) #[.int .i64 cr.level, .slice A2 n2 cap2, .slice none 0 0] rfl) 2 (.slice B2 m2 cm2) #[.int .i64 cr.level, .slice A2 n2 cap2, .slice B2 m2 cm2] rfl
  have hb3 := ((HB.out.setCell (p := ⟨w.heap.size + 2, 0, none⟩) (by show w.heap.size ≤ w.heap.size + 2; omega) (.int .i64 cr.level)).setCell (p := ⟨w.heap.size + 2, 1, none⟩) (by show w.heap.size ≤ w.heap.size + 2; omega) (.slice A2 n2 cap2)).setCell (p := ⟨w.heap.size + 2, 2, none⟩) (by show w.heap.size ≤ w.heap.size + 2; omega) (.slice B2 m2 cm2)
  have hi3 := ((HI.out.1.far (j := 0) (u := .int .i64 cr.level) HAP.out.1).far (j := 1) (u := .slice A2 n2 cap2) HAP.out.1).far (j := 2) (u := .slice B2 m2 cm2) HAP.out.1
  have hj3 := ((HI.out.2.far (j := 0) (u := .int .i64 cr.level) HAP.out.2).far (j := 1) (u := .slice A2 n2 cap2) HAP.out.2).far (j := 2) (u := .slice B2 m2 cm2) HAP.out.2
  have HZ3 := Lib.hid hz3; clear hz3
  have HB3 := Lib.hid hb3; clear hb3
  have HI3 := Lib.hid hi3; clear hi3
  have HJ3 := Lib.hid hj3; clear hj3
  clear HZ HB HI HAP
  go_wp2_with fail
  have e0 := Blk.cell HZ3.out 0
  have e1 := Blk.cell HZ3.out 1
  have e2 := Blk.cell HZ3.out 2
  simp only [List.getElem?_toArray, List.getElem?_cons_zero, List.getElem?_cons_succ] at e0 e1 e2
  refine bodyPost_ret (v := .tuple #[.agg #[.int .i64 cr.level, .slice A2 n2 cap2, .slice B2 m2 cm2], .int .i64 er]) (by simp [results, Try.results26, go_sem, e0, e1, e2]) rfl ?_
  skip
  exact ⟨_, _, _, _, _, _, rfl, HC.out.1, HC.out.2, ⟨HI3.out, HJ3.out⟩, HB3.out⟩
end Go.Proofs.Ytndkmepdnekigaa
