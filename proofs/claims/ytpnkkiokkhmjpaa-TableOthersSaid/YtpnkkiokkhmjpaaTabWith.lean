import Derived.Test.YtpnkkiokkhmjpaaTabOwn
/-
  The contracts of the document's own 'fault' and 'with' of tables (stage 12).
-/
namespace Go.Proofs.Ytpnkkiokkhmjpaa
open Go.RowKit
set_option linter.unusedVariables false
set_option linter.unusedSimpArgs false

/-- A pair more, in its place. -/
def insP : List (Rcd × Value) → Rcd × Value → List (Rcd × Value)
  | [], q => [q]
  | x :: l, q => if ltB q.1.key x.1.key then q :: x :: l else x :: insP l q
theorem insP_map (l : List (Rcd × Value)) (q : Rcd × Value) : (insP l q).map Prod.fst = insT (l.map Prod.fst) q.1 := by
  induction l with
  | nil => rfl
  | cons x l ih => unfold insP insT; rw [List.map_cons]; simp only; split <;> simp [ih]
theorem insP_mem {l : List (Rcd × Value)} {q x : Rcd × Value} (h : x ∈ insP l q) : x = q ∨ x ∈ l := by
  induction l with
  | nil => simpa [insP] using h
  | cons y l ih =>
    unfold insP at h
    split at h
    · simpa using h
    · rcases List.mem_cons.1 h with h | h
      · exact .inr (by rw [h]; exact List.mem_cons_self ..)
      · rcases ih h with h | h
        · exact .inl h
        · exact .inr (List.mem_cons_of_mem _ h)
theorem insP_len (l : List (Rcd × Value)) (q : Rcd × Value) : (insP l q).length = l.length + 1 := by
  induction l with
  | nil => rfl
  | cons x l ih => unfold insP; split <;> simp [ih]
/-- Is a key greater? -/
def gtP (l : List (Rcd × Value)) (q : Rcd × Value) : Bool := l.any fun p => ltB q.1.key p.1.key
/-- How far 'with' is. -/
def stW (l : List (Rcd × Value)) (q : Rcd × Value) (k : Nat) : List (Rcd × Value) := if gtP (l.take k) q then insP (l.take k) q else l.take k
theorem insP_no {a : List (Rcd × Value)} {q : Rcd × Value} (h : gtP a q = false) (b : List (Rcd × Value)) : insP (a ++ b) q = a ++ insP b q := by
  induction a with
  | nil => rfl
  | cons x a ih =>
    unfold gtP at h
    rw [List.any_cons, Bool.or_eq_false_iff] at h
    rw [List.cons_append, insP, if_neg (by rw [h.1]; simp), ih h.2]; rfl
theorem insP_yes {a : List (Rcd × Value)} {q : Rcd × Value} (h : gtP a q = true) (b : List (Rcd × Value)) : insP (a ++ b) q = insP a q ++ b := by
  induction a with
  | nil => cases h
  | cons x a ih =>
    unfold gtP at h
    rw [List.any_cons, Bool.or_eq_true] at h
    rw [List.cons_append, insP, insP]
    by_cases hx : ltB q.1.key x.1.key = true
    · rw [if_pos hx, if_pos hx]; rfl
    · rw [if_neg hx, if_neg hx, ih (h.resolve_left hx)]; rfl
theorem gtP_snoc (a : List (Rcd × Value)) (q x : Rcd × Value) : gtP (a ++ [x]) q = (gtP a q || ltB q.1.key x.1.key) := by simp [gtP]
theorem stW_done {l : List (Rcd × Value)} {q : Rcd × Value} {k : Nat} (hk : k < l.length) (h : gtP (l.take k) q = true) : stW l q (k + 1) = stW l q k ++ [atP l k] ∧ gtP (l.take (k + 1)) q = true := by
  have e : gtP (l.take (k + 1)) q = true := by rw [take_succP hk, gtP_snoc, h]; rfl
  refine ⟨?_, e⟩
  unfold stW
  rw [if_pos e, if_pos h, take_succP hk, insP_yes h]
theorem stW_now {l : List (Rcd × Value)} {q : Rcd × Value} {k : Nat} (hk : k < l.length) (h : gtP (l.take k) q = false) (hl : ltB q.1.key (atP l k).1.key = true) : stW l q (k + 1) = stW l q k ++ [q] ++ [atP l k] ∧ gtP (l.take (k + 1)) q = true := by
  have e : gtP (l.take (k + 1)) q = true := by rw [take_succP hk, gtP_snoc, hl]; simp
  refine ⟨?_, e⟩
  unfold stW
  rw [if_pos e, if_neg (by rw [h]; simp), take_succP hk, insP_no h]
  simp [insP, hl]
theorem stW_no {l : List (Rcd × Value)} {q : Rcd × Value} {k : Nat} (hk : k < l.length) (h : gtP (l.take k) q = false) (hl : ltB q.1.key (atP l k).1.key = false) : stW l q (k + 1) = stW l q k ++ [atP l k] ∧ gtP (l.take (k + 1)) q = false := by
  have e : gtP (l.take (k + 1)) q = false := by rw [take_succP hk, gtP_snoc, h, hl]; rfl
  refine ⟨?_, e⟩
  unfold stW
  rw [if_neg (by rw [e]; simp), if_neg (by rw [h]; simp), take_succP hk]
theorem stW_end {l : List (Rcd × Value)} {q : Rcd × Value} {k : Nat} (hk : k = l.length) : insP l q = if gtP (l.take k) q then stW l q k else stW l q k ++ [q] := by
  subst hk
  unfold stW
  rw [List.take_length]
  cases h : gtP l q with
  | true => simp
  | false =>
    have := insP_no h []
    rw [List.append_nil] at this
    simpa [insP] using this

set_option maxRecDepth 100000 in
set_option maxHeartbeats 8000000 in
theorem reffault_any (x : Nat) (w : World) : Calls Try.prog 33 #[.int .i64 x] w fun e w' => e = .returned (rpV (faultR x) (.slice none 0 0)) ∧ Below w.heap.size w w' := by
  have hb := Blk.new w (.cells #[.int .i64 x, .int .i64 0, .string ⟨#[]⟩, .slice none 0 0] 37)
  have z0 := Blk.cell hb 0
  have z1 := Blk.cell hb 1
  have z2 := Blk.cell hb 2
  have z3 := Blk.cell hb 3
  simp only [List.getElem?_toArray, List.getElem?_cons_zero, List.getElem?_cons_succ] at z0 z1 z2 z3
  clear hb
  go_enter Try.func33, Try.ntmps33
  go_wp2_with fail
  refine bodyPost_ret (v := .agg #[.int .i64 x, .int .i64 0, .string ⟨#[]⟩, .slice none 0 0]) (by simp [results, Try.results33, go_sem, z0, z1, z2, z3]) rfl ⟨rfl, (Below.refl _ _).alloc (Nat.le_refl _) _⟩

theorem reffault_num (x : Nat) (z : Int) (e : z = x) (w : World) : Calls Try.prog 33 #[.int .i64 z] w fun e w' => e = .returned (.agg #[.int .i64 z, .int .i64 0, .string ByteArray.empty, .slice none 0 0]) ∧ Below w.heap.size w w' := by
  subst e; exact reffault_any x w

set_option maxRecDepth 100000 in
set_option maxHeartbeats 8000000 in
theorem refwith_any (l : List (Rcd × Value)) (q : Rcd × Value) (A : Option Addr) (n cap : Nat) (w : World) (h : IsPs w A n l) (hs : SlP l) (hq : SlP [q]) (h88 : n * 88 ≤ 140737488351232) :
    Calls Try.prog 52 #[.slice A n cap, rcV q.1 q.2] w fun e w' => ∃ v, e = .returned v ∧ RowT w' w.heap.size v (insP l q) ∧ Below w.heap.size w w' := by
  have HN : Hid (n = l.length) := h.1
  have HT := Lib.hid h; clear h
  have HSq := Lib.hid hq; clear hq
  have HSL := Lib.hid hs; clear hs
  have hb0 : Below w.heap.size w (w.alloc (.cells #[.string q.1.key, .string q.1.value, .int .i64 q.1.rev, .int .i64 q.1.life, .string q.1.note, q.2] 47)) := (Below.refl _ _).alloc (Nat.le_refl _) _
  have hq0 := Blk.new w (.cells #[.string q.1.key, .string q.1.value, .int .i64 q.1.rev, .int .i64 q.1.life, .string q.1.note, q.2] 47)
  obtain ⟨W0, hW0⟩ : ∃ W, w.alloc (.cells #[.string q.1.key, .string q.1.value, .int .i64 q.1.rev, .int .i64 q.1.life, .string q.1.note, q.2] 47) = W := ⟨_, rfl⟩
  rw [hW0] at hb0 hq0
  have HB0 := Lib.hid hb0; clear hb0
  have HQ0 := Lib.hid hq0; clear hq0
  go_enter Try.func52, Try.ntmps52
  go_wp2_with fail
  clear hW0
  obtain ⟨B, hB⟩ : ∃ B, w.heap.size = B := ⟨_, rfl⟩
  have HBE := Lib.hid hB
  rw [hB] at HQ0 ⊢
  clear hB
  go_loopw [5, 6, 7] (fun v d i wy => ∃ (k : Nat) (wr : World), wr = wy ∧ k ≤ n ∧ i = .int .i64 k ∧ d = .bool (gtP (l.take k) q) ∧ RowT wr (B + 1) v (stW l q k) ∧ Blk wr B (.cells #[.string q.1.key, .string q.1.value, .int .i64 q.1.rev, .int .i64 q.1.life, .string q.1.note, q.2] 47 (0, 0)) ∧ Below w.heap.size w wr) (fun _ _ i _ => n - (intOf i).toNat)
  case atStart => exact ⟨0, _, rfl, by omega, rfl, rfl, rowT_nil _ _, HQ0.out, HB0.out⟩
  case round =>
    clear HB0 HQ0
    obtain ⟨k, wr, rfl, hk, rfl, rfl, hrow, hqb, hb⟩ := hrel
    have HROW := Lib.hid hrow
    obtain ⟨Av, cv, hv, hcv, hps⟩ := hrow.parts
    subst hv
    clear hps hrow
    have HQ := Lib.hid hqb; clear hqb
    have HB := Lib.hid hb; clear hb
    have HLEN : Hid ((stW l q k).length ≤ k + 1) := by
      show _ ≤ _
      unfold stW
      split
      · rw [insP_len, List.length_take]; omega
      · rw [List.length_take]; omega
    by_cases hlt : k < n
    · have HK : Hid (k < l.length) := by have := HN.out; show k < l.length; omega
      obtain ⟨b, off, hA, hbb, hat⟩ := HT.out.2.2 (by omega)
      subst hA
      have HPX := Lib.hid (hat k HK.out)
      have hki : (k : Int) < (n : Int) := by omega
      have hk0 : (0 : Int) ≤ (k : Int) := by omega
      have hg1 : decide ((k : Int) < 0) = false := decide_eq_false (by omega)
      have hg2 : decide ((n : Int) ≤ (k : Int)) = false := decide_eq_false (by omega)
      have hg2n : decide (n ≤ k) = false := decide_eq_false (by omega)
      have HSx : Hid (SlP [atP l k]) := fun p hp => by rw [List.mem_singleton] at hp; rw [hp]; exact HSL.out _ (atP_mem HK.out)
      have HD : Hid (gtP (l.take k) q = true → stW l q (k + 1) = stW l q k ++ [atP l k] ∧ gtP (l.take (k + 1)) q = true) := stW_done HK.out
      have HNW : Hid (gtP (l.take k) q = false → ltB q.1.key (atP l k).1.key = true → stW l q (k + 1) = stW l q k ++ [q] ++ [atP l k] ∧ gtP (l.take (k + 1)) q = true) := stW_now HK.out
      have HNO : Hid (gtP (l.take k) q = false → ltB q.1.key (atP l k).1.key = false → stW l q (k + 1) = stW l q k ++ [atP l k] ∧ gtP (l.take (k + 1)) q = false) := stW_no HK.out
      clear hat hbb
      generalize atP l k = x at *
      have hcmp : (!Go.Op.bytesLess x.1.key.toList q.1.key.toList && !x.1.key.toList == q.1.key.toList) = ltB q.1.key x.1.key := by
        cases hx : ltB q.1.key x.1.key with
        | true =>
          have e1 : Go.Op.bytesLess x.1.key.toList q.1.key.toList = false := lt_asym hx
          have e2 : (x.1.key.toList == q.1.key.toList) = false := tb_ne (fun e => lt_ne hx e.symm)
          rw [e1, e2]; rfl
        | false =>
          cases hy : Go.Op.bytesLess x.1.key.toList q.1.key.toList
          · have e2 : (x.1.key.toList == q.1.key.toList) = true := tb_eq (lt_tri (by exact hy) hx)
            rw [e2]; rfl
          · rfl
      cases hd : gtP (l.take k) q with
      | true =>
        have E := Lib.hid (HD.out hd)
        clear hd HD HNW HNO hcmp
        go_wp2_with fail
        go_quiet (fail)
        have hbv : Below wr.heap.size wr (wr.drewN nq) := bdn (Below.refl _ _) _
        have HRV := Lib.hid (HROW.out.below hbv)
        have HQV := Lib.hid (Blk.below HQ.out hbv)
        have HBV := Lib.hid (bch HB.out hbv)
        obtain ⟨V, hV⟩ : ∃ V, wr.drewN nq = V := ⟨_, rfl⟩
        rw [hV] at HRV HQV HBV ⊢
        clear hV hbv
        obtain ⟨x0, x1, x2, x3, x4, x5⟩ := RcAt.below (show RcAt w b (off + k * 6) x.1 x.2 from HPX.out) HBV.out
        have hbc : Below V.heap.size V (V.alloc (.cells #[.string x.1.key, .string x.1.value, .int .i64 x.1.rev, .int .i64 x.1.life, .string x.1.note, x.2] 47)) := (Below.refl _ _).alloc (Nat.le_refl _) _
        have hpc := isPs_one V x
        have HBac := Lib.hid (bch HBV.out hbc)
        have hrowc := HRV.out.below hbc
        have HQac := Lib.hid (HQV.out.below hbc)
        obtain ⟨Vc, hVc⟩ : ∃ W, V.alloc (.cells #[.string x.1.key, .string x.1.value, .int .i64 x.1.rev, .int .i64 x.1.life, .string x.1.note, x.2] 47) = W := ⟨_, rfl⟩
        rw [hVc] at hpc HBac hrowc HQac
        clear hbc
        have hnqc : some B ≠ (Value.slice Av (stW l q k).length cv).ownBlock := fun e => by
          obtain ⟨cs, fr, h2⟩ := hrowc.block B e.symm
          have := (hrowc.lt B e.symm).1
          omega
        go_wp2_with (at_builtin; refine wpList_append_tab rfl _ _ rfl (B + 1) _ (stW l q k) rfl hrowc (some ⟨V.heap.size, 0, none⟩) 1 1 [x] rfl hpc (HSx.out) (by have := HLEN.out; (try simp only [List.length_append, List.length_singleton]); omega) (by have := HBac.out.size; have := Blk.lt HQac.out; omega) ?_)
        intro vc Uc hrc hgc
        have hltc := hrowc.lt
        have HBc : Hid (Below w.heap.size w Uc) := HBac.out.grown hgc HBac.out.size (fun g hg => by have := (hltc g hg).1; have := HBE.out; omega)
        have HQc := Lib.hid (Blk.kept HQac.out hgc hnqc)
        have HRc := Lib.hid hrc
        clear hrc hgc hrowc hpc hltc hnqc
        go_wp2_with fail
        go_roundw
        case rel => exact ⟨k + 1, _, rfl, by omega, by go_num, by rw [E.out.2], by rw [E.out.1]; exact HRc.out, HQc.out, HBc.out⟩
        case measure => simp [intOf]; omega
      | false =>
        cases hx : ltB q.1.key x.1.key with
        | true =>
          have E := Lib.hid (HNW.out hd hx)
          rw [hx] at hcmp
          clear hd hx HD HNW HNO
          obtain ⟨x0, x1, x2, x3, x4, x5⟩ := RcAt.below (show RcAt w b (off + k * 6) x.1 x.2 from HPX.out) HB.out
          have q0 := Blk.cell HQ.out 0
          have q1 := Blk.cell HQ.out 1
          have q2 := Blk.cell HQ.out 2
          have q3 := Blk.cell HQ.out 3
          have q4 := Blk.cell HQ.out 4
          have q5 := Blk.cell HQ.out 5
          simp only [List.getElem?_toArray, List.getElem?_cons_zero, List.getElem?_cons_succ] at q0 q1 q2 q3 q4 q5
          go_wp2_with fail
          go_quiet (fail)
          clear x0 x1 x2 x3 x4 x5 q0 q1 q2 q3 q4 q5 hcmp
          have hbv : Below wr.heap.size wr (wr.drewN nq) := bdn (Below.refl _ _) _
          have HRV := Lib.hid (HROW.out.below hbv)
          have HQV := Lib.hid (Blk.below HQ.out hbv)
          have HBV := Lib.hid (bch HB.out hbv)
          obtain ⟨V, hV⟩ : ∃ V, wr.drewN nq = V := ⟨_, rfl⟩
          rw [hV] at HRV HQV HBV ⊢
          clear hV hbv
          have q0 := Blk.cell HQV.out 0
          have q1 := Blk.cell HQV.out 1
          have q2 := Blk.cell HQV.out 2
          have q3 := Blk.cell HQV.out 3
          have q4 := Blk.cell HQV.out 4
          have q5 := Blk.cell HQV.out 5
          simp only [List.getElem?_toArray, List.getElem?_cons_zero, List.getElem?_cons_succ] at q0 q1 q2 q3 q4 q5
          have hbc : Below V.heap.size V (V.alloc (.cells #[.string q.1.key, .string q.1.value, .int .i64 q.1.rev, .int .i64 q.1.life, .string q.1.note, q.2] 47)) := (Below.refl _ _).alloc (Nat.le_refl _) _
          have hpc := isPs_one V q
          have HBac := Lib.hid (bch HBV.out hbc)
          have hrowc := HRV.out.below hbc
          have HQac := Lib.hid (HQV.out.below hbc)
          obtain ⟨Vc, hVc⟩ : ∃ W, V.alloc (.cells #[.string q.1.key, .string q.1.value, .int .i64 q.1.rev, .int .i64 q.1.life, .string q.1.note, q.2] 47) = W := ⟨_, rfl⟩
          rw [hVc] at hpc HBac hrowc HQac
          clear hbc
          have hnqc : some B ≠ (Value.slice Av (stW l q k).length cv).ownBlock := fun e => by
            obtain ⟨cs, fr, h2⟩ := hrowc.block B e.symm
            have := (hrowc.lt B e.symm).1
            omega
          go_wp2_with (at_builtin; refine wpList_append_tab rfl _ _ rfl (B + 1) _ (stW l q k) rfl hrowc (some ⟨V.heap.size, 0, none⟩) 1 1 [q] rfl hpc (HSq.out) (by have := HLEN.out; (try simp only [List.length_append, List.length_singleton]); omega) (by have := HBac.out.size; have := Blk.lt HQac.out; omega) ?_)
          intro vc Uc hrc hgc
          have hltc := hrowc.lt
          have HBc : Hid (Below w.heap.size w Uc) := HBac.out.grown hgc HBac.out.size (fun g hg => by have := (hltc g hg).1; have := HBE.out; omega)
          have HQc := Lib.hid (Blk.kept HQac.out hgc hnqc)
          have HRc := Lib.hid hrc
          clear hrc hgc hrowc hpc hltc hnqc
          obtain ⟨Ac, cc, hvc, hcc, _⟩ := HRc.out.parts
          rw [List.length_append, List.length_singleton] at hvc
          subst hvc
          obtain ⟨x0, x1, x2, x3, x4, x5⟩ := RcAt.below (show RcAt w b (off + k * 6) x.1 x.2 from HPX.out) HBc.out
          have hbd : Below Uc.heap.size Uc (Uc.alloc (.cells #[.string x.1.key, .string x.1.value, .int .i64 x.1.rev, .int .i64 x.1.life, .string x.1.note, x.2] 47)) := (Below.refl _ _).alloc (Nat.le_refl _) _
          have hpd := isPs_one Uc x
          have HBad := Lib.hid (bch HBc.out hbd)
          have hrowd := HRc.out.below hbd
          have HQad := Lib.hid (HQc.out.below hbd)
          obtain ⟨Vd, hVd⟩ : ∃ W, Uc.alloc (.cells #[.string x.1.key, .string x.1.value, .int .i64 x.1.rev, .int .i64 x.1.life, .string x.1.note, x.2] 47) = W := ⟨_, rfl⟩
          rw [hVd] at hpd HBad hrowd HQad
          clear hbd
          have hnqd : some B ≠ (Value.slice Ac ((stW l q k).length + 1) cc).ownBlock := fun e => by
            obtain ⟨cs, fr, h2⟩ := hrowd.block B e.symm
            have := (hrowd.lt B e.symm).1
            omega
          go_wp2_with (at_builtin; refine wpList_append_tab rfl _ _ rfl (B + 1) _ (stW l q k ++ [q]) rfl hrowd (some ⟨Uc.heap.size, 0, none⟩) 1 1 [x] rfl hpd (HSx.out) (by have := HLEN.out; (try simp only [List.length_append, List.length_singleton]); omega) (by have := HBad.out.size; have := Blk.lt HQad.out; omega) ?_)
          intro vd Ud hrd hgd
          have hltd := hrowd.lt
          have HBd : Hid (Below w.heap.size w Ud) := HBad.out.grown hgd HBad.out.size (fun g hg => by have := (hltd g hg).1; have := HBE.out; omega)
          have HQd := Lib.hid (Blk.kept HQad.out hgd hnqd)
          have HRd := Lib.hid hrd
          clear hrd hgd hrowd hpd hltd hnqd
          go_wp2_with fail
          go_roundw
          case rel => exact ⟨k + 1, _, rfl, by omega, by go_num, by rw [E.out.2], by rw [E.out.1, List.append_assoc]; exact HRd.out, HQd.out, HBd.out⟩
          case measure => simp [intOf]; omega
        | false =>
          have E := Lib.hid (HNO.out hd hx)
          rw [hx] at hcmp
          clear hd hx HD HNW HNO
          obtain ⟨x0, x1, x2, x3, x4, x5⟩ := RcAt.below (show RcAt w b (off + k * 6) x.1 x.2 from HPX.out) HB.out
          have q0 := Blk.cell HQ.out 0
          have q1 := Blk.cell HQ.out 1
          have q2 := Blk.cell HQ.out 2
          have q3 := Blk.cell HQ.out 3
          have q4 := Blk.cell HQ.out 4
          have q5 := Blk.cell HQ.out 5
          simp only [List.getElem?_toArray, List.getElem?_cons_zero, List.getElem?_cons_succ] at q0 q1 q2 q3 q4 q5
          go_wp2_with fail
          go_quiet (fail)
          clear x0 x1 x2 x3 x4 x5 q0 q1 q2 q3 q4 q5 hcmp
          have hbv : Below wr.heap.size wr (wr.drewN nq) := bdn (Below.refl _ _) _
          have HRV := Lib.hid (HROW.out.below hbv)
          have HQV := Lib.hid (Blk.below HQ.out hbv)
          have HBV := Lib.hid (bch HB.out hbv)
          obtain ⟨V, hV⟩ : ∃ V, wr.drewN nq = V := ⟨_, rfl⟩
          rw [hV] at HRV HQV HBV ⊢
          clear hV hbv
          obtain ⟨x0, x1, x2, x3, x4, x5⟩ := RcAt.below (show RcAt w b (off + k * 6) x.1 x.2 from HPX.out) HBV.out
          have hbc : Below V.heap.size V (V.alloc (.cells #[.string x.1.key, .string x.1.value, .int .i64 x.1.rev, .int .i64 x.1.life, .string x.1.note, x.2] 47)) := (Below.refl _ _).alloc (Nat.le_refl _) _
          have hpc := isPs_one V x
          have HBac := Lib.hid (bch HBV.out hbc)
          have hrowc := HRV.out.below hbc
          have HQac := Lib.hid (HQV.out.below hbc)
          obtain ⟨Vc, hVc⟩ : ∃ W, V.alloc (.cells #[.string x.1.key, .string x.1.value, .int .i64 x.1.rev, .int .i64 x.1.life, .string x.1.note, x.2] 47) = W := ⟨_, rfl⟩
          rw [hVc] at hpc HBac hrowc HQac
          clear hbc
          have hnqc : some B ≠ (Value.slice Av (stW l q k).length cv).ownBlock := fun e => by
            obtain ⟨cs, fr, h2⟩ := hrowc.block B e.symm
            have := (hrowc.lt B e.symm).1
            omega
          go_wp2_with (at_builtin; refine wpList_append_tab rfl _ _ rfl (B + 1) _ (stW l q k) rfl hrowc (some ⟨V.heap.size, 0, none⟩) 1 1 [x] rfl hpc (HSx.out) (by have := HLEN.out; (try simp only [List.length_append, List.length_singleton]); omega) (by have := HBac.out.size; have := Blk.lt HQac.out; omega) ?_)
          intro vc Uc hrc hgc
          have hltc := hrowc.lt
          have HBc : Hid (Below w.heap.size w Uc) := HBac.out.grown hgc HBac.out.size (fun g hg => by have := (hltc g hg).1; have := HBE.out; omega)
          have HQc := Lib.hid (Blk.kept HQac.out hgc hnqc)
          have HRc := Lib.hid hrc
          clear hrc hgc hrowc hpc hltc hnqc
          go_wp2_with fail
          go_roundw
          case rel => exact ⟨k + 1, _, rfl, by omega, by go_num, by rw [E.out.2], by rw [E.out.1]; exact HRc.out, HQc.out, HBc.out⟩
          case measure => simp [intOf]; omega
    · have hki : ¬ ((k : Int) < (n : Int)) := by omega
      have HEN : Hid (insP l q = if gtP (l.take k) q then stW l q k else stW l q k ++ [q]) := stW_end (by have := HN.out; omega)
      have hkn : k + 1 ≤ n + 1 := by omega
      clear hlt
      cases hd : gtP (l.take k) q with
      | true =>
        rw [hd, if_pos rfl] at HEN
        go_wp2_with fail
        go_ret
        exact ⟨_, rfl, by rw [HEN.out]; exact HROW.out.base (by have := HBE.out; omega), HB.out⟩
      | false =>
        rw [hd, if_neg (by simp)] at HEN
        have q0 := Blk.cell HQ.out 0
        have q1 := Blk.cell HQ.out 1
        have q2 := Blk.cell HQ.out 2
        have q3 := Blk.cell HQ.out 3
        have q4 := Blk.cell HQ.out 4
        have q5 := Blk.cell HQ.out 5
        simp only [List.getElem?_toArray, List.getElem?_cons_zero, List.getElem?_cons_succ] at q0 q1 q2 q3 q4 q5
        have hbc : Below wr.heap.size wr (wr.alloc (.cells #[.string q.1.key, .string q.1.value, .int .i64 q.1.rev, .int .i64 q.1.life, .string q.1.note, q.2] 47)) := (Below.refl _ _).alloc (Nat.le_refl _) _
        have hpc := isPs_one wr q
        have HBac := Lib.hid (bch HB.out hbc)
        have hrowc := HROW.out.below hbc
        have HQac := Lib.hid (HQ.out.below hbc)
        obtain ⟨Vc, hVc⟩ : ∃ W, wr.alloc (.cells #[.string q.1.key, .string q.1.value, .int .i64 q.1.rev, .int .i64 q.1.life, .string q.1.note, q.2] 47) = W := ⟨_, rfl⟩
        rw [hVc] at hpc HBac hrowc HQac
        clear hbc
        have hnqc : some B ≠ (Value.slice Av (stW l q k).length cv).ownBlock := fun e => by
          obtain ⟨cs, fr, h2⟩ := hrowc.block B e.symm
          have := (hrowc.lt B e.symm).1
          omega
        go_wp2_with (at_builtin; refine wpList_append_tab rfl _ _ rfl (B + 1) _ (stW l q k) rfl hrowc (some ⟨wr.heap.size, 0, none⟩) 1 1 [q] rfl hpc (HSq.out) (by have := HLEN.out; (try simp only [List.length_append, List.length_singleton]); omega) (by have := HBac.out.size; have := Blk.lt HQac.out; omega) ?_)
        intro vc Uc hrc hgc
        have hltc := hrowc.lt
        have HBc : Hid (Below w.heap.size w Uc) := HBac.out.grown hgc HBac.out.size (fun g hg => by have := (hltc g hg).1; have := HBE.out; omega)
        have HQc := Lib.hid (Blk.kept HQac.out hgc hnqc)
        have HRc := Lib.hid hrc
        clear hrc hgc hrowc hpc hltc hnqc
        go_wp2_with fail
        go_ret
        exact ⟨_, rfl, by rw [HEN.out]; exact HRc.out.base (by have := HBE.out; omega), HBc.out⟩
end Go.Proofs.Ytpnkkiokkhmjpaa
