import Derived.Test.YtgckoihangccbaaRpLook
/-
  The contract of the document's own Keep of caches (stage 13).
-/
namespace Go.Proofs.Ytgckoihangccbaa
open Go.RowKit
set_option linter.unusedVariables false
set_option linter.unusedSimpArgs false

/-- Is a client greater? How far Keep is. -/
def gD (l : List DnR) (x : DnR) : Bool := l.any fun y => decide (x.client < y.client)
def sD (l : List DnR) (x : DnR) : List DnR := if gD l x then insD l x else l
theorem insD_no {a : List DnR} {x : DnR} (h : gD a x = false) (b : List DnR) : insD (a ++ b) x = a ++ insD b x := by
  induction a with
  | nil => rfl
  | cons y a ih =>
    unfold gD at h
    rw [List.any_cons, Bool.or_eq_false_iff] at h
    have h1 : ¬ x.client < y.client := by simpa using h.1
    rw [List.cons_append, insD, if_neg h1, ih h.2]; rfl
theorem insD_yes {a : List DnR} {x : DnR} (h : gD a x = true) (b : List DnR) : insD (a ++ b) x = insD a x ++ b := by
  induction a with
  | nil => cases h
  | cons y a ih =>
    unfold gD at h
    rw [List.any_cons, Bool.or_eq_true] at h
    rw [List.cons_append, insD, insD]
    by_cases hx : x.client < y.client
    · rw [if_pos hx, if_pos hx]; rfl
    · rw [if_neg hx, if_neg hx, ih (h.resolve_left (by simpa using hx))]; rfl
theorem gD_snoc (a : List DnR) (x y : DnR) : gD (a ++ [y]) x = (gD a x || decide (x.client < y.client)) := by simp [gD]
theorem sD_done {a : List DnR} {x y : DnR} (h : gD a x = true) : sD (a ++ [y]) x = sD a x ++ [y] ∧ gD (a ++ [y]) x = true := by
  have e : gD (a ++ [y]) x = true := by rw [gD_snoc, h]; rfl
  refine ⟨?_, e⟩
  unfold sD
  rw [if_pos e, if_pos h, insD_yes h]
theorem sD_now {a : List DnR} {x y : DnR} (h : gD a x = false) (hl : x.client < y.client) : sD (a ++ [y]) x = sD a x ++ [x] ++ [y] ∧ gD (a ++ [y]) x = true := by
  have e : gD (a ++ [y]) x = true := by rw [gD_snoc, decide_eq_true hl]; simp
  refine ⟨?_, e⟩
  unfold sD
  rw [if_pos e, if_neg (by rw [h]; simp), insD_no h]
  simp [insD, hl]
theorem sD_no {a : List DnR} {x y : DnR} (h : gD a x = false) (hl : ¬ x.client < y.client) : sD (a ++ [y]) x = sD a x ++ [y] ∧ gD (a ++ [y]) x = false := by
  have e : gD (a ++ [y]) x = false := by rw [gD_snoc, h, decide_eq_false hl]; rfl
  refine ⟨?_, e⟩
  unfold sD
  rw [if_neg (by rw [e]; simp), if_neg (by rw [h]; simp)]
theorem sD_end (a : List DnR) (x : DnR) : insD a x = if gD a x then sD a x else sD a x ++ [x] := by
  unfold sD
  cases h : gD a x with
  | true => simp
  | false =>
    have := insD_no h []
    rw [List.append_nil] at this
    simpa [insD] using this
theorem restD_skip {l : List DnR} {c : Int} {k : Nat} (hk : k < l.length) (h : (atD l k).client = c) : restD (l.take (k + 1)) c = restD (l.take k) c := by
  rw [take_succD hk]; unfold restD; rw [List.filter_append]; simp [h]
theorem restD_step {l : List DnR} {c : Int} {k : Nat} (hk : k < l.length) (h : (atD l k).client ≠ c) : restD (l.take (k + 1)) c = restD (l.take k) c ++ [atD l k] := by
  rw [take_succD hk]; unfold restD; rw [List.filter_append]; simp [h]
theorem restD_le (l : List DnR) (c : Int) : (restD l c).length ≤ l.length := List.length_filter_le _ _
theorem look_num (l : List DnR) (c i : Int) : (lookL l c i).2 = 1 ∨ (lookL l c i).2 = 0 ∨ (lookL l c i).2 = 81 ∨ (lookL l c i).2 = 70 := by
  unfold lookL tellD
  split
  · exact .inl rfl
  · split
    · exact .inr (.inr (.inr rfl))
    · split
      · exact .inr (.inr (.inr rfl))
      · split
        · exact .inr (.inr (.inl rfl))
        · exact .inr (.inl rfl)
theorem RowK.strT {w : World} {base n cap : Nat} {A : Option Addr} {l : List ByteArray} (h : RowK w base (.slice A n cap) l) : StrT w A n := fun hn => by
  rcases h.2 with ⟨h1, h2⟩ | ⟨g, cp, cur, h1, h2, hh, _⟩
  · simp at h1; omega
  · simp only [Value.slice.injEq] at h1
    exact ⟨g, 0, _, _, h1.1, hh⟩
/-- A call's block gets another reply. -/
theorem dn_put13 {W : World} {g : Nat} {a b c d e f : Value} {T : TypeId} (h : Blk W g (.cells #[a, b, c, d, e, f] T (0, 0))) (x y z u : Value) :
    Blk ((((W.setCell ⟨g, 2, none⟩ x).setCell ⟨g, 3, none⟩ y).setCell ⟨g, 4, none⟩ z).setCell ⟨g, 5, none⟩ u) g (.cells #[a, b, x, y, z, u] T (0, 0)) :=
  Blk.set (Blk.set (Blk.set (Blk.set h 2 x #[a, b, x, d, e, f] rfl) 3 y #[a, b, x, y, e, f] rfl) 4 z #[a, b, x, y, z, f] rfl) 5 u #[a, b, x, y, z, u] rfl
theorem below_rep13 {w W : World} {B g : Nat} (h : Below B w W) (hg : B ≤ g) (x y z u : Value) : Below B w ((((W.setCell ⟨g, 2, none⟩ x).setCell ⟨g, 3, none⟩ y).setCell ⟨g, 4, none⟩ z).setCell ⟨g, 5, none⟩ u) :=
  (((h.setCell (p := ⟨g, 2, none⟩) hg _).setCell (p := ⟨g, 3, none⟩) hg _).setCell (p := ⟨g, 4, none⟩) hg _).setCell (p := ⟨g, 5, none⟩) hg _
set_option maxRecDepth 100000 in
set_option maxHeartbeats 8000000 in
theorem refkeep_any (l : List DnR) (c i : Int) (r : RepR) (A K : Option Addr) (n cap k kc : Nat) (w : World) (h : IsDs w A n l) (h72 : n * 72 ≤ 140737488351232) (hc : (Lit.int .i64 c).wf = true) (hi : (Lit.int .i64 i).wf = true) (hr : RpW r) (hs : IsSs w K k r.keys) (h16 : k * 16 ≤ 140737488351232) :
    Calls Try.prog 18 #[.slice A n cap, .int .i64 c, .int .i64 i, rpV r (.slice K k kc)] w (KeepPost w (keepL l c i r).1 (keepL l c i r).2) := by
  have hn9 := h.2.1
  unfold maxLen at hn9
  have HN : Hid (n = l.length) := h.1
  have HKN : Hid (k = r.keys.length) := hs.1
  have hs2 := hs.2.2.1
  have HDW : Hid (DnW ⟨c, i, r⟩) := ⟨hc, hi, hr, by show r.keys.length * 16 ≤ _; have := HKN.out; omega⟩
  have hb0 : Below w.heap.size w (w.alloc (.cells #[.int .i64 r.errno, .int .i64 r.rev, .string r.value, .slice K k kc] 31)) := (Below.refl _ _).alloc (Nat.le_refl _) _
  have hx0 := Blk.new w (.cells #[.int .i64 r.errno, .int .i64 r.rev, .string r.value, .slice K k kc] 31)
  have hts := h.below hb0
  have hss := hs.below hb0
  obtain ⟨W0, hW0⟩ : ∃ W, w.alloc (.cells #[.int .i64 r.errno, .int .i64 r.rev, .string r.value, .slice K k kc] 31) = W := ⟨_, rfl⟩
  rw [hW0] at hb0 hx0 hts hss
  have HT := Lib.hid hts; clear hts h
  have HS := Lib.hid hss; clear hss hs
  have HX := Lib.hid hx0; clear hx0
  have HB := Lib.hid hb0; clear hb0
  have HW : Hid (w.heap.size < W0.heap.size) := Blk.lt HX.out
  have q := reflook_any l c i A n cap W0 HT.out
  have h1 : Hid ((lookL l c i).2 = 1 → keepL l c i r = ([], 1)) := fun e => by unfold keepL; rw [if_pos (.inl e)]
  have h2 : Hid ((lookL l c i).2 = 0 → keepL l c i r = ([], 1)) := fun e => by unfold keepL; rw [if_pos (.inr (.inl e))]
  have h3 : Hid (¬ MayP r → keepL l c i r = ([], 1)) := fun e => by unfold keepL; rw [if_pos (.inr (.inr e))]
  have h4 : Hid ((lookL l c i).2 = 81 → MayP r → keepL l c i r = ([], 81)) := fun e m => by unfold keepL; rw [e, if_neg (by rintro (e | e | e); cases e; cases e; exact e m), if_pos rfl]
  have h5 : Hid ((lookL l c i).2 = 70 → MayP r → keepL l c i r = if 8 < (putD l c i r).length then ([], 50) else (putD l c i r, 0)) := fun e m => by unfold keepL; rw [e, if_neg (by rintro (e | e | e); cases e; cases e; exact e m), if_neg (by decide)]
  have HZ := Lib.hid (look_num l c i)
  generalize keepL l c i r = L at *
  generalize lookL l c i = LL at *
  obtain ⟨rp, z⟩ := LL
  simp only at q h1 h2 h4 h5 HZ
  unfold rpV
  go_enter Try.func18, Try.ntmps18
  go_wp2_with fail
  ((with_reducible refine q.mono ?_); rintro e W1 ⟨Kl, kl, kcl, rfl, _, _, b1⟩)
  clear q hW0
  have HX1 := Lib.hid (Blk.below HX.out b1)
  have HT1 := Lib.hid (HT.out.below b1)
  have HS1 := Lib.hid (HS.out.below b1)
  have HB1 := Lib.hid (bch HB.out b1); clear b1
  have HW1 : Hid (w.heap.size < W1.heap.size) := Blk.lt HX1.out
  clear HX HT HS HB HW
  try unfold rpV
  have hb2 : Below W1.heap.size W1 (W1.alloc (.cells #[.int .i64 rp.errno, .int .i64 rp.rev, .string rp.value, .slice Kl kl kcl] 31)) := (Below.refl _ _).alloc (Nat.le_refl _) _
  have HX2 := Lib.hid (Blk.below HX1.out hb2)
  have HT2 := Lib.hid (HT1.out.below hb2)
  have HS2 := Lib.hid (HS1.out.below hb2)
  have HB2 := Lib.hid (bch HB1.out hb2); clear hb2
  clear HX1 HT1 HS1
  go_upto_region 2 with fail
  obtain ⟨W2, hW2⟩ : ∃ W, W1.alloc (.cells #[.int .i64 rp.errno, .int .i64 rp.rev, .string rp.value, .slice Kl kl kcl] 31) = W := ⟨_, rfl⟩
  rw [hW2] at HX2 HT2 HS2 HB2 ⊢
  clear hW2
  have q := refmay_any r K k kc W2 HS2.out
  unfold rpV at q
  have q0 := Blk.cell HX2.out 0
  have q1 := Blk.cell HX2.out 1
  have q2 := Blk.cell HX2.out 2
  have q3 := Blk.cell HX2.out 3
  simp only [List.getElem?_toArray, List.getElem?_cons_zero, List.getElem?_cons_succ] at q0 q1 q2 q3
  go_wp2_with fail
  ((with_reducible refine q.mono ?_); rintro e W3 ⟨rfl, b3⟩)
  clear q q0 q1 q2 q3
  have HX3 := Lib.hid (Blk.below HX2.out b3)
  have HT3 := Lib.hid (HT2.out.below b3)
  have HS3 := Lib.hid (HS2.out.below b3)
  have HB3 := Lib.hid (bch HB2.out b3); clear b3
  clear HX2 HT2 HS2 HB2 HB1 HW1
  have HM : Hid (∀ b, mayRB r = b → (b = true ↔ MayP r)) := fun b hb => by rw [← hb]; unfold mayRB; simp
  obtain ⟨b, hb⟩ : ∃ b, mayRB r = b := ⟨_, rfl⟩
  have HMB := Lib.hid (HM.out b hb)
  rw [hb]
  clear hb HM
  rcases HZ.out with hz | hz | hz | hz
  · have HE := Lib.hid (h1.out hz); clear h1 h2 h3 h4 h5 HZ HMB
    subst hz
    cases b <;> (go_wp2_with fail)
    all_goals refine bodyPost_ret (v := .tuple #[.slice none 0 0, .int .i64 1]) (by simp [results, Try.results18, go_sem]) rfl ⟨none, 0, 0, by rw [HE.out]; rfl, Nat.le_refl _, by rw [HE.out]; exact isDs_nil _ _, HB3.out⟩
  · have HE := Lib.hid (h2.out hz); clear h1 h2 h3 h4 h5 HZ HMB
    subst hz
    cases b <;> (go_wp2_with fail)
    all_goals refine bodyPost_ret (v := .tuple #[.slice none 0 0, .int .i64 1]) (by simp [results, Try.results18, go_sem]) rfl ⟨none, 0, 0, by rw [HE.out]; rfl, Nat.le_refl _, by rw [HE.out]; exact isDs_nil _ _, HB3.out⟩
  · cases b with
    | false =>
      have HE := Lib.hid (h3.out fun m => by have := HMB.out.2 m; cases this)
      clear h1 h2 h3 h4 h5 HZ HMB
      subst hz
      go_wp2_with fail
      refine bodyPost_ret (v := .tuple #[.slice none 0 0, .int .i64 1]) (by simp [results, Try.results18, go_sem]) rfl ⟨none, 0, 0, by rw [HE.out]; rfl, Nat.le_refl _, by rw [HE.out]; exact isDs_nil _ _, HB3.out⟩
    | true =>
      have HE := Lib.hid (h4.out hz (HMB.out.1 rfl))
      clear h1 h2 h3 h4 h5 HZ HMB
      subst hz
      go_wp2_with fail
      refine bodyPost_ret (v := .tuple #[.slice none 0 0, .int .i64 81]) (by simp [results, Try.results18, go_sem]) rfl ⟨none, 0, 0, by rw [HE.out]; rfl, Nat.le_refl _, by rw [HE.out]; exact isDs_nil _ _, HB3.out⟩
  cases b with
  | false =>
    have HE := Lib.hid (h3.out fun m => by have := HMB.out.2 m; cases this)
    clear h1 h2 h3 h4 h5 HZ HMB
    subst hz
    go_wp2_with fail
    refine bodyPost_ret (v := .tuple #[.slice none 0 0, .int .i64 1]) (by simp [results, Try.results18, go_sem]) rfl ⟨none, 0, 0, by rw [HE.out]; rfl, Nat.le_refl _, by rw [HE.out]; exact isDs_nil _ _, HB3.out⟩
  | true =>
  have HE := Lib.hid (h5.out hz (HMB.out.1 rfl))
  clear h1 h2 h3 h4 h5 HZ HMB
  subst hz
  have q := refown13_any r K k kc W3 HS3.out h16
  unfold rpV at q
  have HX3' := HX3.out
  have q0 := Blk.cell HX3' 0
  have q1 := Blk.cell HX3' 1
  have q2 := Blk.cell HX3' 2
  have q3 := Blk.cell HX3' 3
  simp only [List.getElem?_toArray, List.getElem?_cons_zero, List.getElem?_cons_succ] at q0 q1 q2 q3
  clear HX3'
  go_wp2_with fail
  ((with_reducible refine q.mono ?_); rintro e W4 ⟨Ax, nx, cx, rfl, hcx, hnx, hrow, b4⟩)
  clear q q0 q1 q2 q3
  subst hnx
  have HT4 := Lib.hid (HT3.out.below b4)
  have HB4 := Lib.hid (bch HB3.out b4); clear b4
  have HRX := Lib.hid hrow; clear hrow
  clear HX3 HS3 HT3 HB3
  try unfold rpV
  have hb5 : Below W4.heap.size W4 (W4.alloc (.cells #[.int .i64 c, .int .i64 i, .int .i64 r.errno, .int .i64 r.rev, .string r.value, .slice Ax r.keys.length cx] 45)) := (Below.refl _ _).alloc (Nat.le_refl _) _
  have hx5 := Blk.new W4 (.cells #[.int .i64 c, .int .i64 i, .int .i64 r.errno, .int .i64 r.rev, .string r.value, .slice Ax r.keys.length cx] 45)
  have hk5 : KyAt (W4.alloc (.cells #[.int .i64 c, .int .i64 i, .int .i64 r.errno, .int .i64 r.rev, .string r.value, .slice Ax r.keys.length cx] 45)) (⟨c, i, r⟩, .slice Ax r.keys.length cx) := by
    have h9 := HRX.out.below hb5
    obtain ⟨A9, c9, hv9, _, hs9⟩ := h9.isSs (show ∀ s ∈ r.keys, s.size ≤ maxLen from hs2)
    simp only [Value.slice.injEq, true_and] at hv9
    obtain ⟨rfl, rfl⟩ := hv9
    exact ⟨_, _, _, rfl, hcx, hs9, h9.strT⟩
  have ht5 := HT4.out.below hb5
  have hw5 := bch HB4.out hb5
  clear hb5
  have HS2 := Lib.hid hs2; clear hs2
  go_upto_region 9 with fail
  obtain ⟨W5, hW5⟩ : ∃ W, W4.alloc (.cells #[.int .i64 c, .int .i64 i, .int .i64 r.errno, .int .i64 r.rev, .string r.value, .slice Ax r.keys.length cx] 45) = W := ⟨_, rfl⟩
  rw [hW5] at hx5 hk5 ht5 hw5 ⊢
  clear hW5
  obtain ⟨B, hB⟩ : ∃ B, W4.heap.size = B := ⟨_, rfl⟩
  rw [hB] at hx5 ⊢
  clear hB
  have HX5 := Lib.hid hx5; clear hx5
  have HKX := Lib.hid hk5; clear hk5
  have HT5 := Lib.hid ht5; clear ht5
  have HB5 := Lib.hid hw5; clear hw5
  clear HT4 HB4 HRX
  go_wp2_with fail
  go_loopw [13, 15, 16] (fun v d x wy => ∃ (j : Nat) (wr : World) (ps : List (DnR × Value)), wr = wy ∧ j ≤ n ∧ x = .int .i64 j ∧ d = .bool (gD (restD (l.take j) c) ⟨c, i, r⟩) ∧ ps.map Prod.fst = sD (restD (l.take j) c) ⟨c, i, r⟩ ∧ RowD wr W5.heap.size v ps ∧ KyT wr ps ∧ Below W5.heap.size W5 wr) (fun _ _ x _ => n - (intOf x).toNat)
  case atStart => exact ⟨0, _, [], rfl, by omega, rfl, rfl, rfl, rowD_nil _ _, KyT.nil _, Below.refl _ _⟩
  case round =>
    obtain ⟨j, wr, ps, rfl, hj, rfl, rfl, hmap, hrow, hky, hbw⟩ := hrel
    have HMAP := Lib.hid hmap; clear hmap
    have HROW := Lib.hid hrow; clear hrow
    have HKY := Lib.hid hky; clear hky
    have HBW := Lib.hid hbw; clear hbw
    have HLEN : Hid (ps.length ≤ j + 1) := by
      have e := congrArg List.length HMAP.out
      rw [List.length_map] at e
      have h9 := restD_le (l.take j) c
      rw [List.length_take] at h9
      show _ ≤ _
      unfold sD at e
      split at e
      · rw [insD_len] at e; omega
      · omega
    obtain ⟨Av, cv, hvcv, hcv, _⟩ := HROW.out.parts
    subst hvcv
    clear hcv
    by_cases hlt : j < n
    · have hji : (j : Int) < (n : Int) := by omega
      have hj0 : (0 : Int) ≤ (j : Int) := by omega
      have hjl : j < l.length := by have := HN.out; omega
      obtain ⟨b, off, hA, _⟩ := HT5.out.block (by omega)
      subst hA
      have hx6 : ∃ E m cc, (∀ W, Below W5.heap.size W5 W → DnAt W b (off + j * 6) (atD l j) (.slice E m cc)) ∧ m ≤ cc ∧ (∀ W, Below W5.heap.size W5 W → IsSs W E m (atD l j).rep.keys) := by
        obtain ⟨E, m, cc, hx, hmc, hss⟩ := HT5.out.at hjl (Below.refl _ _)
        exact ⟨E, m, cc, fun W hb => hx.below hb, hmc, fun W hb => hss.below hb⟩
      obtain ⟨E, m, cc, hxx, hmc, hss⟩ := hx6
      have hdd := HT5.out.2.2.1 _ (atD_mem hjl)
      have hskip : (atD l j).client = c → restD (l.take (j + 1)) c = restD (l.take j) c := restD_skip hjl
      have hstep : (atD l j).client ≠ c → restD (l.take (j + 1)) c = restD (l.take j) c ++ [atD l j] := restD_step hjl
      obtain ⟨d, hd⟩ : ∃ d, atD l j = d := ⟨_, rfl⟩
      rw [hd] at hxx hss hdd hskip hstep
      clear hd
      have HXX := Lib.hid hxx; clear hxx
      have HSS := Lib.hid hss; clear hss
      have HDD := Lib.hid hdd; clear hdd
      have HSKIP := Lib.hid hskip; clear hskip
      have HSTEP := Lib.hid hstep; clear hstep
      have HSZ : Hid (∀ s ∈ d.rep.keys, s.size ≤ maxLen) := (HSS.out W5 (Below.refl _ _)).2.2.1
      obtain ⟨G, hG⟩ : ∃ G, restD (l.take j) c = G := ⟨_, rfl⟩
      rw [hG] at HMAP HSKIP HSTEP ⊢
      clear hG
      obtain ⟨dn, hdn⟩ : ∃ b, gD G ⟨c, i, r⟩ = b := ⟨_, rfl⟩
      have HDN := Lib.hid hdn
      rw [hdn]
      clear hdn
      obtain ⟨x0, x1, x2, x3, x4, x5⟩ := HXX.out wr HBW.out
      by_cases hc : d.client = c
      · have e0 : (d.client == c) = true := by simpa using hc
        have HSK := Lib.hid (HSKIP.out hc); clear hc HSKIP HSTEP
        go_wp2_with fail
        go_roundw
        case rel => exact ⟨j + 1, _, ps, rfl, by omega, by go_num, by rw [HSK.out, HDN.out], by rw [HSK.out]; exact HMAP.out, HROW.out, HKY.out, HBW.out⟩
        case measure => simp [intOf]; omega
      have e0 : (d.client == c) = false := by simpa using hc
      have HST := Lib.hid (HSTEP.out hc); clear hc HSKIP HSTEP
      cases dn with
      | true =>
        have EE := Lib.hid (sD_done (y := d) HDN.out)
        go_upto_region 17 with fail
        clear x0 x1 x2 x3 x4 x5 e0
        have hyb : Below wr.heap.size wr (wr.alloc (.cells #[.int .i64 d.client, .int .i64 d.id, .int .i64 d.rep.errno, .int .i64 d.rep.rev, .string d.rep.value, .slice E m cc] 45)) := (Below.refl _ _).alloc (Nat.le_refl _) _
        have hy0 := Blk.new wr (.cells #[.int .i64 d.client, .int .i64 d.id, .int .i64 d.rep.errno, .int .i64 d.rep.rev, .string d.rep.value, .slice E m cc] 45)
        obtain ⟨x0, x1, x2, x3, x4, x5⟩ := HXX.out wr HBW.out
        have hys := (HSS.out wr HBW.out).below hyb
        have hwy : Below W5.heap.size W5 (wr.alloc (.cells #[.int .i64 d.client, .int .i64 d.id, .int .i64 d.rep.errno, .int .i64 d.rep.rev, .string d.rep.value, .slice E m cc] 45)) := HBW.out.alloc HBW.out.size _
        have HYB := Lib.hid hyb; clear hyb
        go_upto_region 18 with fail
        clear x0 x1 x2 x3 x4 x5
        obtain ⟨Y, hY⟩ : ∃ W, wr.alloc (.cells #[.int .i64 d.client, .int .i64 d.id, .int .i64 d.rep.errno, .int .i64 d.rep.rev, .string d.rep.value, .slice E m cc] 45) = W := ⟨_, rfl⟩
        have HY : Hid (Below wr.heap.size wr Y) := by rw [← hY]; exact HYB.out
        rw [hY] at hy0 hys hwy ⊢
        clear hY HYB
        obtain ⟨gy, hgy⟩ : ∃ g, wr.heap.size = g := ⟨_, rfl⟩
        have HGY := Lib.hid hgy
        rw [hgy] at hy0 ⊢
        clear hgy
        have HY0 := Lib.hid hy0; clear hy0
        have HWY := Lib.hid hwy; clear hwy
        have q := refown13_any d.rep E m cc Y hys (by have := HDD.out.2.2.2; have := hys.1; omega)
        clear hys
        unfold rpV at q
        have hyc := HY0.out
        have q0 := Blk.cell hyc 0
        have q1 := Blk.cell hyc 1
        have q2 := Blk.cell hyc 2
        have q3 := Blk.cell hyc 3
        have q4 := Blk.cell hyc 4
        have q5 := Blk.cell hyc 5
        simp only [List.getElem?_toArray, List.getElem?_cons_zero, List.getElem?_cons_succ] at q0 q1 q2 q3 q4 q5
        clear hyc
        go_wp2_with fail
        ((with_reducible refine q.mono ?_); rintro e Z ⟨Ay, ny, cy, rfl, hcy, hny, hrwy, bz⟩)
        clear q q0 q1 q2 q3 q4 q5
        subst hny
        try unfold rpV
        have hz0 := Blk.below HY0.out bz
        have HBZ := Lib.hid (HY.out.trans (bz.mono HY.out.size))
        have HWZ := Lib.hid (HWY.out.trans (bz.mono HWY.out.size))
        have HZK := Lib.hid hrwy; clear hrwy bz
        have z2 := Blk.cell hz0 2
        have z3 := Blk.cell hz0 3
        have z4 := Blk.cell hz0 4
        have z5 := Blk.cell hz0 5
        simp only [List.getElem?_toArray, List.getElem?_cons_zero, List.getElem?_cons_succ] at z2 z3 z4 z5
        have f2 := Blk.frozen hz0 2
        have f3 := Blk.frozen hz0 3
        have f4 := Blk.frozen hz0 4
        have f5 := Blk.frozen hz0 5
        have hfin := dn_put13 hz0 (.int .i64 d.rep.errno) (.int .i64 d.rep.rev) (.string d.rep.value) (.slice Ay d.rep.keys.length cy)
        have hbf := below_rep13 (g := gy) HBZ.out (by have := HGY.out; omega) (.int .i64 d.rep.errno) (.int .i64 d.rep.rev) (.string d.rep.value) (.slice Ay d.rep.keys.length cy)
        have hwf := below_rep13 (g := gy) HWZ.out (by have := HGY.out; have := HBW.out.size; omega) (.int .i64 d.rep.errno) (.int .i64 d.rep.rev) (.string d.rep.value) (.slice Ay d.rep.keys.length cy)
        have hne : some gy ≠ (Value.slice Ay d.rep.keys.length cy).ownBlock := fun e => by have := (HZK.out.lt _ e.symm).1; have := Blk.lt HY0.out; omega
        have hkf : RowK ((((Z.setCell ⟨gy, 2, none⟩ (.int .i64 d.rep.errno)).setCell ⟨gy, 3, none⟩ (.int .i64 d.rep.rev)).setCell ⟨gy, 4, none⟩ (.string d.rep.value)).setCell ⟨gy, 5, none⟩ (.slice Ay d.rep.keys.length cy)) Y.heap.size (.slice Ay d.rep.keys.length cy) d.rep.keys := rowK_far13 (rowK_far13 (rowK_far13 (rowK_far13 HZK.out hne) hne) hne) hne
        have HFIN := Lib.hid hfin; clear hfin
        have HBF := Lib.hid hbf; clear hbf
        have HWF := Lib.hid hwf; clear hwf
        have HKF := Lib.hid hkf; clear hkf hz0 hne
        go_upto_region 19 with fail
        clear z2 z3 z4 z5 f2 f3 f4 f5
        obtain ⟨T, hT⟩ : ∃ W, (((Z.setCell ⟨gy, 2, none⟩ (.int .i64 d.rep.errno)).setCell ⟨gy, 3, none⟩ (.int .i64 d.rep.rev)).setCell ⟨gy, 4, none⟩ (.string d.rep.value)).setCell ⟨gy, 5, none⟩ (.slice Ay d.rep.keys.length cy) = W := ⟨_, rfl⟩
        rw [hT] at HFIN HBF HWF HKF ⊢
        clear hT HBZ HWZ HZK HY HWY HY0
        have HRT := Lib.hid (HROW.out.below HBF.out)
        have HKT := Lib.hid (HKY.out.below HBF.out)
        have hkt : KyAt T (d, .slice Ay d.rep.keys.length cy) := by
          obtain ⟨A9, c9, hv9, _, hs9⟩ := HKF.out.isSs (HSZ.out)
          simp only [Value.slice.injEq, true_and] at hv9
          obtain ⟨rfl, rfl⟩ := hv9
          exact ⟨_, _, _, rfl, hcy, hs9, HKF.out.strT⟩
        have HKYT := Lib.hid hkt; clear hkt HKF
        have hfc := HFIN.out
        have q0 := Blk.cell hfc 0
        have q1 := Blk.cell hfc 1
        have q2 := Blk.cell hfc 2
        have q3 := Blk.cell hfc 3
        have q4 := Blk.cell hfc 4
        have q5 := Blk.cell hfc 5
        simp only [List.getElem?_toArray, List.getElem?_cons_zero, List.getElem?_cons_succ] at q0 q1 q2 q3 q4 q5
        clear hfc
        have hby : Below T.heap.size T (T.alloc (.cells #[.int .i64 d.client, .int .i64 d.id, .int .i64 d.rep.errno, .int .i64 d.rep.rev, .string d.rep.value, .slice Ay d.rep.keys.length cy] 45)) := (Below.refl _ _).alloc (Nat.le_refl _) _
        have hqy : IsQs (T.alloc (.cells #[.int .i64 d.client, .int .i64 d.id, .int .i64 d.rep.errno, .int .i64 d.rep.rev, .string d.rep.value, .slice Ay d.rep.keys.length cy] 45)) (some ⟨T.heap.size, 0, none⟩) 1 [(d, .slice Ay d.rep.keys.length cy)] := isQs_one T (d, .slice Ay d.rep.keys.length cy)
        have hway : Below W5.heap.size W5 (T.alloc (.cells #[.int .i64 d.client, .int .i64 d.id, .int .i64 d.rep.errno, .int .i64 d.rep.rev, .string d.rep.value, .slice Ay d.rep.keys.length cy] 45)) := HWF.out.alloc HWF.out.size _
        have hray := HRT.out.below hby
        have hkay := HKT.out.below hby
        have hpay := KyAt.below HKYT.out hby
        clear hby
        obtain ⟨Vy, hVy⟩ : ∃ W, T.alloc (.cells #[.int .i64 d.client, .int .i64 d.id, .int .i64 d.rep.errno, .int .i64 d.rep.rev, .string d.rep.value, .slice Ay d.rep.keys.length cy] 45) = W := ⟨_, rfl⟩
        rw [hVy] at hqy hway hray hkay hpay
        have HQy := Lib.hid hqy; clear hqy
        have HWAy := Lib.hid hway; clear hway
        have HRAy := Lib.hid hray; clear hray
        have HKAy := Lib.hid hkay; clear hkay
        have HPAy := Lib.hid hpay; clear hpay
        have HSLy : Hid (SlD [(d, .slice Ay d.rep.keys.length cy)]) := fun x hx => by rw [List.mem_singleton] at hx; rw [hx]; exact ⟨_, _, _, rfl⟩
        go_wp2_with (at_builtin; refine wpList_append_dn rfl _ _ rfl W5.heap.size _ (ps) rfl HRAy.out (some ⟨T.heap.size, 0, none⟩) 1 1 [(d, .slice Ay d.rep.keys.length cy)] rfl HQy.out HSLy.out (by have := HLEN.out; (try simp only [List.length_append, List.length_singleton] at this ⊢); omega) HWAy.out.size ?_)
        intro vy Uy hry hgy
        have HWy : Hid (Below W5.heap.size W5 Uy) := HWAy.out.grown hgy HWAy.out.size (fun g hg => (HRAy.out.lt g hg).1)
        have HKy : Hid (KyT Uy (ps ++ [(d, .slice Ay d.rep.keys.length cy)])) := KyT.append (HKAy.out.kept hgy HRAy.out.block) (KyT.one HDD.out (HPAy.out.kept hgy HRAy.out.block))
        have HRy := Lib.hid hry
        clear hry hgy HRAy HKAy HPAy HQy HWAy HSLy hVy
        clear q0 q1 q2 q3 q4 q5
        go_wp2_with fail
        go_roundw
        case rel => exact ⟨j + 1, _, _, rfl, by omega, by go_num, by rw [HST.out, EE.out.2], by rw [HST.out, EE.out.1, ← HMAP.out, List.map_append]; rfl, HRy.out, HKy.out, HWy.out⟩
        case measure => simp [intOf]; omega
      | false =>
        by_cases hgt : c < d.client
        · have EE := Lib.hid (sD_now (x := ⟨c, i, r⟩) (y := d) HDN.out hgt)
          go_upto_region 15 with fail
          clear x0 x1 x2 x3 x4 x5 e0
          have hxb := Blk.below HX5.out HBW.out
          have q0 := Blk.cell hxb 0
          have q1 := Blk.cell hxb 1
          have q2 := Blk.cell hxb 2
          have q3 := Blk.cell hxb 3
          have q4 := Blk.cell hxb 4
          have q5 := Blk.cell hxb 5
          simp only [List.getElem?_toArray, List.getElem?_cons_zero, List.getElem?_cons_succ] at q0 q1 q2 q3 q4 q5
          clear hxb
          have hbq : Below wr.heap.size wr (wr.alloc (.cells #[.int .i64 c, .int .i64 i, .int .i64 r.errno, .int .i64 r.rev, .string r.value, .slice Ax r.keys.length cx] 45)) := (Below.refl _ _).alloc (Nat.le_refl _) _
          have hqq : IsQs (wr.alloc (.cells #[.int .i64 c, .int .i64 i, .int .i64 r.errno, .int .i64 r.rev, .string r.value, .slice Ax r.keys.length cx] 45)) (some ⟨wr.heap.size, 0, none⟩) 1 [((⟨c, i, r⟩ : DnR), (.slice Ax r.keys.length cx : Value))] := isQs_one wr ((⟨c, i, r⟩ : DnR), (.slice Ax r.keys.length cx : Value))
          have hwaq : Below W5.heap.size W5 (wr.alloc (.cells #[.int .i64 c, .int .i64 i, .int .i64 r.errno, .int .i64 r.rev, .string r.value, .slice Ax r.keys.length cx] 45)) := HBW.out.alloc HBW.out.size _
          have hraq := HROW.out.below hbq
          have hkaq := HKY.out.below hbq
          have hpaq := KyAt.below (KyAt.below HKX.out HBW.out) hbq
          clear hbq
          obtain ⟨Vq, hVq⟩ : ∃ W, wr.alloc (.cells #[.int .i64 c, .int .i64 i, .int .i64 r.errno, .int .i64 r.rev, .string r.value, .slice Ax r.keys.length cx] 45) = W := ⟨_, rfl⟩
          rw [hVq] at hqq hwaq hraq hkaq hpaq
          have HQq := Lib.hid hqq; clear hqq
          have HWAq := Lib.hid hwaq; clear hwaq
          have HRAq := Lib.hid hraq; clear hraq
          have HKAq := Lib.hid hkaq; clear hkaq
          have HPAq := Lib.hid hpaq; clear hpaq
          have HSLq : Hid (SlD [((⟨c, i, r⟩ : DnR), (.slice Ax r.keys.length cx : Value))]) := fun x hx => by rw [List.mem_singleton] at hx; rw [hx]; exact ⟨_, _, _, rfl⟩
          go_wp2_with (at_builtin; refine wpList_append_dn rfl _ _ rfl W5.heap.size _ (ps) rfl HRAq.out (some ⟨wr.heap.size, 0, none⟩) 1 1 [((⟨c, i, r⟩ : DnR), (.slice Ax r.keys.length cx : Value))] rfl HQq.out HSLq.out (by have := HLEN.out; (try simp only [List.length_append, List.length_singleton] at this ⊢); omega) HWAq.out.size ?_)
          intro vq Uq hrq hgq
          have HWq : Hid (Below W5.heap.size W5 Uq) := HWAq.out.grown hgq HWAq.out.size (fun g hg => (HRAq.out.lt g hg).1)
          have HKq : Hid (KyT Uq (ps ++ [((⟨c, i, r⟩ : DnR), (.slice Ax r.keys.length cx : Value))])) := KyT.append (HKAq.out.kept hgq HRAq.out.block) (KyT.one HDW.out (HPAq.out.kept hgq HRAq.out.block))
          have HRq := Lib.hid hrq
          clear hrq hgq HRAq HKAq HPAq HQq HWAq HSLq hVq
          clear q0 q1 q2 q3 q4 q5
          go_upto_region 17 with fail
          obtain ⟨Aq, cq, hvcq, hcq, _⟩ := HRq.out.parts
          rw [List.length_append, List.length_singleton] at hvcq
          subst hvcq
          clear hcq
          have HLEN0 := HLEN
          clear HLEN
          have HLEN : Hid ((ps ++ [((⟨c, i, r⟩ : DnR), (.slice Ax r.keys.length cx : Value))]).length ≤ j + 2) := by show _ ≤ _; rw [List.length_append]; have := HLEN0.out; simp; omega
          have hyb : Below Uq.heap.size Uq (Uq.alloc (.cells #[.int .i64 d.client, .int .i64 d.id, .int .i64 d.rep.errno, .int .i64 d.rep.rev, .string d.rep.value, .slice E m cc] 45)) := (Below.refl _ _).alloc (Nat.le_refl _) _
          have hy0 := Blk.new Uq (.cells #[.int .i64 d.client, .int .i64 d.id, .int .i64 d.rep.errno, .int .i64 d.rep.rev, .string d.rep.value, .slice E m cc] 45)
          obtain ⟨x0, x1, x2, x3, x4, x5⟩ := HXX.out Uq HWq.out
          have hys := (HSS.out Uq HWq.out).below hyb
          have hwy : Below W5.heap.size W5 (Uq.alloc (.cells #[.int .i64 d.client, .int .i64 d.id, .int .i64 d.rep.errno, .int .i64 d.rep.rev, .string d.rep.value, .slice E m cc] 45)) := HWq.out.alloc HWq.out.size _
          have HYB := Lib.hid hyb; clear hyb
          go_upto_region 18 with fail
          clear x0 x1 x2 x3 x4 x5
          obtain ⟨Y, hY⟩ : ∃ W, Uq.alloc (.cells #[.int .i64 d.client, .int .i64 d.id, .int .i64 d.rep.errno, .int .i64 d.rep.rev, .string d.rep.value, .slice E m cc] 45) = W := ⟨_, rfl⟩
          have HY : Hid (Below Uq.heap.size Uq Y) := by rw [← hY]; exact HYB.out
          rw [hY] at hy0 hys hwy ⊢
          clear hY HYB
          obtain ⟨gy, hgy⟩ : ∃ g, Uq.heap.size = g := ⟨_, rfl⟩
          have HGY := Lib.hid hgy
          rw [hgy] at hy0 ⊢
          clear hgy
          have HY0 := Lib.hid hy0; clear hy0
          have HWY := Lib.hid hwy; clear hwy
          have q := refown13_any d.rep E m cc Y hys (by have := HDD.out.2.2.2; have := hys.1; omega)
          clear hys
          unfold rpV at q
          have hyc := HY0.out
          have q0 := Blk.cell hyc 0
          have q1 := Blk.cell hyc 1
          have q2 := Blk.cell hyc 2
          have q3 := Blk.cell hyc 3
          have q4 := Blk.cell hyc 4
          have q5 := Blk.cell hyc 5
          simp only [List.getElem?_toArray, List.getElem?_cons_zero, List.getElem?_cons_succ] at q0 q1 q2 q3 q4 q5
          clear hyc
          go_wp2_with fail
          ((with_reducible refine q.mono ?_); rintro e Z ⟨Ay, ny, cy, rfl, hcy, hny, hrwy, bz⟩)
          clear q q0 q1 q2 q3 q4 q5
          subst hny
          try unfold rpV
          have hz0 := Blk.below HY0.out bz
          have HBZ := Lib.hid (HY.out.trans (bz.mono HY.out.size))
          have HWZ := Lib.hid (HWY.out.trans (bz.mono HWY.out.size))
          have HZK := Lib.hid hrwy; clear hrwy bz
          have z2 := Blk.cell hz0 2
          have z3 := Blk.cell hz0 3
          have z4 := Blk.cell hz0 4
          have z5 := Blk.cell hz0 5
          simp only [List.getElem?_toArray, List.getElem?_cons_zero, List.getElem?_cons_succ] at z2 z3 z4 z5
          have f2 := Blk.frozen hz0 2
          have f3 := Blk.frozen hz0 3
          have f4 := Blk.frozen hz0 4
          have f5 := Blk.frozen hz0 5
          have hfin := dn_put13 hz0 (.int .i64 d.rep.errno) (.int .i64 d.rep.rev) (.string d.rep.value) (.slice Ay d.rep.keys.length cy)
          have hbf := below_rep13 (g := gy) HBZ.out (by have := HGY.out; omega) (.int .i64 d.rep.errno) (.int .i64 d.rep.rev) (.string d.rep.value) (.slice Ay d.rep.keys.length cy)
          have hwf := below_rep13 (g := gy) HWZ.out (by have := HGY.out; have := HWq.out.size; omega) (.int .i64 d.rep.errno) (.int .i64 d.rep.rev) (.string d.rep.value) (.slice Ay d.rep.keys.length cy)
          have hne : some gy ≠ (Value.slice Ay d.rep.keys.length cy).ownBlock := fun e => by have := (HZK.out.lt _ e.symm).1; have := Blk.lt HY0.out; omega
          have hkf : RowK ((((Z.setCell ⟨gy, 2, none⟩ (.int .i64 d.rep.errno)).setCell ⟨gy, 3, none⟩ (.int .i64 d.rep.rev)).setCell ⟨gy, 4, none⟩ (.string d.rep.value)).setCell ⟨gy, 5, none⟩ (.slice Ay d.rep.keys.length cy)) Y.heap.size (.slice Ay d.rep.keys.length cy) d.rep.keys := rowK_far13 (rowK_far13 (rowK_far13 (rowK_far13 HZK.out hne) hne) hne) hne
          have HFIN := Lib.hid hfin; clear hfin
          have HBF := Lib.hid hbf; clear hbf
          have HWF := Lib.hid hwf; clear hwf
          have HKF := Lib.hid hkf; clear hkf hz0 hne
          go_upto_region 19 with fail
          clear z2 z3 z4 z5 f2 f3 f4 f5
          obtain ⟨T, hT⟩ : ∃ W, (((Z.setCell ⟨gy, 2, none⟩ (.int .i64 d.rep.errno)).setCell ⟨gy, 3, none⟩ (.int .i64 d.rep.rev)).setCell ⟨gy, 4, none⟩ (.string d.rep.value)).setCell ⟨gy, 5, none⟩ (.slice Ay d.rep.keys.length cy) = W := ⟨_, rfl⟩
          rw [hT] at HFIN HBF HWF HKF ⊢
          clear hT HBZ HWZ HZK HY HWY HY0
          have HRT := Lib.hid (HRq.out.below HBF.out)
          have HKT := Lib.hid (HKq.out.below HBF.out)
          have hkt : KyAt T (d, .slice Ay d.rep.keys.length cy) := by
            obtain ⟨A9, c9, hv9, _, hs9⟩ := HKF.out.isSs (HSZ.out)
            simp only [Value.slice.injEq, true_and] at hv9
            obtain ⟨rfl, rfl⟩ := hv9
            exact ⟨_, _, _, rfl, hcy, hs9, HKF.out.strT⟩
          have HKYT := Lib.hid hkt; clear hkt HKF
          have hfc := HFIN.out
          have q0 := Blk.cell hfc 0
          have q1 := Blk.cell hfc 1
          have q2 := Blk.cell hfc 2
          have q3 := Blk.cell hfc 3
          have q4 := Blk.cell hfc 4
          have q5 := Blk.cell hfc 5
          simp only [List.getElem?_toArray, List.getElem?_cons_zero, List.getElem?_cons_succ] at q0 q1 q2 q3 q4 q5
          clear hfc
          have hby : Below T.heap.size T (T.alloc (.cells #[.int .i64 d.client, .int .i64 d.id, .int .i64 d.rep.errno, .int .i64 d.rep.rev, .string d.rep.value, .slice Ay d.rep.keys.length cy] 45)) := (Below.refl _ _).alloc (Nat.le_refl _) _
          have hqy : IsQs (T.alloc (.cells #[.int .i64 d.client, .int .i64 d.id, .int .i64 d.rep.errno, .int .i64 d.rep.rev, .string d.rep.value, .slice Ay d.rep.keys.length cy] 45)) (some ⟨T.heap.size, 0, none⟩) 1 [(d, .slice Ay d.rep.keys.length cy)] := isQs_one T (d, .slice Ay d.rep.keys.length cy)
          have hway : Below W5.heap.size W5 (T.alloc (.cells #[.int .i64 d.client, .int .i64 d.id, .int .i64 d.rep.errno, .int .i64 d.rep.rev, .string d.rep.value, .slice Ay d.rep.keys.length cy] 45)) := HWF.out.alloc HWF.out.size _
          have hray := HRT.out.below hby
          have hkay := HKT.out.below hby
          have hpay := KyAt.below HKYT.out hby
          clear hby
          obtain ⟨Vy, hVy⟩ : ∃ W, T.alloc (.cells #[.int .i64 d.client, .int .i64 d.id, .int .i64 d.rep.errno, .int .i64 d.rep.rev, .string d.rep.value, .slice Ay d.rep.keys.length cy] 45) = W := ⟨_, rfl⟩
          rw [hVy] at hqy hway hray hkay hpay
          have HQy := Lib.hid hqy; clear hqy
          have HWAy := Lib.hid hway; clear hway
          have HRAy := Lib.hid hray; clear hray
          have HKAy := Lib.hid hkay; clear hkay
          have HPAy := Lib.hid hpay; clear hpay
          have HSLy : Hid (SlD [(d, .slice Ay d.rep.keys.length cy)]) := fun x hx => by rw [List.mem_singleton] at hx; rw [hx]; exact ⟨_, _, _, rfl⟩
          go_wp2_with (at_builtin; refine wpList_append_dn rfl _ _ rfl W5.heap.size _ (ps ++ [((⟨c, i, r⟩ : DnR), (.slice Ax r.keys.length cx : Value))]) rfl HRAy.out (some ⟨T.heap.size, 0, none⟩) 1 1 [(d, .slice Ay d.rep.keys.length cy)] rfl HQy.out HSLy.out (by have := HLEN.out; (try simp only [List.length_append, List.length_singleton] at this ⊢); omega) HWAy.out.size ?_)
          intro vy Uy hry hgy
          have HWy : Hid (Below W5.heap.size W5 Uy) := HWAy.out.grown hgy HWAy.out.size (fun g hg => (HRAy.out.lt g hg).1)
          have HKy : Hid (KyT Uy (ps ++ [((⟨c, i, r⟩ : DnR), (.slice Ax r.keys.length cx : Value))] ++ [(d, .slice Ay d.rep.keys.length cy)])) := KyT.append (HKAy.out.kept hgy HRAy.out.block) (KyT.one HDD.out (HPAy.out.kept hgy HRAy.out.block))
          have HRy := Lib.hid hry
          clear hry hgy HRAy HKAy HPAy HQy HWAy HSLy hVy
          clear q0 q1 q2 q3 q4 q5
          go_wp2_with fail
          go_roundw
          case rel => exact ⟨j + 1, _, _, rfl, by omega, by go_num, by rw [HST.out, EE.out.2], by rw [HST.out, EE.out.1, ← HMAP.out, List.map_append, List.append_assoc]; rfl, HRy.out, (by have h := HKy.out; rw [List.append_assoc] at h; exact h), HWy.out⟩
          case measure => simp [intOf]; omega
        · have EE := Lib.hid (sD_no (x := ⟨c, i, r⟩) (y := d) HDN.out hgt)
          go_upto_region 17 with fail
          clear x0 x1 x2 x3 x4 x5 e0
          have hyb : Below wr.heap.size wr (wr.alloc (.cells #[.int .i64 d.client, .int .i64 d.id, .int .i64 d.rep.errno, .int .i64 d.rep.rev, .string d.rep.value, .slice E m cc] 45)) := (Below.refl _ _).alloc (Nat.le_refl _) _
          have hy0 := Blk.new wr (.cells #[.int .i64 d.client, .int .i64 d.id, .int .i64 d.rep.errno, .int .i64 d.rep.rev, .string d.rep.value, .slice E m cc] 45)
          obtain ⟨x0, x1, x2, x3, x4, x5⟩ := HXX.out wr HBW.out
          have hys := (HSS.out wr HBW.out).below hyb
          have hwy : Below W5.heap.size W5 (wr.alloc (.cells #[.int .i64 d.client, .int .i64 d.id, .int .i64 d.rep.errno, .int .i64 d.rep.rev, .string d.rep.value, .slice E m cc] 45)) := HBW.out.alloc HBW.out.size _
          have HYB := Lib.hid hyb; clear hyb
          go_upto_region 18 with fail
          clear x0 x1 x2 x3 x4 x5
          obtain ⟨Y, hY⟩ : ∃ W, wr.alloc (.cells #[.int .i64 d.client, .int .i64 d.id, .int .i64 d.rep.errno, .int .i64 d.rep.rev, .string d.rep.value, .slice E m cc] 45) = W := ⟨_, rfl⟩
          have HY : Hid (Below wr.heap.size wr Y) := by rw [← hY]; exact HYB.out
          rw [hY] at hy0 hys hwy ⊢
          clear hY HYB
          obtain ⟨gy, hgy⟩ : ∃ g, wr.heap.size = g := ⟨_, rfl⟩
          have HGY := Lib.hid hgy
          rw [hgy] at hy0 ⊢
          clear hgy
          have HY0 := Lib.hid hy0; clear hy0
          have HWY := Lib.hid hwy; clear hwy
          have q := refown13_any d.rep E m cc Y hys (by have := HDD.out.2.2.2; have := hys.1; omega)
          clear hys
          unfold rpV at q
          have hyc := HY0.out
          have q0 := Blk.cell hyc 0
          have q1 := Blk.cell hyc 1
          have q2 := Blk.cell hyc 2
          have q3 := Blk.cell hyc 3
          have q4 := Blk.cell hyc 4
          have q5 := Blk.cell hyc 5
          simp only [List.getElem?_toArray, List.getElem?_cons_zero, List.getElem?_cons_succ] at q0 q1 q2 q3 q4 q5
          clear hyc
          go_wp2_with fail
          ((with_reducible refine q.mono ?_); rintro e Z ⟨Ay, ny, cy, rfl, hcy, hny, hrwy, bz⟩)
          clear q q0 q1 q2 q3 q4 q5
          subst hny
          try unfold rpV
          have hz0 := Blk.below HY0.out bz
          have HBZ := Lib.hid (HY.out.trans (bz.mono HY.out.size))
          have HWZ := Lib.hid (HWY.out.trans (bz.mono HWY.out.size))
          have HZK := Lib.hid hrwy; clear hrwy bz
          have z2 := Blk.cell hz0 2
          have z3 := Blk.cell hz0 3
          have z4 := Blk.cell hz0 4
          have z5 := Blk.cell hz0 5
          simp only [List.getElem?_toArray, List.getElem?_cons_zero, List.getElem?_cons_succ] at z2 z3 z4 z5
          have f2 := Blk.frozen hz0 2
          have f3 := Blk.frozen hz0 3
          have f4 := Blk.frozen hz0 4
          have f5 := Blk.frozen hz0 5
          have hfin := dn_put13 hz0 (.int .i64 d.rep.errno) (.int .i64 d.rep.rev) (.string d.rep.value) (.slice Ay d.rep.keys.length cy)
          have hbf := below_rep13 (g := gy) HBZ.out (by have := HGY.out; omega) (.int .i64 d.rep.errno) (.int .i64 d.rep.rev) (.string d.rep.value) (.slice Ay d.rep.keys.length cy)
          have hwf := below_rep13 (g := gy) HWZ.out (by have := HGY.out; have := HBW.out.size; omega) (.int .i64 d.rep.errno) (.int .i64 d.rep.rev) (.string d.rep.value) (.slice Ay d.rep.keys.length cy)
          have hne : some gy ≠ (Value.slice Ay d.rep.keys.length cy).ownBlock := fun e => by have := (HZK.out.lt _ e.symm).1; have := Blk.lt HY0.out; omega
          have hkf : RowK ((((Z.setCell ⟨gy, 2, none⟩ (.int .i64 d.rep.errno)).setCell ⟨gy, 3, none⟩ (.int .i64 d.rep.rev)).setCell ⟨gy, 4, none⟩ (.string d.rep.value)).setCell ⟨gy, 5, none⟩ (.slice Ay d.rep.keys.length cy)) Y.heap.size (.slice Ay d.rep.keys.length cy) d.rep.keys := rowK_far13 (rowK_far13 (rowK_far13 (rowK_far13 HZK.out hne) hne) hne) hne
          have HFIN := Lib.hid hfin; clear hfin
          have HBF := Lib.hid hbf; clear hbf
          have HWF := Lib.hid hwf; clear hwf
          have HKF := Lib.hid hkf; clear hkf hz0 hne
          go_upto_region 19 with fail
          clear z2 z3 z4 z5 f2 f3 f4 f5
          obtain ⟨T, hT⟩ : ∃ W, (((Z.setCell ⟨gy, 2, none⟩ (.int .i64 d.rep.errno)).setCell ⟨gy, 3, none⟩ (.int .i64 d.rep.rev)).setCell ⟨gy, 4, none⟩ (.string d.rep.value)).setCell ⟨gy, 5, none⟩ (.slice Ay d.rep.keys.length cy) = W := ⟨_, rfl⟩
          rw [hT] at HFIN HBF HWF HKF ⊢
          clear hT HBZ HWZ HZK HY HWY HY0
          have HRT := Lib.hid (HROW.out.below HBF.out)
          have HKT := Lib.hid (HKY.out.below HBF.out)
          have hkt : KyAt T (d, .slice Ay d.rep.keys.length cy) := by
            obtain ⟨A9, c9, hv9, _, hs9⟩ := HKF.out.isSs (HSZ.out)
            simp only [Value.slice.injEq, true_and] at hv9
            obtain ⟨rfl, rfl⟩ := hv9
            exact ⟨_, _, _, rfl, hcy, hs9, HKF.out.strT⟩
          have HKYT := Lib.hid hkt; clear hkt HKF
          have hfc := HFIN.out
          have q0 := Blk.cell hfc 0
          have q1 := Blk.cell hfc 1
          have q2 := Blk.cell hfc 2
          have q3 := Blk.cell hfc 3
          have q4 := Blk.cell hfc 4
          have q5 := Blk.cell hfc 5
          simp only [List.getElem?_toArray, List.getElem?_cons_zero, List.getElem?_cons_succ] at q0 q1 q2 q3 q4 q5
          clear hfc
          have hby : Below T.heap.size T (T.alloc (.cells #[.int .i64 d.client, .int .i64 d.id, .int .i64 d.rep.errno, .int .i64 d.rep.rev, .string d.rep.value, .slice Ay d.rep.keys.length cy] 45)) := (Below.refl _ _).alloc (Nat.le_refl _) _
          have hqy : IsQs (T.alloc (.cells #[.int .i64 d.client, .int .i64 d.id, .int .i64 d.rep.errno, .int .i64 d.rep.rev, .string d.rep.value, .slice Ay d.rep.keys.length cy] 45)) (some ⟨T.heap.size, 0, none⟩) 1 [(d, .slice Ay d.rep.keys.length cy)] := isQs_one T (d, .slice Ay d.rep.keys.length cy)
          have hway : Below W5.heap.size W5 (T.alloc (.cells #[.int .i64 d.client, .int .i64 d.id, .int .i64 d.rep.errno, .int .i64 d.rep.rev, .string d.rep.value, .slice Ay d.rep.keys.length cy] 45)) := HWF.out.alloc HWF.out.size _
          have hray := HRT.out.below hby
          have hkay := HKT.out.below hby
          have hpay := KyAt.below HKYT.out hby
          clear hby
          obtain ⟨Vy, hVy⟩ : ∃ W, T.alloc (.cells #[.int .i64 d.client, .int .i64 d.id, .int .i64 d.rep.errno, .int .i64 d.rep.rev, .string d.rep.value, .slice Ay d.rep.keys.length cy] 45) = W := ⟨_, rfl⟩
          rw [hVy] at hqy hway hray hkay hpay
          have HQy := Lib.hid hqy; clear hqy
          have HWAy := Lib.hid hway; clear hway
          have HRAy := Lib.hid hray; clear hray
          have HKAy := Lib.hid hkay; clear hkay
          have HPAy := Lib.hid hpay; clear hpay
          have HSLy : Hid (SlD [(d, .slice Ay d.rep.keys.length cy)]) := fun x hx => by rw [List.mem_singleton] at hx; rw [hx]; exact ⟨_, _, _, rfl⟩
          go_wp2_with (at_builtin; refine wpList_append_dn rfl _ _ rfl W5.heap.size _ (ps) rfl HRAy.out (some ⟨T.heap.size, 0, none⟩) 1 1 [(d, .slice Ay d.rep.keys.length cy)] rfl HQy.out HSLy.out (by have := HLEN.out; (try simp only [List.length_append, List.length_singleton] at this ⊢); omega) HWAy.out.size ?_)
          intro vy Uy hry hgy
          have HWy : Hid (Below W5.heap.size W5 Uy) := HWAy.out.grown hgy HWAy.out.size (fun g hg => (HRAy.out.lt g hg).1)
          have HKy : Hid (KyT Uy (ps ++ [(d, .slice Ay d.rep.keys.length cy)])) := KyT.append (HKAy.out.kept hgy HRAy.out.block) (KyT.one HDD.out (HPAy.out.kept hgy HRAy.out.block))
          have HRy := Lib.hid hry
          clear hry hgy HRAy HKAy HPAy HQy HWAy HSLy hVy
          clear q0 q1 q2 q3 q4 q5
          go_wp2_with fail
          go_roundw
          case rel => exact ⟨j + 1, _, _, rfl, by omega, by go_num, by rw [HST.out, EE.out.2], by rw [HST.out, EE.out.1, ← HMAP.out, List.map_append]; rfl, HRy.out, HKy.out, HWy.out⟩
          case measure => simp [intOf]; omega
    · have hji : ¬ (j : Int) < (n : Int) := by omega
      have htl : l.take j = l := by rw [List.take_of_length_le]; have := HN.out; omega
      rw [htl] at HMAP ⊢
      clear htl
      have HEN : Hid (putD l c i r = if gD (restD l c) ⟨c, i, r⟩ then sD (restD l c) ⟨c, i, r⟩ else sD (restD l c) ⟨c, i, r⟩ ++ [⟨c, i, r⟩]) := sD_end _ _
      obtain ⟨dn, hdn⟩ : ∃ b, gD (restD l c) ⟨c, i, r⟩ = b := ⟨_, rfl⟩
      rw [hdn] at HEN ⊢
      clear hdn
      cases dn with
      | true =>
        rw [if_pos rfl] at HEN
        have HPU : Hid (putD l c i r = ps.map Prod.fst) := HEN.out.trans HMAP.out.symm
        have HEE := HE.out
        rw [HPU.out, List.length_map] at HEE
        by_cases h8 : 8 < (ps).length
        · rw [if_pos h8] at HEE
          have h8i : (8 : Int) < (ps.length : Int) := by omega
          have HE9 := Lib.hid HEE
          clear HEE h8
          go_wp2_with fail
          refine bodyPost_ret (v := .tuple #[.slice none 0 0, .int .i64 50]) (by simp [results, Try.results18, go_sem]) rfl ⟨none, 0, 0, by rw [HE9.out]; rfl, Nat.le_refl _, by rw [HE9.out]; exact isDs_nil _ _, bch HB5.out HBW.out⟩
        · rw [if_neg h8] at HEE
          have h8i : ¬ (8 : Int) < (ps.length : Int) := by omega
          have HE9 := Lib.hid HEE
          clear HEE h8
          obtain ⟨A9, c9, hv9, hc9, hds⟩ := HROW.out.isDs HKY.out
          simp only [Value.slice.injEq] at hv9
          have HDS := Lib.hid hds; clear hds
          have HV9 := Lib.hid hv9; clear hv9
          have HC9 := Lib.hid hc9; clear hc9
          go_wp2_with fail
          refine bodyPost_ret (v := .tuple #[.slice Av ps.length cv, .int .i64 0]) (by simp [results, Try.results18, go_sem]) rfl ⟨Av, _, cv, by rw [HE9.out]; rfl, by rw [HV9.out.2.2]; have := HC9.out; have := HV9.out.2.1; omega, by rw [HE9.out, HV9.out.1]; exact HDS.out, bch HB5.out HBW.out⟩
      | false =>
        rw [if_neg (by simp)] at HEN
        have HPU : Hid (putD l c i r = (ps ++ [((⟨c, i, r⟩ : DnR), (.slice Ax r.keys.length cx : Value))]).map Prod.fst) := by
          show _ = _
          rw [HEN.out, List.map_append, HMAP.out]; rfl
        go_upto_region 21 with fail
        have hxb := Blk.below HX5.out HBW.out
        have q0 := Blk.cell hxb 0
        have q1 := Blk.cell hxb 1
        have q2 := Blk.cell hxb 2
        have q3 := Blk.cell hxb 3
        have q4 := Blk.cell hxb 4
        have q5 := Blk.cell hxb 5
        simp only [List.getElem?_toArray, List.getElem?_cons_zero, List.getElem?_cons_succ] at q0 q1 q2 q3 q4 q5
        clear hxb
        have hbe : Below wr.heap.size wr (wr.alloc (.cells #[.int .i64 c, .int .i64 i, .int .i64 r.errno, .int .i64 r.rev, .string r.value, .slice Ax r.keys.length cx] 45)) := (Below.refl _ _).alloc (Nat.le_refl _) _
        have hqe : IsQs (wr.alloc (.cells #[.int .i64 c, .int .i64 i, .int .i64 r.errno, .int .i64 r.rev, .string r.value, .slice Ax r.keys.length cx] 45)) (some ⟨wr.heap.size, 0, none⟩) 1 [((⟨c, i, r⟩ : DnR), (.slice Ax r.keys.length cx : Value))] := isQs_one wr ((⟨c, i, r⟩ : DnR), (.slice Ax r.keys.length cx : Value))
        have hwae : Below W5.heap.size W5 (wr.alloc (.cells #[.int .i64 c, .int .i64 i, .int .i64 r.errno, .int .i64 r.rev, .string r.value, .slice Ax r.keys.length cx] 45)) := HBW.out.alloc HBW.out.size _
        have hrae := HROW.out.below hbe
        have hkae := HKY.out.below hbe
        have hpae := KyAt.below (KyAt.below HKX.out HBW.out) hbe
        clear hbe
        obtain ⟨Ve, hVe⟩ : ∃ W, wr.alloc (.cells #[.int .i64 c, .int .i64 i, .int .i64 r.errno, .int .i64 r.rev, .string r.value, .slice Ax r.keys.length cx] 45) = W := ⟨_, rfl⟩
        rw [hVe] at hqe hwae hrae hkae hpae
        have HQe := Lib.hid hqe; clear hqe
        have HWAe := Lib.hid hwae; clear hwae
        have HRAe := Lib.hid hrae; clear hrae
        have HKAe := Lib.hid hkae; clear hkae
        have HPAe := Lib.hid hpae; clear hpae
        have HSLe : Hid (SlD [((⟨c, i, r⟩ : DnR), (.slice Ax r.keys.length cx : Value))]) := fun x hx => by rw [List.mem_singleton] at hx; rw [hx]; exact ⟨_, _, _, rfl⟩
        go_wp2_with (at_builtin; refine wpList_append_dn rfl _ _ rfl W5.heap.size _ (ps) rfl HRAe.out (some ⟨wr.heap.size, 0, none⟩) 1 1 [((⟨c, i, r⟩ : DnR), (.slice Ax r.keys.length cx : Value))] rfl HQe.out HSLe.out (by have := HLEN.out; (try simp only [List.length_append, List.length_singleton] at this ⊢); omega) HWAe.out.size ?_)
        intro ve Ue hre hge
        have HWe : Hid (Below W5.heap.size W5 Ue) := HWAe.out.grown hge HWAe.out.size (fun g hg => (HRAe.out.lt g hg).1)
        have HKe : Hid (KyT Ue (ps ++ [((⟨c, i, r⟩ : DnR), (.slice Ax r.keys.length cx : Value))])) := KyT.append (HKAe.out.kept hge HRAe.out.block) (KyT.one HDW.out (HPAe.out.kept hge HRAe.out.block))
        have HRe := Lib.hid hre
        clear hre hge HRAe HKAe HPAe HQe HWAe HSLe hVe
        clear q0 q1 q2 q3 q4 q5
        have HROW2 := HRe
        have HKY2 := HKe
        have HBW2 := HWe
        go_upto_region 22 with fail
        obtain ⟨Aq, cq, hvcq, hcq, _⟩ := HRe.out.parts
        rw [List.length_append, List.length_singleton] at hvcq
        subst hvcq
        clear hcq
        have HEE := HE.out
        rw [HPU.out, List.length_map] at HEE
        by_cases h8 : 8 < (ps ++ [((⟨c, i, r⟩ : DnR), (.slice Ax r.keys.length cx : Value))]).length
        · rw [if_pos h8] at HEE
          have h8i : (8 : Int) < ((ps.length + 1 : Nat) : Int) := by (rw [List.length_append, List.length_singleton] at h8; omega)
          have HE9 := Lib.hid HEE
          clear HEE h8
          go_wp2_with fail
          refine bodyPost_ret (v := .tuple #[.slice none 0 0, .int .i64 50]) (by simp [results, Try.results18, go_sem]) rfl ⟨none, 0, 0, by rw [HE9.out]; rfl, Nat.le_refl _, by rw [HE9.out]; exact isDs_nil _ _, bch HB5.out HBW2.out⟩
        · rw [if_neg h8] at HEE
          have h8i : ¬ (8 : Int) < ((ps.length + 1 : Nat) : Int) := by (rw [List.length_append, List.length_singleton] at h8; omega)
          have HE9 := Lib.hid HEE
          clear HEE h8
          obtain ⟨A9, c9, hv9, hc9, hds⟩ := HROW2.out.isDs HKY2.out
          simp only [Value.slice.injEq] at hv9
          have HDS := Lib.hid hds; clear hds
          have HV9 := Lib.hid hv9; clear hv9
          have HC9 := Lib.hid hc9; clear hc9
          go_wp2_with fail
          refine bodyPost_ret (v := .tuple #[.slice Aq (ps.length + 1) cq, .int .i64 0]) (by simp [results, Try.results18, go_sem]) rfl ⟨Aq, _, cq, by rw [HE9.out]; rfl, by rw [HV9.out.2.2]; have := HC9.out; have := HV9.out.2.1; omega, by rw [HE9.out, HV9.out.1, HV9.out.2.1]; exact HDS.out, bch HB5.out HBW2.out⟩
end Go.Proofs.Ytgckoihangccbaa
