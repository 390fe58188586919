import Derived.Test.YtjdpihppniibjaaWireRef
import Derived.Test.YtjdpihppniibjaaRefEncode
import Derived.Test.YtjdpihppniibjaaDecode
/-
  The contracts of the document's own number and Encode of messages (stage 8).
-/
namespace Go.Proofs.Ytjdpihppniibjaa
open Go.RowKit
set_option linter.unusedVariables false

theorem tl_size (s : ByteArray) : s.toList = [] ↔ s.size = 0 := by
  have e : s.toList = s.data.toList := by rw [bs_of s, bs_toList]; simp [bs]
  rw [e]
  constructor
  · intro h; have : s.data.toList.length = 0 := by rw [h]; rfl
    simpa using this
  · intro h; exact List.eq_nil_of_length_eq_zero (by simpa using h)
theorem tl_ne0 {s : ByteArray} (h : s.size ≠ 0) : s.toList.isEmpty = false := by
  rw [Bool.eq_false_iff]; intro h2; exact h ((tl_size s).1 (by simpa using h2))
theorem ownsF_below {w w' : World} {base size n : Nat} {e : TypeId} {v : Value} {xs : List Value} (h : w.ownsRow base e size v n xs) (hb : Below w.heap.size w w') : w'.ownsRow base e size v n xs :=
  h.kept (row := none) ⟨hb.os, hb.tape, hb.output, hb.size, fun i hi _ => hb.block i hi⟩ (by cases v.ownBlock with
    | none => exact .inl rfl
    | some x => exact .inr (fun e => by cases e))
/-- A row of fields of a call's own. -/
def RowF (w : World) (base : Nat) (v : Value) (l : List Fld) : Prop := w.ownsRow base 47 2 v l.length (cellsF l)
theorem RowF.below {w w' : World} {base : Nat} {v : Value} {l : List Fld} (h : RowF w base v l) (hb : Below w.heap.size w w') : RowF w' base v l := ownsF_below h hb
/-- A number's field; none of 0. -/
def numF (t n : Int) : List Fld := if n = 0 then [] else [(t, numD n)]
theorem numF_opt (t n : Int) : numF t n = opt t (ob (numD n)) := by
  unfold numF
  split
  · rename_i h; rw [ob_none.2 (numD_zero.2 h)]; rfl
  · rename_i h; unfold ob; rw [if_neg (fun e => h (numD_zero.1 e))]; rfl
def NumPost (base : Nat) (w : World) (l : List Fld) (e : Ending) (w' : World) : Prop := ∃ v, e = .returned v ∧ RowF w' base v l ∧ Below base w w'

set_option maxRecDepth 100000 in
set_option maxHeartbeats 4000000 in
theorem refnumberW (base : Nat) (v : Value) (pre : List Fld) (t n : Int) (w : World) (hr : RowF w base v pre) (hb : base ≤ w.heap.size) (hp : pre.length ≤ 10) (h0 : 0 ≤ n) (h1 : n ≤ 9007199254740992) :
    Calls Try.prog 19 #[v, .int .i64 t, .int .i64 n] w (NumPost base w (pre ++ numF t n)) := by
  by_cases hz : n = 0
  · have HE : Hid (pre ++ numF t n = pre) := by show _ = _; unfold numF; rw [if_pos hz, List.append_nil]
    have HR := Lib.hid hr; clear hr
    subst hz
    go_enter Try.func19, Try.ntmps19
    go_wp2_with fail
    go_ret
    exact ⟨v, rfl, by rw [HE.out]; exact HR.out, Below.refl _ _⟩
  · obtain ⟨i0, hi, hz0, hz1, hz2⟩ := info_parts infoFld
    have hz' : (n == 0) = false := by simpa using hz
    have q := fun W => refput_ok n h0 h1 W
    have hD : bs (vb n.toNat) = numD n := by unfold numD; rw [if_neg hz]; rfl
    rw [hD] at q
    have HE : Hid (pre ++ numF t n = pre ++ [(t, numD n)]) := by show _ = _; unfold numF; rw [if_neg hz]
    have HR := Lib.hid hr; clear hr
    have HB := Lib.hid hb; clear hb
    have HP := Lib.hid hp; clear hp
    clear hz hD h0 h1
    generalize numD n = D at *
    go_enter Try.func19, Try.ntmps19
    go_wp2_with fail
    ((with_reducible refine (q _).mono ?_); rintro e W1 ⟨rfl, b1⟩)
    have hr1 : RowF (W1.alloc (.cells #[.int .i64 t, .string D] 47)) base v pre := (HR.out.below b1).below ((Below.refl _ _).alloc (Nat.le_refl _) _)
    have hs := b1.size
    have hb1 : Below base w (W1.alloc (.cells #[.int .i64 t, .string D] 47)) := (b1.alloc hs _).mono HB.out
    have HR1 := Lib.hid hr1; clear hr1
    have HB1 := Lib.hid hb1; clear hb1 b1
    have HS := Lib.hid hs; clear hs
    go_wp2_with (at_builtin; refine wpList_append_own_at _ rfl _ _ 42 rfl base 47 i0 (.agg #[.int .i64 0, .string ⟨#[]⟩]) 2 24 Try.underlying42 hi hz0 hz1 hz2 rfl (by decide) _ _ _ rfl HR1.out ⟨W1.heap.size, 0, none⟩ 1 1 [.int .i64 t, .string D] rfl rfl (cell_two_new W1 _ _ _) ?c2 ?c3 ?c4 ?c5 ?_)
    case c2 => intro u hu; simp at hu; rcases hu with rfl | rfl <;> rfl
    case c3 => have := HP.out; unfold maxLen; omega
    case c4 => have := HP.out; omega
    case c5 => have := HB.out; have := HS.out; simp; omega
    intro v' V2 hown hgrow _ _
    have hr2 : RowF V2 base v' (pre ++ [(t, D)]) := by
      unfold RowF
      rw [cellsF_append, List.length_append]; exact hown
    have hb2 : Below base w V2 := HB1.out.grown hgrow (by have := HB.out; have := HS.out; simp; omega) (fun g hg => (HR1.out.lt g hg).1)
    have HR2 := Lib.hid hr2; clear hr2 hown hgrow
    have HB2 := Lib.hid hb2; clear hb2
    go_wp2_with fail
    go_ret
    exact ⟨v', rfl, by rw [HE.out]; exact HR2.out, HB2.out⟩

theorem fieldsM_wf {v : Int} {m : Mg} (h : RightM v m) : FsWf (fieldsM m) := by
  obtain ⟨_, h1, h2, h3, h4, h6, h5⟩ := h
  have n1 := numD_size (n := m.kind) (by omega) (by omega)
  have n2 := numD_size h2.1 h2.2
  have n3 := numD_size h3.1 h3.2
  have n4 := numD_size h4.1 h4.2
  have n6 := numD_size h6.1 h6.2
  intro f hf
  rw [fieldsM_parts] at hf
  unfold parts6 at hf
  simp only [List.mem_append, mem_opt, List.not_mem_nil, or_false] at hf
  rcases hf with ⟨e, t⟩ | ⟨e, t⟩ | ⟨e, t⟩ | ⟨e, t⟩ | ⟨e, t⟩ | ⟨e, t⟩ <;> (obtain ⟨e1, e2⟩ := ob_some e; rw [t, ← e1]; exact ⟨by decide, by omega⟩)
theorem fieldsM_num (m : Mg) : fieldsM m = ((((([] ++ numF 1 m.kind) ++ numF 2 m.frm) ++ numF 3 m.to) ++ numF 4 m.seq) ++ opt 5 (ob m.body)) ++ numF 6 m.trace := by
  rw [fieldsM_parts]
  unfold parts6
  simp only [numF_opt, List.nil_append, List.append_assoc, List.append_nil]
theorem numF_len (t n : Int) : (numF t n).length ≤ 1 := by unfold numF; split <;> simp

set_option maxRecDepth 100000 in
set_option maxHeartbeats 4000000 in
theorem refencodeW_no (v : Int) (m : Mg) (hs : m.body.size ≤ 140737488355328) (hok : rightM v m = false) (w : World) :
    Calls Try.prog 12 #[.int .i64 v, mgV m] w fun e w' => e = .returned (.tuple #[.string (bs (wE v m).1), .int .i64 (wE v m).2]) ∧ Below w.heap.size w w' := by
  obtain ⟨R, hR⟩ : ∃ R, wE v m = R := ⟨_, rfl⟩
  rw [hR]
  unfold wE at hR
  rw [if_neg (by rw [hok]; simp)] at hR
  have hb0 : Below w.heap.size w (w.alloc (.cells #[.int .i64 m.kind, .int .i64 m.frm, .int .i64 m.to, .int .i64 m.seq, .string m.body, .int .i64 m.trace] 23)) := (Below.refl _ _).alloc (Nat.le_refl _) _
  have hm0 := MgBlk.new w m
  have q1 := fun W => refrightW_any v m hs W
  have q2 := fun W => refrightW_any 2 m hs W
  unfold mgV at *
  obtain ⟨W0, hW0⟩ : ∃ W, w.alloc (.cells #[.int .i64 m.kind, .int .i64 m.frm, .int .i64 m.to, .int .i64 m.seq, .string m.body, .int .i64 m.trace] 23) = W := ⟨_, rfl⟩
  rw [hW0] at hb0 hm0
  have HB0 := Lib.hid hb0; clear hb0
  have HM := Lib.hid hm0; clear hm0
  rw [hok] at q1
  clear hok
  by_cases hv : v = 1
  · subst hv
    cases hl : rightM 2 m with
    | true =>
      rw [if_pos ⟨rfl, hl⟩] at hR
      rw [hl] at q2
      have HR := Lib.hid hR.symm
      clear hR hl
      obtain ⟨c0, c1, c2, c3, c4, c5⟩ := HM.out.cells
      go_enter Try.func12, Try.ntmps12
      go_wp2_with fail
      ((with_reducible refine (q1 _).mono ?_); rintro e W1 ⟨rfl, b1⟩)
      clear c0 c1 c2 c3 c4 c5
      obtain ⟨c0, c1, c2, c3, c4, c5⟩ := (HM.out.below b1).cells
      have HB1 := Lib.hid b1; clear b1
      go_wp2_with fail
      ((with_reducible refine (q2 _).mono ?_); rintro e W2 ⟨rfl, b2⟩)
      have HB2 := Lib.hid (bch HB1.out b2); clear b2
      clear c0 c1 c2 c3 c4 c5
      go_wp2_with fail
      go_ret2
      exact ⟨by rw [HR.out]; rfl, bch HB0.out HB2.out⟩
    | false =>
      rw [if_neg (by rw [hl]; simp)] at hR
      rw [hl] at q2
      have HR := Lib.hid hR.symm
      clear hR hl
      obtain ⟨c0, c1, c2, c3, c4, c5⟩ := HM.out.cells
      go_enter Try.func12, Try.ntmps12
      go_wp2_with fail
      ((with_reducible refine (q1 _).mono ?_); rintro e W1 ⟨rfl, b1⟩)
      clear c0 c1 c2 c3 c4 c5
      obtain ⟨c0, c1, c2, c3, c4, c5⟩ := (HM.out.below b1).cells
      have HB1 := Lib.hid b1; clear b1
      go_wp2_with fail
      ((with_reducible refine (q2 _).mono ?_); rintro e W2 ⟨rfl, b2⟩)
      have HB2 := Lib.hid (bch HB1.out b2); clear b2
      clear c0 c1 c2 c3 c4 c5
      go_wp2_with fail
      go_ret2
      exact ⟨by rw [HR.out]; rfl, bch HB0.out HB2.out⟩
  · have hv' : (v == 1) = false := by simpa using hv
    rw [if_neg (fun h => hv h.1)] at hR
    have HR := Lib.hid hR.symm
    clear hR hv
    generalize rightM 2 m = l at q2
    obtain ⟨c0, c1, c2, c3, c4, c5⟩ := HM.out.cells
    go_enter Try.func12, Try.ntmps12
    go_wp2_with fail
    ((with_reducible refine (q1 _).mono ?_); rintro e W1 ⟨rfl, b1⟩)
    clear c0 c1 c2 c3 c4 c5
    obtain ⟨c0, c1, c2, c3, c4, c5⟩ := (HM.out.below b1).cells
    have HB1 := Lib.hid b1; clear b1
    go_wp2_with fail
    ((with_reducible refine (q2 _).mono ?_); rintro e W2 ⟨rfl, b2⟩)
    have HB2 := Lib.hid (bch HB1.out b2); clear b2
    clear c0 c1 c2 c3 c4 c5
    go_wp2_with fail
    go_ret2
    exact ⟨by rw [HR.out]; rfl, bch HB0.out HB2.out⟩

set_option maxRecDepth 100000 in
set_option maxHeartbeats 8000000 in
theorem refencodeW_1 (m : Mg) (hs : m.body.size ≤ 140737488355328) (hok : rightM 1 m = true) (w : World) :
    Calls Try.prog 12 #[.int .i64 1, mgV m] w fun e w' => e = .returned (.tuple #[.string (bs (wE 1 m).1), .int .i64 (wE 1 m).2]) ∧ Below w.heap.size w w' := by
  have hr := rightM_iff.1 hok
  have HW := Lib.hid (fieldsM_wf hr)
  have HR0 := Lib.hid (wE_ok hok)
  obtain ⟨f1, f2, f3⟩ := fields_right hr
  have HE : Hid (encR (fieldsM m) = (encL (fieldsM m), 0)) := by show _ = _; unfold encR; rw [if_pos f1, if_pos (by omega)]
  have HV : Hid ((1 ≤ m.kind ∧ m.kind ≤ 20) ∧ (0 ≤ m.frm ∧ m.frm ≤ 9007199254740992) ∧ (0 ≤ m.to ∧ m.to ≤ 9007199254740992) ∧ (0 ≤ m.seq ∧ m.seq ≤ 9007199254740992) ∧ (0 ≤ m.trace ∧ m.trace ≤ 9007199254740992) ∧ m.body.size ≤ 1000) := hr.2
  have hok2 : rightM 2 m = true := rightM_iff.2 hr.older
  obtain ⟨T, hT⟩ : ∃ T, bs (encL (fieldsM m)) = T := ⟨_, rfl⟩
  have zT : T.size ≤ 6030 := by rw [← hT, bs_size]; exact f3
  obtain ⟨P, hP⟩ : ∃ P, bs [UInt8.ofNat (1 : Int).toNat] = P := ⟨_, rfl⟩
  have zP : P.size = 1 := by rw [← hP, bs_size]; rfl
  have hadd : ∀ W : World, (Op.stringOp .add P T).run Try.prog W = .ok (.string (bs (UInt8.ofNat (1 : Int).toNat :: encL (fieldsM m)))) W := fun W => by
    rw [str_add (by omega) W, ← hP, ← hT, bs_append]; rfl
  have hb0 : Below w.heap.size w (w.alloc (.cells #[.int .i64 m.kind, .int .i64 m.frm, .int .i64 m.to, .int .i64 m.seq, .string m.body, .int .i64 m.trace] 23)) := (Below.refl _ _).alloc (Nat.le_refl _) _
  have hm0 := MgBlk.new w m
  have q1 := fun W => refrightW_any 1 m hs W
  have q2 := fun W => refrightW_any 2 m hs W
  unfold mgV at *
  obtain ⟨W0, hW0⟩ : ∃ W, w.alloc (.cells #[.int .i64 m.kind, .int .i64 m.frm, .int .i64 m.to, .int .i64 m.seq, .string m.body, .int .i64 m.trace] 23) = W := ⟨_, rfl⟩
  rw [hW0] at hb0 hm0
  have HB0 := Lib.hid hb0; clear hb0
  have HM := Lib.hid hm0; clear hm0
  rw [hok] at q1
  rw [hok2] at q2
  clear hok hok2 hr f1 f2 f3 zT zP
  obtain ⟨c0, c1, c2, c3, c4, c5⟩ := HM.out.cells
  go_enter Try.func12, Try.ntmps12
  go_wp2_with fail
  ((with_reducible refine (q1 _).mono ?_); rintro e W1 ⟨rfl, b1⟩)
  clear c0 c1 c2 c3 c4 c5
  obtain ⟨c0, c1, c2, c3, c4, c5⟩ := (HM.out.below b1).cells
  have HB1 := Lib.hid b1; clear b1
  go_wp2_with fail
  ((with_reducible refine (q2 _).mono ?_); rintro e W2 ⟨rfl, b2⟩)
  have HB2 := Lib.hid (bch HB1.out b2); clear b2
  clear c0 c1 c2 c3 c4 c5
  have HR2 : Hid (RowF W2 W0.heap.size (.slice none 0 0) []) := World.ownsRow_nil _ _ _ _
  obtain ⟨c0, c1, c2, c3, c4, c5⟩ := (HM.out.below HB2.out).cells
  clear c0 c1 c2 c3 c4 c5
  obtain ⟨c0, c1, c2, c3, c4, c5⟩ := (HM.out.below HB2.out).cells
  go_wp2_with fail
  ((with_reducible refine (refnumberW W0.heap.size (.slice none 0 0) ([]) 1 m.kind W2 HR2.out HB2.out.size (by have := numF_len 1 m.kind; have := numF_len 2 m.frm; have := numF_len 3 m.to; have := numF_len 4 m.seq; have := opt_len 5 (ob m.body); simp; try omega) (by have := HV.out; omega) (by have := HV.out; omega)).mono ?_); rintro e W3 ⟨v3, rfl, r, b⟩)
  have HR3 := Lib.hid r; clear r
  have HB3 := Lib.hid (HB2.out.trans b); clear b
  clear c0 c1 c2 c3 c4 c5
  obtain ⟨c0, c1, c2, c3, c4, c5⟩ := (HM.out.below HB3.out).cells
  go_wp2_with fail
  ((with_reducible refine (refnumberW W0.heap.size v3 ([] ++ numF 1 m.kind) 2 m.frm W3 HR3.out HB3.out.size (by have := numF_len 1 m.kind; have := numF_len 2 m.frm; have := numF_len 3 m.to; have := numF_len 4 m.seq; have := opt_len 5 (ob m.body); simp; try omega) (by have := HV.out; omega) (by have := HV.out; omega)).mono ?_); rintro e W4 ⟨v4, rfl, r, b⟩)
  have HR4 := Lib.hid r; clear r
  have HB4 := Lib.hid (HB3.out.trans b); clear b
  clear c0 c1 c2 c3 c4 c5
  obtain ⟨c0, c1, c2, c3, c4, c5⟩ := (HM.out.below HB4.out).cells
  go_wp2_with fail
  ((with_reducible refine (refnumberW W0.heap.size v4 (([] ++ numF 1 m.kind) ++ numF 2 m.frm) 3 m.to W4 HR4.out HB4.out.size (by have := numF_len 1 m.kind; have := numF_len 2 m.frm; have := numF_len 3 m.to; have := numF_len 4 m.seq; have := opt_len 5 (ob m.body); simp; try omega) (by have := HV.out; omega) (by have := HV.out; omega)).mono ?_); rintro e W5 ⟨v5, rfl, r, b⟩)
  have HR5 := Lib.hid r; clear r
  have HB5 := Lib.hid (HB4.out.trans b); clear b
  clear c0 c1 c2 c3 c4 c5
  obtain ⟨c0, c1, c2, c3, c4, c5⟩ := (HM.out.below HB5.out).cells
  go_wp2_with fail
  ((with_reducible refine (refnumberW W0.heap.size v5 ((([] ++ numF 1 m.kind) ++ numF 2 m.frm) ++ numF 3 m.to) 4 m.seq W5 HR5.out HB5.out.size (by have := numF_len 1 m.kind; have := numF_len 2 m.frm; have := numF_len 3 m.to; have := numF_len 4 m.seq; have := opt_len 5 (ob m.body); simp; try omega) (by have := HV.out; omega) (by have := HV.out; omega)).mono ?_); rintro e W6 ⟨v6, rfl, r, b⟩)
  have HR6 := Lib.hid r; clear r
  have HB6 := Lib.hid (HB5.out.trans b); clear b
  clear c0 c1 c2 c3 c4 c5
  obtain ⟨c0, c1, c2, c3, c4, c5⟩ := (HM.out.below HB6.out).cells
  by_cases hb0 : m.body.size = 0
  · have e0 := (tl_size m.body).2 hb0
    clear c0 c1 c2 c3 c4 c5
    obtain ⟨c0, c1, c2, c3, c4, c5⟩ := (HM.out.below HB6.out).cells
    go_wp2_with fail
    ((with_reducible refine (refnumberW W0.heap.size v6 (((([] ++ numF 1 m.kind) ++ numF 2 m.frm) ++ numF 3 m.to) ++ numF 4 m.seq) 6 m.trace W6 HR6.out HB6.out.size (by have := numF_len 1 m.kind; have := numF_len 2 m.frm; have := numF_len 3 m.to; have := numF_len 4 m.seq; have := opt_len 5 (ob m.body); simp; try omega) (by have := HV.out; omega) (by have := HV.out; omega)).mono ?_); rintro e W7 ⟨v7, rfl, r, b⟩)
    have HR7 := Lib.hid r; clear r
    have HB7 := Lib.hid (HB6.out.trans b); clear b
    have HF : Hid ((((([] ++ numF 1 m.kind) ++ numF 2 m.frm) ++ numF 3 m.to) ++ numF 4 m.seq) ++ numF 6 m.trace = fieldsM m) := by
      show _ = _; rw [fieldsM_num]; rw [ob_none.2 hb0]; simp [opt]
    obtain ⟨A, cap, hv, hcap, hfs⟩ := isFs_own HR7.out (by rw [HF.out]; exact HW.out)
    rw [HF.out] at hv hfs
    generalize (fieldsM m).length = nl at hv hfs
    subst hv
    have q6 := fun W (hb : Below W7.heap.size W7 W) => refencode_any A nl cap _ W (hfs.below hb)
    rw [HE.out] at q6
    have Q6 := Lib.hid q6; clear q6 hfs hcap
    clear c0 c1 c2 c3 c4 c5
    go_wp2_with fail
    ((with_reducible refine (Q6.out _ (Below.refl _ _)).mono ?_); rintro e W9 ⟨rfl, b⟩)
    have HB9 := Lib.hid (bch (bch HB0.out HB7.out) b); clear b
    have hcv := conv_one W9 1
    rw [hP] at hcv
    go_wp2_with fail
    go_ret2
    exact ⟨by rw [HR0.out]; rfl, HB9.out.alloc HB9.out.size _⟩
  · have e0 := tl_ne0 hb0
    obtain ⟨i0, hi, hz0, hz1, hz2⟩ := info_parts infoFld
    obtain ⟨L4, hL4⟩ : ∃ l, ((([] ++ numF 1 m.kind) ++ numF 2 m.frm) ++ numF 3 m.to) ++ numF 4 m.seq = l := ⟨_, rfl⟩
    have hr1 : RowF (W6.alloc (.cells #[.int .i64 5, .string m.body] 47)) W0.heap.size v6 L4 := by rw [← hL4]; exact HR6.out.below ((Below.refl _ _).alloc (Nat.le_refl _) _)
    have hb1 : Below W0.heap.size W0 (W6.alloc (.cells #[.int .i64 5, .string m.body] 47)) := HB6.out.alloc HB6.out.size _
    have HR6a := Lib.hid hr1; clear hr1
    have HB6a := Lib.hid hb1; clear hb1
    have HBN := Lib.hid hb0; clear hb0
    have HLL : Hid (L4.length ≤ 4) := by
      show _ ≤ _; rw [← hL4]; have := numF_len 1 m.kind; have := numF_len 2 m.frm; have := numF_len 3 m.to; have := numF_len 4 m.seq; simp; omega
    have HL4 := Lib.hid hL4; clear hL4
    go_wp2_with (at_builtin; refine wpList_append_own_at _ rfl _ _ 42 rfl W0.heap.size 47 i0 (.agg #[.int .i64 0, .string ⟨#[]⟩]) 2 24 Try.underlying42 hi hz0 hz1 hz2 rfl (by decide) _ _ _ rfl HR6a.out ⟨W6.heap.size, 0, none⟩ 1 1 [.int .i64 5, .string m.body] rfl rfl (cell_two_new W6 _ _ _) ?c2 ?c3 ?c4 ?c5 ?_)
    case c2 => intro u hu; simp at hu; rcases hu with rfl | rfl <;> rfl
    case c3 => have := HLL.out; unfold maxLen; omega
    case c4 => have := HLL.out; omega
    case c5 => have := HB6.out.size; simp; omega
    intro v7 W7 hown hgrow _ _
    have hr2 : RowF W7 W0.heap.size v7 (L4 ++ opt 5 (ob m.body)) := by
      have : opt 5 (ob m.body) = [(5, m.body)] := by unfold ob; rw [if_neg HBN.out]; rfl
      rw [this]
      unfold RowF
      rw [cellsF_append, List.length_append]; exact hown
    have hb2 : Below W0.heap.size W0 W7 := HB6a.out.grown hgrow HB6a.out.size (fun g hg => (HR6a.out.lt g hg).1)
    have HR7 := Lib.hid hr2; clear hr2 hown hgrow
    have HB7 := Lib.hid hb2; clear hb2
    clear c0 c1 c2 c3 c4 c5
    obtain ⟨c0, c1, c2, c3, c4, c5⟩ := (HM.out.below HB7.out).cells
    go_wp2_with fail
    ((with_reducible refine (refnumberW W0.heap.size v7 (L4 ++ opt 5 (ob m.body)) 6 m.trace W7 HR7.out HB7.out.size (by have := numF_len 1 m.kind; have := numF_len 2 m.frm; have := numF_len 3 m.to; have := numF_len 4 m.seq; have := opt_len 5 (ob m.body); have := HLL.out; simp; try omega) (by have := HV.out; omega) (by have := HV.out; omega)).mono ?_); rintro e W8 ⟨v8, rfl, r, b⟩)
    have HR8 := Lib.hid r; clear r
    have HB8 := Lib.hid (HB7.out.trans b); clear b
    have HF : Hid ((L4 ++ opt 5 (ob m.body)) ++ numF 6 m.trace = fieldsM m) := by
      show _ = _; rw [← HL4.out, fieldsM_num]
    obtain ⟨A, cap, hv, hcap, hfs⟩ := isFs_own HR8.out (by rw [HF.out]; exact HW.out)
    rw [HF.out] at hv hfs
    generalize (fieldsM m).length = nl at hv hfs
    subst hv
    have q6 := fun W (hb : Below W8.heap.size W8 W) => refencode_any A nl cap _ W (hfs.below hb)
    rw [HE.out] at q6
    have Q6 := Lib.hid q6; clear q6 hfs hcap
    clear c0 c1 c2 c3 c4 c5
    go_wp2_with fail
    ((with_reducible refine (Q6.out _ (Below.refl _ _)).mono ?_); rintro e W9 ⟨rfl, b⟩)
    have HB9 := Lib.hid (bch (bch HB0.out HB8.out) b); clear b
    have hcv := conv_one W9 1
    rw [hP] at hcv
    go_wp2_with fail
    go_ret2
    exact ⟨by rw [HR0.out]; rfl, HB9.out.alloc HB9.out.size _⟩

set_option maxRecDepth 100000 in
set_option maxHeartbeats 8000000 in
theorem refencodeW_2 (m : Mg) (hs : m.body.size ≤ 140737488355328) (hok : rightM 2 m = true) (w : World) :
    Calls Try.prog 12 #[.int .i64 2, mgV m] w fun e w' => e = .returned (.tuple #[.string (bs (wE 2 m).1), .int .i64 (wE 2 m).2]) ∧ Below w.heap.size w w' := by
  have hr := rightM_iff.1 hok
  have HW := Lib.hid (fieldsM_wf hr)
  have HR0 := Lib.hid (wE_ok hok)
  obtain ⟨f1, f2, f3⟩ := fields_right hr
  have HE : Hid (encR (fieldsM m) = (encL (fieldsM m), 0)) := by show _ = _; unfold encR; rw [if_pos f1, if_pos (by omega)]
  have HV : Hid ((1 ≤ m.kind ∧ m.kind ≤ 20) ∧ (0 ≤ m.frm ∧ m.frm ≤ 9007199254740992) ∧ (0 ≤ m.to ∧ m.to ≤ 9007199254740992) ∧ (0 ≤ m.seq ∧ m.seq ≤ 9007199254740992) ∧ (0 ≤ m.trace ∧ m.trace ≤ 9007199254740992) ∧ m.body.size ≤ 1000) := hr.2
  have hok2 : rightM 2 m = true := hok
  obtain ⟨T, hT⟩ : ∃ T, bs (encL (fieldsM m)) = T := ⟨_, rfl⟩
  have zT : T.size ≤ 6030 := by rw [← hT, bs_size]; exact f3
  obtain ⟨P, hP⟩ : ∃ P, bs [UInt8.ofNat (2 : Int).toNat] = P := ⟨_, rfl⟩
  have zP : P.size = 1 := by rw [← hP, bs_size]; rfl
  have hadd : ∀ W : World, (Op.stringOp .add P T).run Try.prog W = .ok (.string (bs (UInt8.ofNat (2 : Int).toNat :: encL (fieldsM m)))) W := fun W => by
    rw [str_add (by omega) W, ← hP, ← hT, bs_append]; rfl
  have hb0 : Below w.heap.size w (w.alloc (.cells #[.int .i64 m.kind, .int .i64 m.frm, .int .i64 m.to, .int .i64 m.seq, .string m.body, .int .i64 m.trace] 23)) := (Below.refl _ _).alloc (Nat.le_refl _) _
  have hm0 := MgBlk.new w m
  have q1 := fun W => refrightW_any 2 m hs W
  have q2 := fun W => refrightW_any 2 m hs W
  unfold mgV at *
  obtain ⟨W0, hW0⟩ : ∃ W, w.alloc (.cells #[.int .i64 m.kind, .int .i64 m.frm, .int .i64 m.to, .int .i64 m.seq, .string m.body, .int .i64 m.trace] 23) = W := ⟨_, rfl⟩
  rw [hW0] at hb0 hm0
  have HB0 := Lib.hid hb0; clear hb0
  have HM := Lib.hid hm0; clear hm0
  rw [hok] at q1
  rw [hok2] at q2
  clear hok hok2 hr f1 f2 f3 zT zP
  obtain ⟨c0, c1, c2, c3, c4, c5⟩ := HM.out.cells
  go_enter Try.func12, Try.ntmps12
  go_wp2_with fail
  ((with_reducible refine (q1 _).mono ?_); rintro e W1 ⟨rfl, b1⟩)
  clear c0 c1 c2 c3 c4 c5
  obtain ⟨c0, c1, c2, c3, c4, c5⟩ := (HM.out.below b1).cells
  have HB1 := Lib.hid b1; clear b1
  go_wp2_with fail
  ((with_reducible refine (q2 _).mono ?_); rintro e W2 ⟨rfl, b2⟩)
  have HB2 := Lib.hid (bch HB1.out b2); clear b2
  clear c0 c1 c2 c3 c4 c5
  have HR2 : Hid (RowF W2 W0.heap.size (.slice none 0 0) []) := World.ownsRow_nil _ _ _ _
  obtain ⟨c0, c1, c2, c3, c4, c5⟩ := (HM.out.below HB2.out).cells
  clear c0 c1 c2 c3 c4 c5
  obtain ⟨c0, c1, c2, c3, c4, c5⟩ := (HM.out.below HB2.out).cells
  go_wp2_with fail
  ((with_reducible refine (refnumberW W0.heap.size (.slice none 0 0) ([]) 1 m.kind W2 HR2.out HB2.out.size (by have := numF_len 1 m.kind; have := numF_len 2 m.frm; have := numF_len 3 m.to; have := numF_len 4 m.seq; have := opt_len 5 (ob m.body); simp; try omega) (by have := HV.out; omega) (by have := HV.out; omega)).mono ?_); rintro e W3 ⟨v3, rfl, r, b⟩)
  have HR3 := Lib.hid r; clear r
  have HB3 := Lib.hid (HB2.out.trans b); clear b
  clear c0 c1 c2 c3 c4 c5
  obtain ⟨c0, c1, c2, c3, c4, c5⟩ := (HM.out.below HB3.out).cells
  go_wp2_with fail
  ((with_reducible refine (refnumberW W0.heap.size v3 ([] ++ numF 1 m.kind) 2 m.frm W3 HR3.out HB3.out.size (by have := numF_len 1 m.kind; have := numF_len 2 m.frm; have := numF_len 3 m.to; have := numF_len 4 m.seq; have := opt_len 5 (ob m.body); simp; try omega) (by have := HV.out; omega) (by have := HV.out; omega)).mono ?_); rintro e W4 ⟨v4, rfl, r, b⟩)
  have HR4 := Lib.hid r; clear r
  have HB4 := Lib.hid (HB3.out.trans b); clear b
  clear c0 c1 c2 c3 c4 c5
  obtain ⟨c0, c1, c2, c3, c4, c5⟩ := (HM.out.below HB4.out).cells
  go_wp2_with fail
  ((with_reducible refine (refnumberW W0.heap.size v4 (([] ++ numF 1 m.kind) ++ numF 2 m.frm) 3 m.to W4 HR4.out HB4.out.size (by have := numF_len 1 m.kind; have := numF_len 2 m.frm; have := numF_len 3 m.to; have := numF_len 4 m.seq; have := opt_len 5 (ob m.body); simp; try omega) (by have := HV.out; omega) (by have := HV.out; omega)).mono ?_); rintro e W5 ⟨v5, rfl, r, b⟩)
  have HR5 := Lib.hid r; clear r
  have HB5 := Lib.hid (HB4.out.trans b); clear b
  clear c0 c1 c2 c3 c4 c5
  obtain ⟨c0, c1, c2, c3, c4, c5⟩ := (HM.out.below HB5.out).cells
  go_wp2_with fail
  ((with_reducible refine (refnumberW W0.heap.size v5 ((([] ++ numF 1 m.kind) ++ numF 2 m.frm) ++ numF 3 m.to) 4 m.seq W5 HR5.out HB5.out.size (by have := numF_len 1 m.kind; have := numF_len 2 m.frm; have := numF_len 3 m.to; have := numF_len 4 m.seq; have := opt_len 5 (ob m.body); simp; try omega) (by have := HV.out; omega) (by have := HV.out; omega)).mono ?_); rintro e W6 ⟨v6, rfl, r, b⟩)
  have HR6 := Lib.hid r; clear r
  have HB6 := Lib.hid (HB5.out.trans b); clear b
  clear c0 c1 c2 c3 c4 c5
  obtain ⟨c0, c1, c2, c3, c4, c5⟩ := (HM.out.below HB6.out).cells
  by_cases hb0 : m.body.size = 0
  · have e0 := (tl_size m.body).2 hb0
    clear c0 c1 c2 c3 c4 c5
    obtain ⟨c0, c1, c2, c3, c4, c5⟩ := (HM.out.below HB6.out).cells
    go_wp2_with fail
    ((with_reducible refine (refnumberW W0.heap.size v6 (((([] ++ numF 1 m.kind) ++ numF 2 m.frm) ++ numF 3 m.to) ++ numF 4 m.seq) 6 m.trace W6 HR6.out HB6.out.size (by have := numF_len 1 m.kind; have := numF_len 2 m.frm; have := numF_len 3 m.to; have := numF_len 4 m.seq; have := opt_len 5 (ob m.body); simp; try omega) (by have := HV.out; omega) (by have := HV.out; omega)).mono ?_); rintro e W7 ⟨v7, rfl, r, b⟩)
    have HR7 := Lib.hid r; clear r
    have HB7 := Lib.hid (HB6.out.trans b); clear b
    have HF : Hid ((((([] ++ numF 1 m.kind) ++ numF 2 m.frm) ++ numF 3 m.to) ++ numF 4 m.seq) ++ numF 6 m.trace = fieldsM m) := by
      show _ = _; rw [fieldsM_num]; rw [ob_none.2 hb0]; simp [opt]
    obtain ⟨A, cap, hv, hcap, hfs⟩ := isFs_own HR7.out (by rw [HF.out]; exact HW.out)
    rw [HF.out] at hv hfs
    generalize (fieldsM m).length = nl at hv hfs
    subst hv
    have q6 := fun W (hb : Below W7.heap.size W7 W) => refencode_any A nl cap _ W (hfs.below hb)
    rw [HE.out] at q6
    have Q6 := Lib.hid q6; clear q6 hfs hcap
    clear c0 c1 c2 c3 c4 c5
    go_wp2_with fail
    ((with_reducible refine (Q6.out _ (Below.refl _ _)).mono ?_); rintro e W9 ⟨rfl, b⟩)
    have HB9 := Lib.hid (bch (bch HB0.out HB7.out) b); clear b
    have hcv := conv_one W9 2
    rw [hP] at hcv
    go_wp2_with fail
    go_ret2
    exact ⟨by rw [HR0.out]; rfl, HB9.out.alloc HB9.out.size _⟩
  · have e0 := tl_ne0 hb0
    obtain ⟨i0, hi, hz0, hz1, hz2⟩ := info_parts infoFld
    obtain ⟨L4, hL4⟩ : ∃ l, ((([] ++ numF 1 m.kind) ++ numF 2 m.frm) ++ numF 3 m.to) ++ numF 4 m.seq = l := ⟨_, rfl⟩
    have hr1 : RowF (W6.alloc (.cells #[.int .i64 5, .string m.body] 47)) W0.heap.size v6 L4 := by rw [← hL4]; exact HR6.out.below ((Below.refl _ _).alloc (Nat.le_refl _) _)
    have hb1 : Below W0.heap.size W0 (W6.alloc (.cells #[.int .i64 5, .string m.body] 47)) := HB6.out.alloc HB6.out.size _
    have HR6a := Lib.hid hr1; clear hr1
    have HB6a := Lib.hid hb1; clear hb1
    have HBN := Lib.hid hb0; clear hb0
    have HLL : Hid (L4.length ≤ 4) := by
      show _ ≤ _; rw [← hL4]; have := numF_len 1 m.kind; have := numF_len 2 m.frm; have := numF_len 3 m.to; have := numF_len 4 m.seq; simp; omega
    have HL4 := Lib.hid hL4; clear hL4
    go_wp2_with (at_builtin; refine wpList_append_own_at _ rfl _ _ 42 rfl W0.heap.size 47 i0 (.agg #[.int .i64 0, .string ⟨#[]⟩]) 2 24 Try.underlying42 hi hz0 hz1 hz2 rfl (by decide) _ _ _ rfl HR6a.out ⟨W6.heap.size, 0, none⟩ 1 1 [.int .i64 5, .string m.body] rfl rfl (cell_two_new W6 _ _ _) ?c2 ?c3 ?c4 ?c5 ?_)
    case c2 => intro u hu; simp at hu; rcases hu with rfl | rfl <;> rfl
    case c3 => have := HLL.out; unfold maxLen; omega
    case c4 => have := HLL.out; omega
    case c5 => have := HB6.out.size; simp; omega
    intro v7 W7 hown hgrow _ _
    have hr2 : RowF W7 W0.heap.size v7 (L4 ++ opt 5 (ob m.body)) := by
      have : opt 5 (ob m.body) = [(5, m.body)] := by unfold ob; rw [if_neg HBN.out]; rfl
      rw [this]
      unfold RowF
      rw [cellsF_append, List.length_append]; exact hown
    have hb2 : Below W0.heap.size W0 W7 := HB6a.out.grown hgrow HB6a.out.size (fun g hg => (HR6a.out.lt g hg).1)
    have HR7 := Lib.hid hr2; clear hr2 hown hgrow
    have HB7 := Lib.hid hb2; clear hb2
    clear c0 c1 c2 c3 c4 c5
    obtain ⟨c0, c1, c2, c3, c4, c5⟩ := (HM.out.below HB7.out).cells
    go_wp2_with fail
    ((with_reducible refine (refnumberW W0.heap.size v7 (L4 ++ opt 5 (ob m.body)) 6 m.trace W7 HR7.out HB7.out.size (by have := numF_len 1 m.kind; have := numF_len 2 m.frm; have := numF_len 3 m.to; have := numF_len 4 m.seq; have := opt_len 5 (ob m.body); have := HLL.out; simp; try omega) (by have := HV.out; omega) (by have := HV.out; omega)).mono ?_); rintro e W8 ⟨v8, rfl, r, b⟩)
    have HR8 := Lib.hid r; clear r
    have HB8 := Lib.hid (HB7.out.trans b); clear b
    have HF : Hid ((L4 ++ opt 5 (ob m.body)) ++ numF 6 m.trace = fieldsM m) := by
      show _ = _; rw [← HL4.out, fieldsM_num]
    obtain ⟨A, cap, hv, hcap, hfs⟩ := isFs_own HR8.out (by rw [HF.out]; exact HW.out)
    rw [HF.out] at hv hfs
    generalize (fieldsM m).length = nl at hv hfs
    subst hv
    have q6 := fun W (hb : Below W8.heap.size W8 W) => refencode_any A nl cap _ W (hfs.below hb)
    rw [HE.out] at q6
    have Q6 := Lib.hid q6; clear q6 hfs hcap
    clear c0 c1 c2 c3 c4 c5
    go_wp2_with fail
    ((with_reducible refine (Q6.out _ (Below.refl _ _)).mono ?_); rintro e W9 ⟨rfl, b⟩)
    have HB9 := Lib.hid (bch (bch HB0.out HB8.out) b); clear b
    have hcv := conv_one W9 2
    rw [hP] at hcv
    go_wp2_with fail
    go_ret2
    exact ⟨by rw [HR0.out]; rfl, HB9.out.alloc HB9.out.size _⟩

theorem refencodeW_any (v : Int) (m : Mg) (hs : m.body.size ≤ 140737488355328) (w : World) :
    Calls Try.prog 12 #[.int .i64 v, mgV m] w fun e w' => e = .returned (.tuple #[.string (bs (wE v m).1), .int .i64 (wE v m).2]) ∧ Below w.heap.size w w' := by
  cases hok : rightM v m with
  | false => exact refencodeW_no v m hs hok w
  | true =>
    rcases (rightM_iff.1 hok).v with rfl | rfl
    · exact refencodeW_1 m hs hok w
    · exact refencodeW_2 m hs hok w
end Go.Proofs.Ytjdpihppniibjaa
