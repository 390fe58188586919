import Derived.Test.YtndkmepdnekigaaCtPa
import Derived.Test.YtndkmepdnekigaaCtRightB
import Derived.Deep.DeepCutAuto
/-
  The contracts of the program's own mayMove, rightPlaces, rightMembers and Right, of slices.IndexFunc and ContainsFunc over places (stage 18).
-/
namespace Go.Proofs.Ytndkmepdnekigaa
open Go.RowKit Go.Lib
set_option linter.unusedVariables false
set_option linter.unusedSimpArgs false

abbrev plV9 (p : PlR) : Value := .agg #[.int .i64 p.1, .int .i64 p.2.1, .int .i64 p.2.2]
/-- May a place move to whom it does? -/
def mayMv (l : List MbR) (p : PlR) : Bool := p.2.2 == 0 || (decide (isMem l p.2.2) && p.2.2 != p.1)
/-- Is a place wrong? -/
def badP (l : List MbR) (p : PlR) : Bool := !decide (isMem l p.1) || !wi9 p.2.1 1 9007199254740992 || !mayMv l p
theorem badP_iff {l : List MbR} {p : PlR} : badP l p = false ↔ PlOk l p := by
  unfold badP PlOk mayMv wi9
  simp only [Bool.or_eq_false_iff, Bool.not_eq_false', decide_eq_true_eq, Bool.or_eq_true, Bool.and_eq_true, beq_iff_eq, bne_iff_ne, ne_eq]
  constructor
  · rintro ⟨⟨h1, h2, h3⟩, h4⟩; exact ⟨h1, h2, h3, h4⟩
  · rintro ⟨h1, h2, h3, h4⟩; exact ⟨⟨h1, h2, h3⟩, h4⟩
set_option maxRecDepth 100000 in
set_option maxHeartbeats 8000000 in
theorem mayMove9_any (l : List MbR) (A : Option Addr) (n cap : Nat) (ow ep tz : Int) (w : World) (h : IsG s2 w A n l) (hr : RiseM l) (h8 : n ≤ 8) :
    Calls Try.prog 64 #[.slice A n cap, .agg #[.int .i64 ow, .int .i64 ep, .int .i64 tz]] w fun e w' => e = .returned (.bool (mayMv l (ow, ep, tz))) ∧ Below w.heap.size w w' := by
  have HX := Blk.new w (.cells #[.int .i64 ow, .int .i64 ep, .int .i64 tz] 48)
  have HB := (Below.refl w.heap.size w).alloc (Nat.le_refl _) (.cells #[.int .i64 ow, .int .i64 ep, .int .i64 tz] 48)
  have HC := h.below HB
  obtain ⟨W, hW⟩ : ∃ W, w.alloc (.cells #[.int .i64 ow, .int .i64 ep, .int .i64 tz] 48) = W := ⟨_, rfl⟩
  rw [hW] at HX HB HC
  have HHX := Lib.hid HX; clear HX
  have HHB := Lib.hid HB; clear HB
  have q := find9_any A n cap l tz W HC hr h8
  have HE : Hid (∀ th : Bool, th = decide (isMem l tz) → mayMv l (ow, ep, tz) = (tz == 0 || (th && tz != ow))) := fun th e => by rw [e]; rfl
  have HR := Lib.hid hr
  clear HC h hr
  generalize mayMv l (ow, ep, tz) = R at *
  have z0 := Blk.cell HHX.out 0
  have z2 := Blk.cell HHX.out 2
  simp only [List.getElem?_toArray, List.getElem?_cons_zero, List.getElem?_cons_succ] at z0 z2
  go_enter Try.func64, Try.ntmps64
  go_upto_region 1 with fail
  try rw [hW]
  clear hW
  go_wp2_with fail
  ((with_reducible refine (q).mono ?_); rintro e W1 ⟨⟨i, th, hp, rfl⟩, b1⟩)
  have HT := HE.out th (placeM_mem HR.out hp)
  have z0 := Blk.cell (Blk.below HHX.out b1) 0
  have z1 := Blk.cell (Blk.below HHX.out b1) 1
  have z2 := Blk.cell (Blk.below HHX.out b1) 2
  simp only [List.getElem?_toArray, List.getElem?_cons_zero, List.getElem?_cons_succ] at z0 z1 z2
  have HB1 := Lib.hid (bch HHB.out b1)
  clear hp b1 q HE HHX HHB HR
  have HT2 := Lib.hid HT; clear HT
  by_cases h1 : tz = 0
  · subst h1
    cases th
    · go_wp2_with fail
      go_ret
      exact ⟨ret_bool (by rw [HT2.out]; rfl), HB1.out⟩
    · go_wp2_with fail
      go_ret
      exact ⟨ret_bool (by rw [HT2.out]; rfl), HB1.out⟩
  · have e1 : (tz == 0) = false := by simpa using h1
    clear h1
    cases th
    · go_wp2_with fail
      go_ret
      exact ⟨ret_bool (by rw [HT2.out, e1]; rfl), HB1.out⟩
    · cases e2 : (tz != ow)
      · go_wp2_with fail
        go_ret
        exact ⟨ret_bool (by rw [HT2.out, e1, e2]; rfl), HB1.out⟩
      · go_wp2_with fail
        go_ret
        exact ⟨ret_bool (by rw [HT2.out, e1, e2]; rfl), HB1.out⟩
set_option maxRecDepth 100000 in
set_option maxHeartbeats 8000000 in
theorem rp1_any (c : CtR) (A B : Option Addr) (n cap m cm g : Nat) (ow ep tz : Int) (w : World) (hg : Blk w g (ctB c A n cap B m cm)) (h : IsG s2 w A n c.mem) (hr : RiseM c.mem) (h8 : n ≤ 8) :
    Calls Try.prog 63 #[.agg #[.int .i64 ow, .int .i64 ep, .int .i64 tz], .pointer (some ⟨g, 0, none⟩)] w fun e w' => e = .returned (.bool (badP c.mem (ow, ep, tz))) ∧ Below w.heap.size w w' := by
  have HX := Blk.new w (.cells #[.int .i64 ow, .int .i64 ep, .int .i64 tz] 48)
  have HB := (Below.refl w.heap.size w).alloc (Nat.le_refl _) (.cells #[.int .i64 ow, .int .i64 ep, .int .i64 tz] 48)
  have HC := h.below HB
  have HG := Blk.below hg HB
  obtain ⟨W, hW⟩ : ∃ W, w.alloc (.cells #[.int .i64 ow, .int .i64 ep, .int .i64 tz] 48) = W := ⟨_, rfl⟩
  rw [hW] at HX HB HC HG
  have HHX := Lib.hid HX; clear HX
  have HHB := Lib.hid HB; clear HB
  have q := find9_any A n cap c.mem ow W HC hr h8
  have HE : Hid (∀ th : Bool, th = decide (isMem c.mem ow) → badP c.mem (ow, ep, tz) = (!th || !wi9 ep 1 9007199254740992 || !mayMv c.mem (ow, ep, tz))) := fun th e => by rw [e]; rfl
  have HR := Lib.hid hr
  have HHG := Lib.hid HG; clear HG
  have HHC := Lib.hid HC; clear HC
  clear h hr hg
  generalize badP c.mem (ow, ep, tz) = R at *
  have z0 := Blk.cell HHX.out 0
  have g1 := Blk.cell HHG.out 1
  simp only [List.getElem?_toArray, List.getElem?_cons_zero, List.getElem?_cons_succ] at z0 g1
  go_enter Try.func63, Try.ntmps63
  go_upto_region 1 with fail
  try rw [hW]
  clear hW
  go_wp2_with fail
  ((with_reducible refine (q).mono ?_); rintro e W1 ⟨⟨i, th, hp, rfl⟩, b1⟩)
  have HT := HE.out th (placeM_mem HR.out hp)
  have q1 := fun W => within9_any ep 1 9007199254740992 W
  have q2 := mayMove9_any c.mem A n cap ow ep tz W1 (HHC.out.below b1) HR.out h8
  have z0 := Blk.cell (Blk.below HHX.out b1) 0
  have z1 := Blk.cell (Blk.below HHX.out b1) 1
  have z2 := Blk.cell (Blk.below HHX.out b1) 2
  have g1 := Blk.cell (Blk.below HHG.out b1) 1
  simp only [List.getElem?_toArray, List.getElem?_cons_zero, List.getElem?_cons_succ] at z0 z1 z2 g1
  have HB1 := Lib.hid (bch HHB.out b1)
  clear hp b1 q HE HHX HHB HR HHG HHC
  have HT2 := Lib.hid HT; clear HT
  generalize wi9 ep 1 9007199254740992 = u at *
  generalize mayMv c.mem (ow, ep, tz) = v at *
  cases th with
  | false =>
    go_wp2_with fail
    go_ret
    exact ⟨ret_bool (by rw [HT2.out]; rfl), HB1.out⟩
  | true =>
    cases u with
    | false =>
      go_wp2_with fail
      ((with_reducible refine (q1 _).mono ?_); rintro e W2 ⟨rfl, rfl⟩)
      go_wp2_with fail
      go_ret
      exact ⟨ret_bool (by rw [HT2.out]; rfl), HB1.out⟩
    | true =>
      go_wp2_with fail
      ((with_reducible refine (q1 _).mono ?_); rintro e W2 ⟨rfl, rfl⟩)
      go_wp2_with fail
      ((with_reducible refine (q2).mono ?_); rintro e W2 ⟨rfl, b2⟩)
      go_wp2_with fail
      go_ret
      exact ⟨ret_bool (by rw [HT2.out]; cases v <;> rfl), bch HB1.out b2⟩
/-- Where the first one is, of which it holds; -1: there is none. -/
def idx9 {α : Type} (p : α → Bool) (l : List α) : Int := match l.findIdx? p with
  | some i => (i : Int)
  | none => -1
theorem find9_at {α : Type} {l : List α} {p : α → Bool} {at_ : Nat → α} (hg : ∀ {i}, i < l.length → l[i]? = some (at_ i)) {k : Nat} (hk : k < l.length) (hp : p (at_ k) = true) (hb : ∀ j, j < k → p (at_ j) = false) : l.findIdx? p = some k := by
  rw [List.findIdx?_eq_some_iff_getElem]
  have e : ∀ j (h : j < l.length), l[j] = at_ j := fun j h => by have := hg h; rw [List.getElem?_eq_getElem h] at this; exact Option.some.inj this
  exact ⟨hk, by rw [e]; exact hp, fun j hj => by rw [e]; simpa using hb j hj⟩
theorem find9_no {α : Type} {l : List α} {p : α → Bool} {at_ : Nat → α} (hg : ∀ {i}, i < l.length → l[i]? = some (at_ i)) (hb : ∀ j, j < l.length → p (at_ j) = false) : l.findIdx? p = none := by
  rw [List.findIdx?_eq_none_iff]
  intro x hx
  obtain ⟨j, hj, rfl⟩ := List.getElem_of_mem hx
  have h1 := hg hj
  rw [List.getElem?_eq_getElem hj] at h1
  rw [Option.some.inj h1]; exact hb j hj
theorem idx9_any {α : Type} (p : α → Bool) (l : List α) : decide (0 ≤ idx9 p l) = l.any p := by
  unfold idx9
  cases h : l.findIdx? p with
  | none =>
    rw [List.findIdx?_eq_none_iff] at h
    have : l.any p = false := List.any_eq_false.2 fun x hx => by rw [h x hx]; simp
    rw [this]; rfl
  | some i =>
    obtain ⟨hi, hp, _⟩ := List.findIdx?_eq_some_iff_getElem.1 h
    have : l.any p = true := List.any_eq_true.2 ⟨l[i], List.getElem_mem _, hp⟩
    rw [this]; exact decide_eq_true (Int.natCast_nonneg i)
set_option maxRecDepth 100000 in
set_option maxHeartbeats 8000000 in
theorem indexP9_any (l : List PlR) (p : PlR → Bool) (F : Nat) (P : Value) (A : Option Addr) (n cap : Nat) (w : World) (h : IsG s3 w A n l) (cf : ∀ args w, (callFunc F args).run Try.prog w = .ok (.enter F args) w) (hf : ∀ k, k < l.length → ∀ W : World, Below w.heap.size w W → Calls Try.prog F #[.agg #[.int .i64 (atP9 l k).1, .int .i64 (atP9 l k).2.1, .int .i64 (atP9 l k).2.2], P] W fun e W' => e = .returned (.bool (p (atP9 l k))) ∧ Below W.heap.size W W') :
    Calls Try.prog 50 #[.slice A n cap, .func (.func F) #[] #[P]] w fun e w' => e = .returned (.int .i64 (idx9 p l)) ∧ Below w.heap.size w w' := by
  have hn9 := h.2.1
  unfold maxLen at hn9
  have HN : Hid (n = l.length) := h.1
  have HT := Lib.hid h; clear h
  have HF := Lib.hid hf; clear hf
  have HIS : Hid (∀ k, k < l.length → p (atP9 l k) = true → (∀ j, j < k → p (atP9 l j) = false) → idx9 p l = k) := fun k h1 h2 h3 => by unfold idx9; rw [find9_at (at_ := atP9 l) (fun h => atP9_get h) h1 h2 h3]
  have HNO : Hid ((∀ j, j < l.length → p (atP9 l j) = false) → idx9 p l = -1) := fun h => by unfold idx9; rw [find9_no (at_ := atP9 l) (fun h => atP9_get h) h]
  generalize idx9 p l = R at *
  go_enter Try.func50, Try.ntmps50
  go_wp2_with fail
  go_loopw [8] (fun i wy => ∃ (j : Nat) (wr : World), wr = wy ∧ j ≤ n ∧ i = .int .i64 j ∧ (∀ q, q < j → p (atP9 l q) = false) ∧ Below w.heap.size w wr) (fun i _ => n - (intOf i).toNat)
  case atStart => exact ⟨0, _, rfl, by omega, rfl, (fun q hq => by omega), Below.refl _ _⟩
  case round =>
    obtain ⟨j, wr, rfl, hj, rfl, hall, hb⟩ := hrel
    have HB := Lib.hid hb; clear hb
    have HALL := Lib.hid hall; clear hall
    by_cases hlt : j < n
    · have hji : (j : Int) < (n : Int) := by omega
      have hj0 : (0 : Int) ≤ (j : Int) := by omega
      have HJL : Hid (j < l.length) := by have := HN.out; show _ < _; omega
      obtain ⟨b, off, hA, hlb, x0, x1, x2⟩ := is3_at (HT.out.below HB.out) (atP9_get HJL.out)
      subst hA; clear hlb
      have q := HF.out j HJL.out wr HB.out
      have HSTEP : Hid (p (atP9 l j) = false → ∀ q, q < j + 1 → p (atP9 l q) = false) := fun e q hq => by
        rcases (by omega : q < j ∨ q = j) with h | rfl
        · exact HALL.out q h
        · exact e
      have HYES := Lib.hid (HIS.out j HJL.out)
      generalize atP9 l j = z at *
      obtain ⟨b, hbb⟩ : ∃ b, p z = b := ⟨_, rfl⟩
      have HBB := Lib.hid hbb
      rw [hbb] at q
      clear hbb
      cases b with
      | false =>
        go_wp2_with fail
        ((with_reducible refine q.mono ?_); rintro e W1 ⟨rfl, b1⟩)
        have HB1 := Lib.hid (bch HB.out b1); clear b1 q x0 x1 x2
        go_wp2_with fail
        go_roundw
        case rel => exact ⟨j + 1, _, rfl, by omega, by go_num, HSTEP.out HBB.out, HB1.out⟩
        case measure => simp [intOf]; omega
      | true =>
        go_wp2_with fail
        ((with_reducible refine q.mono ?_); rintro e W1 ⟨rfl, b1⟩)
        have HB1 := Lib.hid (bch HB.out b1); clear b1 q x0 x1 x2
        go_wp2_with fail
        go_ret
        exact ⟨congrArg (fun z => Ending.returned (.int .i64 z)) (HYES.out HBB.out HALL.out).symm, HB1.out⟩
    · have hje : j = n := by omega
      subst hje
      clear hlt
      go_wp2_with fail
      go_ret
      exact ⟨congrArg (fun z => Ending.returned (.int .i64 z)) (HNO.out (fun q hq => HALL.out q (by have := HN.out; omega))).symm, HB.out⟩
set_option maxRecDepth 100000 in
set_option maxHeartbeats 8000000 in
theorem containsP9_any (l : List PlR) (p : PlR → Bool) (F : Nat) (P : Value) (A : Option Addr) (n cap : Nat) (w : World) (h : IsG s3 w A n l) (cf : ∀ args w, (callFunc F args).run Try.prog w = .ok (.enter F args) w) (hf : ∀ k, k < l.length → ∀ W : World, Below w.heap.size w W → Calls Try.prog F #[.agg #[.int .i64 (atP9 l k).1, .int .i64 (atP9 l k).2.1, .int .i64 (atP9 l k).2.2], P] W fun e W' => e = .returned (.bool (p (atP9 l k))) ∧ Below W.heap.size W W') :
    Calls Try.prog 62 #[.slice A n cap, .func (.func F) #[] #[P]] w fun e w' => e = .returned (.bool (l.any p)) ∧ Below w.heap.size w w' := by
  have q := indexP9_any l p F P A n cap w h cf hf
  have HA : Hid (decide (0 ≤ idx9 p l) = l.any p) := idx9_any p l
  clear h cf hf
  generalize l.any p = R at *
  generalize idx9 p l = z at *
  go_enter Try.func62, Try.ntmps62
  go_wp2_with fail
  ((with_reducible refine q.mono ?_); rintro e W1 ⟨rfl, b1⟩)
  clear q
  have HB1 := Lib.hid b1; clear b1
  by_cases hz : (0 : Int) ≤ z
  · have hz2 : decide ((0 : Int) ≤ z) = true := decide_eq_true hz
    go_wp2_with fail
    go_ret
    exact ⟨ret_bool (by rw [← HA.out]; first | done | exact hz2.symm | exact (decide_eq_true hz).symm | rfl), HB1.out⟩
  · have hz2 : decide ((0 : Int) ≤ z) = false := decide_eq_false hz
    go_wp2_with fail
    go_ret
    exact ⟨ret_bool (by rw [← HA.out]; first | done | exact hz2.symm | rfl), HB1.out⟩
theorem memOk_pos {lv : Int} {l : List MbR} : ∀ {k : Nat}, (∀ j, j < k → okM lv l j) → 0 ≤ lastM l k
  | 0, _ => Int.le_refl _
  | k + 1, h => by have h1 := memOk_pos (k := k) (fun j hj => h j (by omega)); have h2 := (h k (by omega)).1; show 0 ≤ (l.getD k (0, 0)).1; omega
theorem cf9rp (args : Array Value) (w : World) : (callFunc 63 args).run Try.prog w = .ok (.enter 63 args) w := run_callFunc_body9 Try.func63 (by kernel_rfl) (by kernel_rfl) args w
def memB9 (c : CtR) : Bool := decide ((1 ≤ c.mem.length ∧ c.mem.length ≤ 8) ∧ MemOk c.level c.mem)
def plB9 (c : CtR) : Bool := decide ((1 ≤ c.pl.length ∧ c.pl.length ≤ 8) ∧ ∀ p ∈ c.pl, PlOk c.mem p)
theorem right9_split (c : CtR) : rightC c = (ver9 c.level && memB9 c && plB9 c) := by
  have e1 : rightC c = true ↔ RightC c := by unfold rightC; exact decide_eq_true_iff
  rw [Bool.eq_iff_iff, e1]
  unfold memB9 plB9 ver9 RightC
  simp only [decide_eq_true_eq, Bool.and_eq_true, Bool.or_eq_true, beq_iff_eq]
  constructor
  · rintro ⟨h1, h2, h3, h4, h5⟩; exact ⟨⟨h1, h2, h4⟩, h3, h5⟩
  · rintro ⟨⟨h1, h2, h4⟩, h3, h5⟩; exact ⟨h1, h2, h3, h4, h5⟩
set_option maxRecDepth 100000 in
set_option maxHeartbeats 8000000 in
theorem rightMembers9_any (c : CtR) (A B : Option Addr) (n cap m cm : Nat) (w : World) (h : IsG s2 w A n c.mem) (hl : c.level = 1 ∨ c.level = 2) :
    Calls Try.prog 36 #[ctV c A n cap B m cm] w fun e w' => e = .returned (.bool (memB9 c)) ∧ Below w.heap.size w w' := by
  have hn := h.1
  have hnm := h.2.1
  unfold maxLen at hnm
  have HX := Blk.new w (ctB c A n cap B m cm)
  have HB := (Below.refl w.heap.size w).alloc (Nat.le_refl _) (ctB c A n cap B m cm)
  have HC := h.below HB
  obtain ⟨W, hW⟩ : ∃ W, w.alloc (ctB c A n cap B m cm) = W := ⟨_, rfl⟩
  rw [hW] at HX HB HC
  have HHX := Lib.hid HX; clear HX
  have HHB := Lib.hid HB; clear HB
  have HHC := Lib.hid HC; clear HC
  clear h
  have HN := Lib.hid hn; clear hn
  have HIFF : Hid (memB9 c = true ↔ (1 ≤ n ∧ n ≤ 8) ∧ ∀ j, j < n → okM c.level c.mem j) := by
    show _ ↔ _
    unfold memB9
    rw [decide_eq_true_iff, memOk_iff, HN.out]
  have HOK : Hid (∀ j, okM c.level c.mem j ↔ (lastM c.mem j < (atM9 c.mem j).1 ∧ (atM9 c.mem j).1 ≤ 100 ∧ binB c.level (atM9 c.mem j).2 = true)) := fun j => Iff.rfl
  have HLV := Lib.hid hl; clear hl
  have HNO : Hid (¬ ((1 ≤ n ∧ n ≤ 8) ∧ ∀ j, j < n → okM c.level c.mem j) → memB9 c = false) := fun h => by
    rw [Bool.eq_false_iff]; exact fun e => h (HIFF.out.1 e)
  generalize memB9 c = R at *
  have q := fun W => within9_any (n : Int) 1 8 W
  have c1 := Blk.cell HHX.out 1
  simp only [List.getElem?_toArray, List.getElem?_cons_zero, List.getElem?_cons_succ] at c1
  by_cases hw : 1 ≤ n ∧ n ≤ 8
  rotate_left
  · have HE : Hid (R = false) := HNO.out (fun h => hw h.1)
    rw [show wi9 (n : Int) 1 8 = false from decide_eq_false (by omega)] at q
    clear hw
    go_enter Try.func36, Try.ntmps36
    go_upto_region 1 with fail
    try rw [hW]
    clear hW
    go_wp2_with fail
    ((with_reducible refine (q _).mono ?_); rintro e W1 ⟨rfl, rfl⟩)
    go_wp2_with fail
    go_ret
    exact ⟨ret_bool HE.out.symm, HHB.out⟩
  rw [show wi9 (n : Int) 1 8 = true from decide_eq_true (by omega)] at q
  have HW := Lib.hid hw; clear hw
  go_enter Try.func36, Try.ntmps36
  go_upto_region 1 with fail
  try rw [hW]
  clear hW
  go_wp2_with fail
  ((with_reducible refine (q _).mono ?_); rintro e W1 ⟨rfl, rfl⟩)
  clear q
  go_wp2_with fail
  go_loopw [3, 14] (fun a i wy => ∃ (k : Nat) (wr : World), wr = wy ∧ k ≤ n ∧ a = .int .i64 (lastM c.mem k) ∧ i = .int .i64 k ∧ Hid (Below W.heap.size W wr) ∧ Hid (∀ j, j < k → okM c.level c.mem j)) (fun _ i _ => n - (intOf i).toNat)
  case atStart => exact ⟨0, _, rfl, by omega, rfl, rfl, Below.refl _ _, fun j hj => by omega⟩
  case round =>
    obtain ⟨k, wr, rfl, hk, rfl, rfl, hbw, hok⟩ := hrel
    clear c1
    have c0 := Blk.cell (Blk.below HHX.out hbw.out) 0
    have c1 := Blk.cell (Blk.below HHX.out hbw.out) 1
    simp only [List.getElem?_toArray, List.getElem?_cons_zero, List.getElem?_cons_succ] at c0 c1
    have HBW := Lib.hid (bch HHB.out hbw.out)
    by_cases hlt : k < n
    · have HK : Hid (k < c.mem.length) := by show k < _; rw [← HN.out]; exact hlt
      obtain ⟨b, off, hA, hb, y0, y1⟩ := is2_at (HHC.out.below hbw.out) (atM9_get HK.out)
      subst hA; clear hb
      have HS : Hid (okM c.level c.mem k → ∀ j, j < k + 1 → okM c.level c.mem j) := fun h j hj => by
        rcases Nat.lt_or_ge j k with h5 | h5
        · exact hok.out j h5
        · rw [show j = k by omega]; exact h
      have HPOS : Hid (0 ≤ lastM c.mem k) := memOk_pos (fun j hj => hok.out j hj)
      have HLAST : Hid (lastM c.mem (k + 1) = (atM9 c.mem k).1) := rfl
      have HNK : Hid (¬ okM c.level c.mem k → R = false) := fun h => HNO.out fun h2 => h (h2.2 k hlt)
      have HOKK := Lib.hid (HOK.out k)
      have HNEW := (hbw.out.alloc hbw.out.size (.cells #[.int .i64 (atM9 c.mem k).1, .int .i64 (atM9 c.mem k).2] 45))
      have HNEW2 := Lib.hid HNEW; clear HNEW
      generalize okM c.level c.mem k = OK at *
      generalize atM9 c.mem k = z at *
      generalize lastM c.mem k = last at *
      obtain ⟨x, b⟩ := z
      simp only at y0 y1 HOKK HLAST HNEW2
      have c0a := Blk.cell (Blk.below HHX.out HNEW2.out) 0
      simp only [List.getElem?_toArray, List.getElem?_cons_zero, List.getElem?_cons_succ] at c0a
      have HLV2 := HLV
      generalize c.level = lv at *
      have q1 := fun W => isName9_any x W
      have q2 := fun W => isVersion9_any b W
      by_cases h1 : x ≤ last
      · have HE : Hid (R = false) := HNK.out (fun h => by have := (HOKK.out.1 h).1; omega)
        have e1 : decide (x ≤ last) = true := decide_eq_true h1
        go_wp2_with fail
        go_ret
        exact ⟨ret_bool HE.out.symm, bch HHB.out HNEW2.out⟩
      have e1 : decide (x ≤ last) = false := decide_eq_false h1
      by_cases h2 : 1 ≤ x ∧ x ≤ 100
      rotate_left
      · have HE : Hid (R = false) := HNK.out (fun h => by have := HOKK.out.1 h; have := HPOS.out; omega)
        rw [show wi9 x 1 100 = false from decide_eq_false (by omega)] at q1
        clear h1 h2
        go_wp2_with fail
        ((with_reducible refine (q1 _).mono ?_); rintro e W2 ⟨rfl, rfl⟩)
        go_wp2_with fail
        go_ret
        exact ⟨ret_bool HE.out.symm, bch HHB.out HNEW2.out⟩
      rw [show wi9 x 1 100 = true from decide_eq_true h2] at q1
      have HX1 : Hid (¬ x ≤ last ∧ x ≤ 100) := ⟨h1, h2.2⟩
      clear h1 h2
      by_cases h3 : b = 1 ∨ b = 2
      rotate_left
      · have HE : Hid (R = false) := HNK.out (fun h => by
          have := binB_iff.1 (HOKK.out.1 h).2.2
          exact h3 (by omega))
        rw [show ver9 b = false by unfold ver9; simp; omega] at q2
        clear h3
        go_wp2_with fail
        ((with_reducible refine (q1 _).mono ?_); rintro e W2 ⟨rfl, rfl⟩)
        go_wp2_with fail
        ((with_reducible refine (q2 _).mono ?_); rintro e W2 ⟨rfl, rfl⟩)
        go_wp2_with fail
        go_ret
        exact ⟨ret_bool HE.out.symm, bch HHB.out HNEW2.out⟩
      rw [show ver9 b = true by unfold ver9; simp; omega] at q2
      by_cases h4 : b < lv
      · have HE : Hid (R = false) := HNK.out (fun h => by
          have := binB_iff.1 (HOKK.out.1 h).2.2
          have := HLV.out
          omega)
        have e4 : decide (b < lv) = true := decide_eq_true h4
        clear h3
        go_wp2_with fail
        ((with_reducible refine (q1 _).mono ?_); rintro e W2 ⟨rfl, rfl⟩)
        go_wp2_with fail
        ((with_reducible refine (q2 _).mono ?_); rintro e W2 ⟨rfl, rfl⟩)
        go_wp2_with fail
        go_ret
        exact ⟨ret_bool HE.out.symm, bch HHB.out HNEW2.out⟩
      have HSS := Lib.hid (HS.out (HOKK.out.2 ⟨by have := HX1.out; omega, HX1.out.2, binB_iff.2 (by have := HLV.out; omega)⟩))
      have e4 : decide (b < lv) = false := decide_eq_false h4
      clear h3
      go_wp2_with fail
      ((with_reducible refine (q1 _).mono ?_); rintro e W2 ⟨rfl, rfl⟩)
      go_wp2_with fail
      ((with_reducible refine (q2 _).mono ?_); rintro e W2 ⟨rfl, rfl⟩)
      clear q1 q2 y0 y1
      go_wp2_with fail
      go_roundw
      case rel => exact ⟨k + 1, _, rfl, by omega, congrArg (Value.int .i64) HLAST.out.symm, by go_num, HNEW2.out, HSS.out⟩
      case measure => simp [intOf]; omega
    · have hke : k = n := by omega
      have HE : Hid (R = true) := HIFF.out.2 ⟨HW.out, fun j hj => hok.out j (by omega)⟩
      clear hlt
      go_wp2_with fail
      go_ret
      exact ⟨ret_bool HE.out.symm, HBW.out⟩
set_option maxRecDepth 100000 in
set_option maxHeartbeats 8000000 in
theorem rightPlaces9_any (c : CtR) (A B : Option Addr) (n cap m cm : Nat) (w : World) (h : IsCt w c A n B m) (hr : RiseM c.mem) (h8 : n ≤ 8) :
    Calls Try.prog 37 #[ctV c A n cap B m cm] w fun e w' => e = .returned (.bool (plB9 c)) ∧ Below w.heap.size w w' := by
  have hm := h.2.1
  have hnm := h.2.2.1
  unfold maxLen at hnm
  have HX := Blk.new w (ctB c A n cap B m cm)
  have HB := (Below.refl w.heap.size w).alloc (Nat.le_refl _) (ctB c A n cap B m cm)
  have HC := h.below HB
  obtain ⟨W, hW⟩ : ∃ W, w.alloc (ctB c A n cap B m cm) = W := ⟨_, rfl⟩
  rw [hW] at HX HB HC
  have HHX := Lib.hid HX; clear HX
  have HHB := Lib.hid HB; clear HB
  have q := containsP9_any c.pl (badP c.mem) 63 (.pointer (some ⟨w.heap.size, 0, none⟩)) B m cm W HC.2 cf9rp (fun k hk V hb => rp1_any c A B n cap m cm w.heap.size _ _ _ V (Blk.below HHX.out hb) (HC.1.below hb) hr h8)
  have HALL : Hid (c.pl.any (badP c.mem) = false ↔ ∀ p ∈ c.pl, PlOk c.mem p) := by
    show _ ↔ _
    rw [List.any_eq_false]
    exact ⟨fun h p hp => badP_iff.1 (by simpa using h p hp), fun h p hp => by rw [badP_iff.2 (h p hp)]; simp⟩
  have HP : Hid (plB9 c = decide ((1 ≤ m ∧ m ≤ 8) ∧ c.pl.any (badP c.mem) = false)) := by
    show _ = _
    unfold plB9
    rw [Bool.eq_iff_iff, decide_eq_true_iff, decide_eq_true_iff, HALL.out, hm]
  clear h HC hr HALL hm
  generalize c.pl.any (badP c.mem) = v at *
  generalize plB9 c = R at *
  have q1 := fun W => within9_any (m : Int) 1 8 W
  have c2 := Blk.cell HHX.out 2
  simp only [List.getElem?_toArray, List.getElem?_cons_zero, List.getElem?_cons_succ] at c2
  by_cases hw : 1 ≤ m ∧ m ≤ 8
  rotate_left
  · have HE : Hid (R = false) := by show _ = _; rw [HP.out]; exact decide_eq_false fun h => hw h.1
    rw [show wi9 (m : Int) 1 8 = false from decide_eq_false (by omega)] at q1
    clear hw
    go_enter Try.func37, Try.ntmps37
    go_upto_region 1 with fail
    try rw [hW]
    clear hW
    go_wp2_with fail
    ((with_reducible refine (q1 _).mono ?_); rintro e W1 ⟨rfl, rfl⟩)
    go_wp2_with fail
    go_ret
    exact ⟨ret_bool HE.out.symm, HHB.out⟩
  have HE : Hid (R = !v) := by show _ = _; rw [HP.out]; cases v <;> simp [hw]
  rw [show wi9 (m : Int) 1 8 = true from decide_eq_true (by omega)] at q1
  clear hw
  go_enter Try.func37, Try.ntmps37
  go_upto_region 1 with fail
  try rw [hW]
  clear hW
  go_wp2_with fail
  ((with_reducible refine (q1 _).mono ?_); rintro e W1 ⟨rfl, rfl⟩)
  go_wp2_with fail
  ((with_reducible refine (q).mono ?_); rintro e W1 ⟨rfl, b1⟩)
  go_wp2_with fail
  go_ret
  exact ⟨ret_bool HE.out.symm, bch HHB.out b1⟩
set_option maxRecDepth 100000 in
set_option maxHeartbeats 8000000 in
theorem rightC9_any : RightC9 := by
  intro c A B n cap m cm w harg
  have h := harg.1
  have hn := h.1.1
  clear harg
  have HX := Blk.new w (ctB c A n cap B m cm)
  have HB := (Below.refl w.heap.size w).alloc (Nat.le_refl _) (ctB c A n cap B m cm)
  have HC := h.below HB
  obtain ⟨W, hW⟩ : ∃ W, w.alloc (ctB c A n cap B m cm) = W := ⟨_, rfl⟩
  rw [hW] at HX HB HC
  have HHX := Lib.hid HX; clear HX
  have HHB := Lib.hid HB; clear HB
  have HHC := Lib.hid HC; clear HC
  have HN := Lib.hid hn; clear hn h
  have HSP := Lib.hid (right9_split c)
  have HMEM : Hid (memB9 c = true → RiseM c.mem ∧ n ≤ 8) := fun h => by
    unfold memB9 at h
    have := of_decide_eq_true h
    exact ⟨this.2.1, by rw [HN.out]; exact this.1.2⟩
  have HVER : Hid (ver9 c.level = true → c.level = 1 ∨ c.level = 2) := fun h => by unfold ver9 at h; simpa using h
  have q0 := fun W => isVersion9_any c.level W
  have q1 := fun (hl : c.level = 1 ∨ c.level = 2) => rightMembers9_any c A B n cap m cm W HHC.out.1 hl
  have q2 := fun (V : World) (hb : Below W.heap.size W V) (hr : RiseM c.mem) (h8 : n ≤ 8) => rightPlaces9_any c A B n cap m cm V (HHC.out.below hb) hr h8
  generalize rightC c = R at *
  generalize ver9 c.level = v0 at *
  generalize memB9 c = v1 at *
  generalize plB9 c = v2 at *
  have c0 := Blk.cell HHX.out 0
  have c1 := Blk.cell HHX.out 1
  have c2 := Blk.cell HHX.out 2
  simp only [List.getElem?_toArray, List.getElem?_cons_zero, List.getElem?_cons_succ] at c0 c1 c2
  go_enter Try.func16, Try.ntmps16
  go_upto_region 1 with fail
  try rw [hW]
  clear hW
  have HE := HSP
  cases v0 with
  | false =>
    go_wp2_with fail
    ((with_reducible refine (q0 _).mono ?_); rintro e W1 ⟨rfl, rfl⟩)
    go_wp2_with fail
    go_ret
    exact ⟨ret_bool HE.out.symm, HHB.out⟩
  | true =>
    have q1 := q1 (HVER.out rfl)
    cases v1 with
    | false =>
      go_wp2_with fail
      ((with_reducible refine (q0 _).mono ?_); rintro e W1 ⟨rfl, rfl⟩)
      go_wp2_with fail
      ((with_reducible refine (q1).mono ?_); rintro e W1 ⟨rfl, b1⟩)
      go_wp2_with fail
      go_ret
      exact ⟨ret_bool HE.out.symm, bch HHB.out b1⟩
    | true =>
      have q2 := fun V hb => q2 V hb (HMEM.out rfl).1 (HMEM.out rfl).2
      go_wp2_with fail
      ((with_reducible refine (q0 _).mono ?_); rintro e W1 ⟨rfl, rfl⟩)
      go_wp2_with fail
      ((with_reducible refine (q1).mono ?_); rintro e W1 ⟨rfl, b1⟩)
      have c0 := Blk.cell (Blk.below HHX.out b1) 0
      have c1 := Blk.cell (Blk.below HHX.out b1) 1
      have c2 := Blk.cell (Blk.below HHX.out b1) 2
      simp only [List.getElem?_toArray, List.getElem?_cons_zero, List.getElem?_cons_succ] at c0 c1 c2
      have q2 := q2 W1 b1
      have HB1 := Lib.hid (bch HHB.out b1); clear b1
      go_wp2_with fail
      ((with_reducible refine (q2).mono ?_); rintro e W2 ⟨rfl, b2⟩)
      go_wp2_with fail
      go_ret
      exact ⟨ret_bool HE.out.symm, bch HB1.out b2⟩
end Go.Proofs.Ytndkmepdnekigaa
