import Derived.Test.YtndkmepdnekigaaCtMathB
import Derived.Test.YtndkmepdnekigaaCt
import Derived.Deep.LoopGhost
/-
  The contracts of the program's own within, isVersion, isName and find, of cmp.Compare and slices.BinarySearchFunc over members (stage 18).
-/
namespace Go.Proofs.Ytndkmepdnekigaa
open Go.RowKit Go.Lib
set_option linter.unusedVariables false
set_option linter.unusedSimpArgs false

theorem run_callFunc_body9 {P : Program} {f : FuncId} {fn : Func} (hf : P.funcs[f]? = some fn) (hname : (fn.name == "runtime.NumGoroutine") = false) (hb : fn.body.isNone = false) (args : Array Value) (w : World) :
    (callFunc f args).run P w = .ok (.enter f args) w := by
  have h1 : fn.name ≠ "runtime.NumGoroutine" := by simpa using hname
  have h2 : fn.body ≠ none := by intro h; rw [h] at hb; cases hb
  simp [callFunc, hf, h1, h2]
/-- Is a number within? -/
def wi9 (n a b : Int) : Bool := decide (a ≤ n ∧ n ≤ b)
set_option maxRecDepth 100000 in
set_option maxHeartbeats 8000000 in
theorem within9_any (n a b : Int) (w : World) : Calls Try.prog 33 #[.int .i64 n, .int .i64 a, .int .i64 b] w fun e w' => e = .returned (.bool (wi9 n a b)) ∧ w = w' := by
  by_cases h1 : a ≤ n
  · by_cases h2 : n ≤ b
    · have HB : Hid (wi9 n a b = true) := by show wi9 n a b = true; unfold wi9; simp; omega
      go_enter Try.func33, Try.ntmps33
      go_wp2
      go_ret
      exact ⟨ret_bool (by rw [HB.out]), rfl⟩
    · have HB : Hid (wi9 n a b = false) := by show wi9 n a b = false; unfold wi9; simp; omega
      go_enter Try.func33, Try.ntmps33
      go_wp2
      go_ret
      exact ⟨ret_bool (by rw [HB.out]), rfl⟩
  · have HB : Hid (wi9 n a b = false) := by show wi9 n a b = false; unfold wi9; simp; omega
    go_enter Try.func33, Try.ntmps33
    go_wp2
    go_ret
    exact ⟨ret_bool (by rw [HB.out]), rfl⟩
/-- Is it a version? -/
def ver9 (v : Int) : Bool := v == 1 || v == 2
set_option maxRecDepth 100000 in
set_option maxHeartbeats 8000000 in
theorem isVersion9_any (v : Int) (w : World) : Calls Try.prog 35 #[.int .i64 v] w fun e w' => e = .returned (.bool (ver9 v)) ∧ w = w' := by
  rcases (by omega : v = 1 ∨ v = 2 ∨ (v ≠ 1 ∧ v ≠ 2)) with rfl | rfl | ⟨h1, h2⟩
  · have HB : Hid (ver9 (1 : Int) = true) := rfl
    go_enter Try.func35, Try.ntmps35
    go_wp2_with fail
    go_ret
    exact ⟨ret_bool (by first | rfl | (rw [HB.out]; done)), rfl⟩
  · have HB : Hid (ver9 (2 : Int) = true) := rfl
    go_enter Try.func35, Try.ntmps35
    go_wp2_with fail
    go_ret
    exact ⟨ret_bool (by first | rfl | (rw [HB.out]; done)), rfl⟩
  · have HB : Hid (ver9 v = false) := by show _ = _; unfold ver9; simp [h1, h2]
    have e1 : (v == 1) = false := by simpa using h1
    have e2 : (v == 2) = false := by simpa using h2
    clear h1 h2
    go_enter Try.func35, Try.ntmps35
    go_wp2_with fail
    go_ret
    exact ⟨ret_bool (by rw [HB.out]; first | done | simp [e1, e2]), rfl⟩
set_option maxRecDepth 100000 in
set_option maxHeartbeats 8000000 in
theorem isName9_any (n : Int) (w : World) : Calls Try.prog 53 #[.int .i64 n] w fun e w' => e = .returned (.bool (wi9 n 1 100)) ∧ w = w' := by
  have q := fun W => within9_any n 1 100 W
  generalize wi9 n 1 100 = g at *
  go_enter Try.func53, Try.ntmps53
  go_wp2_with fail
  ((with_reducible refine (q _).mono ?_); rintro e W1 ⟨rfl, rfl⟩)
  go_wp2_with fail
  go_ret
  exact ⟨rfl, rfl⟩
set_option maxRecDepth 100000 in
set_option maxHeartbeats 8000000 in
theorem isNaN9_any (a : Int) (w : World) : Calls Try.prog 68 #[.int .i64 a] w fun e w' => e = .returned (.bool false) ∧ w = w' := by
  have e1 : (a != a) = false := by simp
  go_enter Try.func68, Try.ntmps68
  go_wp2_with fail
  go_ret
  exact ⟨rfl, rfl⟩
/-- What cmp.Compare tells. -/
def cmp9 (a b : Int) : Int := if a < b then -1 else if b < a then 1 else 0
theorem cmp9_lt {a b : Int} (h : a < b) : cmp9 a b = -1 := if_pos h
theorem cmp9_ge {a b : Int} (h : ¬ a < b) : 0 ≤ cmp9 a b := by unfold cmp9; rw [if_neg h]; split <;> decide
theorem cmp9_eq0 {a b : Int} : cmp9 a b = 0 ↔ a = b := by
  unfold cmp9
  constructor
  · intro h
    split at h
    · cases h
    · split at h
      · cases h
      · omega
  · intro h; subst h; simp
set_option maxRecDepth 100000 in
set_option maxHeartbeats 8000000 in
theorem compare9_any (a b : Int) (w : World) : Calls Try.prog 47 #[.int .i64 a, .int .i64 b] w fun e w' => e = .returned (.int .i64 (cmp9 a b)) ∧ w = w' := by
  have q1 := fun W => isNaN9_any a W
  have q2 := fun W => isNaN9_any b W
  rcases (by omega : a < b ∨ (¬ a < b ∧ b < a) ∨ (¬ a < b ∧ ¬ b < a)) with h | ⟨h, h2⟩ | ⟨h, h2⟩
  all_goals
    have HB : Hid (cmp9 a b = cmp9 a b) := rfl
    obtain ⟨z, hz⟩ : ∃ z, cmp9 a b = z := ⟨_, rfl⟩
    have HZ : Hid (∀ v, cmp9 a b = v → v = z) := fun v e => e.symm.trans hz
    have hv := hz
    unfold cmp9 at hv
    simp [*] at hv
    rw [hz]
    have HV := Lib.hid hv; clear hv hz HB HZ
    go_enter Try.func47, Try.ntmps47
    go_wp2_with fail
    ((with_reducible refine (q1 _).mono ?_); rintro e W1 ⟨rfl, rfl⟩)
    go_wp2_with fail
    ((with_reducible refine (q2 _).mono ?_); rintro e W1 ⟨rfl, rfl⟩)
    go_wp2_with fail
    go_ret
    exact ⟨by rw [← HV.out]; rfl, rfl⟩
set_option maxRecDepth 100000 in
set_option maxHeartbeats 8000000 in
theorem find9c_any (d : MbR) (c : Int) (w : World) : Calls Try.prog 70 #[.agg #[.int .i64 d.1, .int .i64 d.2], .int .i64 c] w fun e w' => e = .returned (.int .i64 (cmp9 d.1 c)) ∧ Below w.heap.size w w' := by
  have hbw : Below w.heap.size w (w.alloc (.cells #[.int .i64 d.1, .int .i64 d.2] 45)) := (Below.refl _ _).alloc (Nat.le_refl _) _
  have q := fun W => compare9_any d.1 c W
  generalize cmp9 d.1 c = z at *
  go_enter Try.func70, Try.ntmps70
  go_wp2_with fail
  ((with_reducible refine (q _).mono ?_); rintro e W1 ⟨rfl, rfl⟩)
  go_wp2_with fail
  go_ret
  exact ⟨rfl, hbw⟩
theorem cf9find (args : Array Value) (w : World) : (callFunc 70 args).run Try.prog w = .ok (.enter 70 args) w := run_callFunc_body9 Try.func70 (by kernel_rfl) (by kernel_rfl) args w
abbrev RiseM (l : List MbR) : Prop := l.Pairwise fun a b => a.1 < b.1
theorem riseM_lt {l : List MbR} (h : RiseM l) {i j : Nat} (hij : i < j) (hj : j < l.length) : (atM9 l i).1 < (atM9 l j).1 := by
  have hi : i < l.length := by omega
  have := (List.pairwise_iff_getElem.1 h) i j hi hj hij
  have a := atM9_get hi
  have b := atM9_get hj
  rw [List.getElem?_eq_getElem hi] at a
  rw [List.getElem?_eq_getElem hj] at b
  rw [← Option.some.inj a, ← Option.some.inj b]; exact this
/-- A name's place: so many members are below it; is it there? -/
def PlaceM (l : List MbR) (c : Int) (i : Nat) (th : Bool) : Prop :=
  i ≤ l.length ∧ (∀ j, j < i → (atM9 l j).1 < c) ∧ (∀ j, i ≤ j → j < l.length → ¬ (atM9 l j).1 < c) ∧ th = decide (i < l.length ∧ (atM9 l i).1 = c)
/-- What find leaves. -/
def FindM (w : World) (l : List MbR) (c : Int) (e : Ending) (w' : World) : Prop := (∃ (i : Nat) (th : Bool), PlaceM l c i th ∧ e = .returned (.tuple #[.int .i64 i, .bool th])) ∧ Below w.heap.size w w'
theorem placeM_yes {l : List MbR} {c : Int} {i : Nat} (h : PlaceM l c i true) : i < l.length ∧ (atM9 l i).1 = c ∧ memI l c = i ∧ isMem l c := by
  obtain ⟨_, h1, _, h3⟩ := h
  have h4 := of_decide_eq_true h3.symm
  have h5 := memI_is h4.1 h4.2 (fun j hj => by have := h1 j hj; omega)
  refine ⟨h4.1, h4.2, h5, ?_⟩
  exact Classical.byContradiction fun e => by have := memI_no.2 e; omega
theorem placeM_no {l : List MbR} {c : Int} {i : Nat} (hr : RiseM l) (h : PlaceM l c i false) : ¬ isMem l c := by
  obtain ⟨_, h1, h2, h3⟩ := h
  have h4 := of_decide_eq_false h3.symm
  rintro ⟨d, hd, e⟩
  obtain ⟨j, hj, rfl⟩ := List.getElem_of_mem hd
  have ha := atM9_get hj
  rw [List.getElem?_eq_getElem hj] at ha
  rw [Option.some.inj ha] at e
  rcases Nat.lt_or_ge j i with h5 | h5
  · have := h1 j h5; omega
  · rcases Nat.lt_or_eq_of_le h5 with h6 | rfl
    · have a1 := riseM_lt hr h6 hj
      have a2 := h2 i (Nat.le_refl _) (by omega)
      omega
    · exact h4 ⟨hj, e⟩
theorem placeM_mem {l : List MbR} {c : Int} {i : Nat} {th : Bool} (hr : RiseM l) (h : PlaceM l c i th) : th = decide (isMem l c) := by
  cases th with
  | true => exact (decide_eq_true (placeM_yes h).2.2.2).symm
  | false => exact (decide_eq_false (placeM_no hr h)).symm
theorem placeM_ins {l : List MbR} {d : MbR} {i : Nat} (h1 : i ≤ l.length) (h2 : ∀ j, j < i → (atM9 l j).1 < d.1) (h3 : ∀ j, i ≤ j → j < l.length → ¬ (atM9 l j).1 < d.1) (hn : ¬ isMem l d.1) :
    insM l d = l.take i ++ d :: l.drop i := by
  induction l generalizing i with
  | nil => have : i = 0 := by simpa using h1
           subst this; rfl
  | cons x l ih =>
    cases i with
    | zero =>
      have h := h3 0 (Nat.le_refl _) (by simp)
      rw [show atM9 (x :: l) 0 = x from rfl] at h
      have h4 : x.1 ≠ d.1 := fun e => hn ⟨x, List.mem_cons_self, e⟩
      unfold insM
      rw [if_pos (by omega)]; rfl
    | succ i =>
      have h := h2 0 (by omega)
      rw [show atM9 (x :: l) 0 = x from rfl] at h
      unfold insM
      rw [if_neg (by omega)]
      rw [ih (i := i) (by simpa using h1) (fun j hj => h2 (j + 1) (by omega)) (fun j hj hl => h3 (j + 1) (by omega) (by simpa using hl)) (fun ⟨y, hy, e⟩ => hn ⟨y, List.mem_cons_of_mem _ hy, e⟩)]
      rfl
set_option maxRecDepth 100000 in
set_option maxHeartbeats 8000000 in
theorem search9_any (A : Option Addr) (n cap : Nat) (l : List MbR) (c : Int) (w : World) (h : IsG s2 w A n l) (hr : RiseM l) (h20 : n ≤ 8) :
    Calls Try.prog 69 #[.slice A n cap, .int .i64 c, .func (.func 70) #[] #[]] w (FindM w l c) := by
  have HN : Hid (n = l.length) := h.1
  have HT := Lib.hid h; clear h
  have S : Hid (∀ a b, a ≤ b → b < n → (atM9 l (b)).1 < c → (atM9 l (a)).1 < c) := fun a b h1 h2 h3 => by
    rcases Nat.lt_or_eq_of_le h1 with h4 | rfl
    · have := riseM_lt hr h4 (by have := HN.out; omega); omega
    · exact h3
  have cf := cf9find
  clear hr
  go_enter Try.func69, Try.ntmps69
  go_wp2_with fail
  go_loopg [9, 10] n (fun g s7 s8 wr => ∃ lo hi : Nat, s7 = .int .i64 lo ∧ s8 = .int .i64 hi ∧ lo ≤ hi ∧ hi ≤ n ∧ hi - lo ≤ g ∧ Below w.heap.size w wr ∧ (∀ j, j < lo → (atM9 l (j)).1 < c) ∧ (∀ j, hi ≤ j → j < n → ¬ (atM9 l (j)).1 < c))
  case atStart => exact ⟨0, n, rfl, rfl, Nat.zero_le _, Nat.le_refl _, by omega, Below.refl _ _, fun j hj => absurd hj (Nat.not_lt_zero _), fun j h1 h2 => by omega⟩
  case round =>
    obtain ⟨lo, hi, rfl, rfl, hlh, hin, hg, hb, h1, h2⟩ := hrel
    have I : Hid ((∀ j, j < lo → (atM9 l (j)).1 < c) ∧ (∀ j, hi ≤ j → j < n → ¬ (atM9 l (j)).1 < c)) := ⟨h1, h2⟩
    clear h1 h2
    have HB := Lib.hid hb; clear hb
    by_cases hlt : lo < hi
    · obtain ⟨b, off, hA, hb9, x0, x1⟩ := is2_at (HT.out.below HB.out) (atM9_get (i := (lo + hi) / 2) (by have := HN.out; omega))
      subst hA; clear hb9
      have q := fun W => find9c_any (atM9 l ((lo + hi) / 2)) c W
      by_cases hl : (atM9 l (((lo + hi) / 2))).1 < c
      · rw [cmp9_lt hl] at q
        have HS1 : Hid (∀ j, j < (lo + hi) / 2 + 1 → (atM9 l (j)).1 < c) := fun j hj => S.out j _ (by omega) (by omega) hl
        clear hl
        generalize atM9 l ((lo + hi) / 2) = r at *
        go_wp2_with fail
        ((with_reducible refine (q _).mono ?_); rintro e W1 ⟨rfl, b1⟩)
        have HB1 := Lib.hid (bch HB.out b1); clear b1 x0 x1 q
        go_wp2_with fail
        go_roundg (hi - ((lo + hi) / 2 + 1))
        case measure => omega
        case rel => exact ⟨(lo + hi) / 2 + 1, hi, by rw [show ((lo : Int) + (hi : Int)) / 2 + 1 = (((lo + hi) / 2 + 1 : Nat) : Int) by omega], rfl, by omega, hin, Nat.le_refl _, HB1.out, HS1.out, I.out.2⟩
      · have hc := cmp9_ge hl
        have HS1 : Hid (∀ j, (lo + hi) / 2 ≤ j → j < n → ¬ (atM9 l (j)).1 < c) := fun j hj hjn e => hl (S.out _ j hj hjn e)
        clear hl
        generalize cmp9 (atM9 l (((lo + hi) / 2))).1 c = z at *
        generalize atM9 l ((lo + hi) / 2) = r at *
        have hz : ¬ z < 0 := by omega
        clear hc
        go_wp2_with fail
        ((with_reducible refine (q _).mono ?_); rintro e W1 ⟨rfl, b1⟩)
        have HB1 := Lib.hid (bch HB.out b1); clear b1 x0 x1 q
        go_wp2_with fail
        go_roundg ((lo + hi) / 2 - lo)
        case measure => omega
        case rel => exact ⟨lo, (lo + hi) / 2, rfl, by rw [show ((lo : Int) + (hi : Int)) / 2 = (((lo + hi) / 2 : Nat) : Int) by omega], by omega, by omega, Nat.le_refl _, HB1.out, I.out.1, HS1.out⟩
    · have : hi = lo := by omega
      subst this
      clear hlh hlt hg
      by_cases hn2 : hi < n
      · obtain ⟨b, off, hA, hb9, x0, x1⟩ := is2_at (HT.out.below HB.out) (atM9_get (i := hi) (by have := HN.out; omega))
        subst hA; clear hb9
        have q := fun W => find9c_any (atM9 l (hi)) c W
        have hnl : hi < l.length := by have := HN.out; omega
        by_cases he : (atM9 l (hi)).1 = c
        · have HP : Hid (PlaceM l c hi true) := ⟨by omega, I.out.1, fun j h1 h2 => I.out.2 j h1 (by have := HN.out; omega), (decide_eq_true ⟨hnl, he⟩).symm⟩
          rw [cmp9_eq0.2 he] at q
          clear he hnl
          generalize atM9 l hi = r at *
          go_wp2_with fail
          ((with_reducible refine (q _).mono ?_); rintro e W1 ⟨rfl, b1⟩)
          have HB1 := Lib.hid (bch HB.out b1); clear b1 x0 x1 q
          go_wp2_with fail
          go_ret2
          exact ⟨⟨hi, true, HP.out, rfl⟩, by first | exact HB1.out | exact HB1.out.drew | exact bdn HB1.out _⟩
        · have HP : Hid (PlaceM l c hi false) := ⟨by omega, I.out.1, fun j h1 h2 => I.out.2 j h1 (by have := HN.out; omega), (decide_eq_false fun h => he h.2).symm⟩
          have hz : (cmp9 (atM9 l (hi)).1 c == 0) = false := by rw [beq_eq_false_iff_ne]; exact fun e => he (cmp9_eq0.1 e)
          generalize cmp9 (atM9 l (hi)).1 c = z at *
          clear he hnl
          generalize atM9 l hi = r at *
          go_wp2_with fail
          ((with_reducible refine (q _).mono ?_); rintro e W1 ⟨rfl, b1⟩)
          have HB1 := Lib.hid (bch HB.out b1); clear b1 x0 x1 q
          go_wp2_with fail
          go_ret2
          exact ⟨⟨hi, false, HP.out, rfl⟩, by first | exact HB1.out | exact HB1.out.drew | exact bdn HB1.out _⟩
      · have HP : Hid (PlaceM l c hi false) := ⟨by have := HN.out; omega, I.out.1, fun j h1 h2 => I.out.2 j h1 (by have := HN.out; omega), (decide_eq_false fun h => hn2 (by have := HN.out; have := h.1; omega)).symm⟩
        go_wp2_with fail
        go_ret2
        exact ⟨⟨hi, false, HP.out, rfl⟩, by first | exact HB.out | exact HB.out.drew | exact bdn HB.out _⟩
set_option maxRecDepth 100000 in
set_option maxHeartbeats 8000000 in
theorem find9_any (A : Option Addr) (n cap : Nat) (l : List MbR) (c : Int) (w : World) (h : IsG s2 w A n l) (hr : RiseM l) (h20 : n ≤ 8) :
    Calls Try.prog 54 #[.slice A n cap, .int .i64 c] w (FindM w l c) := by
  have q := search9_any A n cap l c w h hr h20
  clear h hr h20
  go_enter Try.func54, Try.ntmps54
  go_wp2_with fail
  ((with_reducible refine q.mono ?_); rintro e W1 ⟨⟨i, th, hp, rfl⟩, b1⟩)
  have HP := Lib.hid hp; clear hp
  have HB1 := Lib.hid b1; clear b1
  go_wp2_with fail
  go_ret2
  exact ⟨⟨i, th, HP.out, rfl⟩, by first | exact HB1.out | exact HB1.out.drew | exact bdn HB1.out _⟩
end Go.Proofs.Ytndkmepdnekigaa
