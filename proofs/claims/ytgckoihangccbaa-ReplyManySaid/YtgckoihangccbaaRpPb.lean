import Derived.Test.YtgckoihangccbaaRpPa
import Derived.Deep.LoopGhost
/-
  The contracts of slices.BinarySearchFunc over the clients, and of the program's own find (stage 13).
-/
namespace Go.Proofs.Ytgckoihangccbaa
open Go.RowKit Go.Lib
set_option linter.unusedVariables false
set_option linter.unusedSimpArgs false

theorem run_callFunc_bodyD {P : Program} {f : FuncId} {fn : Func} (hf : P.funcs[f]? = some fn) (hname : (fn.name == "runtime.NumGoroutine") = false) (hb : fn.body.isNone = false) (args : Array Value) (w : World) :
    (callFunc f args).run P w = .ok (.enter f args) w := by
  have h1 : fn.name ≠ "runtime.NumGoroutine" := by simpa using hname
  have h2 : fn.body ≠ none := by intro h; rw [h] at hb; cases hb
  simp [callFunc, hf, h1, h2]
theorem cfFind1 (args : Array Value) (w : World) : (callFunc 33 args).run Try.prog w = .ok (.enter 33 args) w := run_callFunc_bodyD Try.func33 (by kernel_rfl) (by kernel_rfl) args w
/-- A client's place: so many clients are below it; is it there? -/
def PlaceD (l : List DnR) (c : Int) (i : Nat) (th : Bool) : Prop :=
  i ≤ l.length ∧ (∀ j, j < i → (atD l j).client < c) ∧ (∀ j, i ≤ j → j < l.length → ¬ (atD l j).client < c) ∧ th = decide (i < l.length ∧ (atD l i).client = c)
/-- What find leaves. -/
def FindP (w : World) (l : List DnR) (c : Int) (e : Ending) (w' : World) : Prop := (∃ (i : Nat) (th : Bool), PlaceD l c i th ∧ e = .returned (.tuple #[.int .i64 i, .bool th])) ∧ Below w.heap.size w w'
theorem placeD_yes {l : List DnR} {c : Int} {i : Nat} (hr : RiseD l) (h : PlaceD l c i true) : i < l.length ∧ lookD l c = some (atD l i) := by
  obtain ⟨_, h1, _, h3⟩ := h
  have h4 := of_decide_eq_true h3.symm
  exact ⟨h4.1, (lookD_is hr).2 ⟨atD_mem h4.1, h4.2⟩⟩
theorem placeD_no {l : List DnR} {c : Int} {i : Nat} (hr : RiseD l) (h : PlaceD l c i false) : lookD l c = none := by
  obtain ⟨_, h1, h2, h3⟩ := h
  have h4 := of_decide_eq_false h3.symm
  refine lookD_none.2 fun d hd e => ?_
  obtain ⟨j, hj, rfl⟩ := List.getElem_of_mem hd
  rw [← atD_get hj] at e
  rcases Nat.lt_or_ge j i with h5 | h5
  · have := h1 j h5; omega
  · rcases Nat.lt_or_eq_of_le h5 with h6 | rfl
    · have a1 := riseD_lt hr h6 hj
      have a2 := h2 i (Nat.le_refl _) (by omega)
      omega
    · exact h4 ⟨hj, e⟩
/-- What lies where a client's call is to stand. -/
theorem placeD_ins {l : List DnR} {d : DnR} {i : Nat} (h1 : i ≤ l.length) (h2 : ∀ j, j < i → (atD l j).client < d.client) (h3 : ∀ j, i ≤ j → j < l.length → ¬ (atD l j).client < d.client) (hn : ∀ x ∈ l, x.client ≠ d.client) :
    insD l d = l.take i ++ d :: l.drop i := by
  induction l generalizing i with
  | nil => have : i = 0 := by simpa using h1
           subst this; rfl
  | cons x l ih =>
    cases i with
    | zero =>
      have h := h3 0 (Nat.le_refl _) (by simp)
      rw [show atD (x :: l) 0 = x from rfl] at h
      have h4 := hn x (List.mem_cons_self ..)
      unfold insD
      rw [if_pos (by omega)]; rfl
    | succ i =>
      have h := h2 0 (by omega)
      rw [show atD (x :: l) 0 = x from rfl] at h
      unfold insD
      rw [if_neg (by omega)]
      rw [ih (i := i) (by simpa using h1) (fun j hj => h2 (j + 1) (by omega)) (fun j hj hl => h3 (j + 1) (by omega) (by simpa using hl)) (fun y hy => hn y (List.mem_cons_of_mem _ hy))]
      rfl
theorem restD_at {l : List DnR} {c : Int} {i : Nat} (hr : RiseD l) (hi : i < l.length) (hc : (atD l i).client = c) : restD l c = l.take i ++ l.drop (i + 1) := by
  have e : l = l.take i ++ (atD l i :: l.drop (i + 1)) := by rw [atD_get hi, List.getElem_cons_drop, List.take_append_drop]
  have hL : l.take i = restD (l.take i) c := by
    symm
    refine List.filter_eq_self.2 fun d hd => ?_
    obtain ⟨j, hj, rfl⟩ := List.getElem_of_mem hd
    rw [List.length_take] at hj
    have := riseD_lt hr (i := j) (j := i) (by omega) hi
    rw [atD_get (by omega)] at this
    rw [List.getElem_take]
    simp; omega
  have hR : l.drop (i + 1) = restD (l.drop (i + 1)) c := by
    symm
    refine List.filter_eq_self.2 fun d hd => ?_
    obtain ⟨j, hj, rfl⟩ := List.getElem_of_mem hd
    rw [List.length_drop] at hj
    have := riseD_lt hr (i := i) (j := i + 1 + j) (by omega) (by omega)
    rw [atD_get (i := i + 1 + j) (by omega)] at this
    rw [List.getElem_drop]
    simp; omega
  have hx : restD l c = restD (l.take i) c ++ restD (l.drop (i + 1)) c := by
    have h2 : restD l c = restD (l.take i ++ (atD l i :: l.drop (i + 1))) c := by rw [← e]
    rw [h2]
    unfold restD
    rw [List.filter_append, List.filter_cons_of_neg (by simpa using hc)]
  rw [hx, ← hL, ← hR]
/-- What is kept of a client that is there already stands in its place. -/
theorem putD_set {l : List DnR} {c i : Int} {r : RepR} {p : Nat} (hr : RiseD l) (h : PlaceD l c p true) : putD l c i r = l.set p ⟨c, i, r⟩ := by
  obtain ⟨_, h1, _, h3⟩ := h
  have h4 := of_decide_eq_true h3.symm
  have hl : (l.take p).length = p := by rw [List.length_take]; omega
  have hat : ∀ j, j < p → atD (l.take p ++ l.drop (p + 1)) j = atD l j := fun j hj => by
    rw [atD_get (by rw [List.length_append, hl]; omega), List.getElem_append_left (by rw [hl]; omega), List.getElem_take, atD_get (by omega)]
  have hat2 : ∀ j, p ≤ j → j < (l.take p ++ l.drop (p + 1)).length → atD (l.take p ++ l.drop (p + 1)) j = atD l (j + 1) := fun j hj hjl => by
    rw [List.length_append, hl, List.length_drop] at hjl
    rw [atD_get (by rw [List.length_append, hl, List.length_drop]; omega), List.getElem_append_right (by rw [hl]; omega), List.getElem_drop, atD_get (by omega)]
    congr 1; omega
  unfold putD
  rw [restD_at hr h4.1 h4.2]
  rw [placeD_ins (i := p) (by rw [List.length_append, hl]; omega) (fun j hj => by rw [hat j hj]; exact h1 j hj) (fun j hj hjl => by
    have hjl2 := hjl
    rw [List.length_append, hl, List.length_drop] at hjl2
    rw [hat2 j hj hjl]
    have := riseD_lt hr (i := p) (j := j + 1) (by omega) (by omega)
    show ¬ _ < c
    omega) (fun x hx e => by
    rw [← restD_at hr h4.1 h4.2] at hx
    exact (restD_mem.1 hx).2 e)]
  rw [List.take_left' hl, List.drop_left' hl, List.set_eq_take_append_cons_drop, if_pos h4.1]
/-- What is kept of a new client. -/
theorem putD_new {l : List DnR} {c i : Int} {r : RepR} {p : Nat} (hr : RiseD l) (h : PlaceD l c p false) : putD l c i r = l.take p ++ ⟨c, i, r⟩ :: l.drop p := by
  have hn := placeD_no hr h
  obtain ⟨h0, h1, h2, _⟩ := h
  unfold putD
  rw [restD_no hn]
  exact placeD_ins h0 h1 h2 (fun x hx e => lookD_none.1 hn x hx e)
set_option maxRecDepth 100000 in
set_option maxHeartbeats 8000000 in
theorem search13_any (A : Option Addr) (n cap : Nat) (l : List DnR) (c : Int) (w : World) (h : IsDs w A n l) (hr : RiseD l) (h20 : n ≤ 8) :
    Calls Try.prog 32 #[.slice A n cap, .int .i64 c, .func (.func 33) #[] #[]] w (FindP w l c) := by
  have HN : Hid (n = l.length) := h.1
  have HT := Lib.hid h; clear h
  have S : Hid (∀ a b, a ≤ b → b < n → (atD l b).client < c → (atD l a).client < c) := fun a b h1 h2 h3 => by
    rcases Nat.lt_or_eq_of_le h1 with h4 | rfl
    · have := riseD_lt hr h4 (by have := HN.out; omega); omega
    · exact h3
  have cf := cfFind1
  clear hr
  go_enter Try.func32, Try.ntmps32
  go_wp2_with fail
  go_loopg [9, 10] n (fun g s7 s8 wr => ∃ lo hi : Nat, s7 = .int .i64 lo ∧ s8 = .int .i64 hi ∧ lo ≤ hi ∧ hi ≤ n ∧ hi - lo ≤ g ∧ Below w.heap.size w wr ∧ (∀ j, j < lo → (atD l j).client < c) ∧ (∀ j, hi ≤ j → j < n → ¬ (atD l j).client < c))
  case atStart => exact ⟨0, n, rfl, rfl, Nat.zero_le _, Nat.le_refl _, by omega, Below.refl _ _, fun j hj => absurd hj (Nat.not_lt_zero _), fun j h1 h2 => by omega⟩
  case round =>
    obtain ⟨lo, hi, rfl, rfl, hlh, hin, hg, hb, h1, h2⟩ := hrel
    have I : Hid ((∀ j, j < lo → (atD l j).client < c) ∧ (∀ j, hi ≤ j → j < n → ¬ (atD l j).client < c)) := ⟨h1, h2⟩
    clear h1 h2
    have HB := Lib.hid hb; clear hb
    by_cases hlt : lo < hi
    · obtain ⟨b, off, hA, _⟩ := HT.out.block (by omega)
      subst hA
      obtain ⟨E, m, cc, hx, _, _⟩ := HT.out.at (i := (lo + hi) / 2) (by have := HN.out; omega) HB.out
      have q := fun W => find1_any (atD l ((lo + hi) / 2)) (.slice E m cc) c W
      obtain ⟨x0, x1, x2, x3, x4, x5⟩ := hx
      by_cases hl : (atD l ((lo + hi) / 2)).client < c
      · rw [cmpI_lt hl] at q
        have HS1 : Hid (∀ j, j < (lo + hi) / 2 + 1 → (atD l j).client < c) := fun j hj => S.out j _ (by omega) (by omega) hl
        clear hl
        generalize atD l ((lo + hi) / 2) = r at *
        go_wp2_with fail
        ((with_reducible refine (q _).mono ?_); rintro e W1 ⟨rfl, b1⟩)
        have HB1 := Lib.hid (bch HB.out b1); clear b1 x0 x1 x2 x3 x4 x5 q
        go_wp2_with fail
        go_roundg (hi - ((lo + hi) / 2 + 1))
        case measure => omega
        case rel => exact ⟨(lo + hi) / 2 + 1, hi, by rw [show ((lo : Int) + (hi : Int)) / 2 + 1 = (((lo + hi) / 2 + 1 : Nat) : Int) by omega], rfl, by omega, hin, Nat.le_refl _, HB1.out, HS1.out, I.out.2⟩
      · have hc := cmpI_ge hl
        have HS1 : Hid (∀ j, (lo + hi) / 2 ≤ j → j < n → ¬ (atD l j).client < c) := fun j hj hjn e => hl (S.out _ j hj hjn e)
        clear hl
        generalize cmpI (atD l ((lo + hi) / 2)).client c = z at *
        generalize atD l ((lo + hi) / 2) = r at *
        have hz : ¬ z < 0 := by omega
        clear hc
        go_wp2_with fail
        ((with_reducible refine (q _).mono ?_); rintro e W1 ⟨rfl, b1⟩)
        have HB1 := Lib.hid (bch HB.out b1); clear b1 x0 x1 x2 x3 x4 x5 q
        go_wp2_with fail
        go_roundg ((lo + hi) / 2 - lo)
        case measure => omega
        case rel => exact ⟨lo, (lo + hi) / 2, rfl, by rw [show ((lo : Int) + (hi : Int)) / 2 = (((lo + hi) / 2 : Nat) : Int) by omega], by omega, by omega, Nat.le_refl _, HB1.out, I.out.1, HS1.out⟩
    · have : hi = lo := by omega
      subst this
      clear hlh hlt hg
      by_cases hn2 : hi < n
      · obtain ⟨b, off, hA, _⟩ := HT.out.block (by omega)
        subst hA
        obtain ⟨E, m, cc, hx, _, _⟩ := HT.out.at (i := hi) (by have := HN.out; omega) HB.out
        have q := fun W => find1_any (atD l (hi)) (.slice E m cc) c W
        have hnl : hi < l.length := by have := HN.out; omega
        obtain ⟨x0, x1, x2, x3, x4, x5⟩ := hx
        by_cases he : (atD l hi).client = c
        · have HP : Hid (PlaceD l c hi true) := ⟨by omega, I.out.1, fun j h1 h2 => I.out.2 j h1 (by have := HN.out; omega), (decide_eq_true ⟨hnl, he⟩).symm⟩
          rw [cmpI_eq0.2 he] at q
          clear he hnl
          generalize atD l hi = r at *
          go_wp2_with fail
          ((with_reducible refine (q _).mono ?_); rintro e W1 ⟨rfl, b1⟩)
          have HB1 := Lib.hid (bch HB.out b1); clear b1 x0 x1 x2 x3 x4 x5 q
          go_wp2_with fail
          go_ret2
          exact ⟨⟨hi, true, HP.out, rfl⟩, by first | exact HB1.out | exact HB1.out.drew | exact bdn HB1.out _⟩
        · have HP : Hid (PlaceD l c hi false) := ⟨by omega, I.out.1, fun j h1 h2 => I.out.2 j h1 (by have := HN.out; omega), (decide_eq_false fun h => he h.2).symm⟩
          have hz : (cmpI (atD l hi).client c == 0) = false := by rw [beq_eq_false_iff_ne]; exact fun e => he (cmpI_eq0.1 e)
          generalize cmpI (atD l hi).client c = z at *
          clear he hnl
          generalize atD l hi = r at *
          go_wp2_with fail
          ((with_reducible refine (q _).mono ?_); rintro e W1 ⟨rfl, b1⟩)
          have HB1 := Lib.hid (bch HB.out b1); clear b1 x0 x1 x2 x3 x4 x5 q
          go_wp2_with fail
          go_ret2
          exact ⟨⟨hi, false, HP.out, rfl⟩, by first | exact HB1.out | exact HB1.out.drew | exact bdn HB1.out _⟩
      · have HP : Hid (PlaceD l c hi false) := ⟨by have := HN.out; omega, I.out.1, fun j h1 h2 => I.out.2 j h1 (by have := HN.out; omega), (decide_eq_false fun h => hn2 (by have := HN.out; have := h.1; omega)).symm⟩
        go_wp2_with fail
        go_ret2
        exact ⟨⟨hi, false, HP.out, rfl⟩, by first | exact HB.out | exact HB.out.drew | exact bdn HB.out _⟩
set_option maxRecDepth 100000 in
set_option maxHeartbeats 8000000 in
theorem find_any (A : Option Addr) (n cap : Nat) (l : List DnR) (c : Int) (w : World) (h : IsDs w A n l) (hr : RiseD l) (h20 : n ≤ 8) :
    Calls Try.prog 20 #[.slice A n cap, .int .i64 c] w (FindP w l c) := by
  have q := search13_any A n cap l c w h hr h20
  clear h hr h20
  go_enter Try.func20, Try.ntmps20
  go_wp2_with fail
  ((with_reducible refine q.mono ?_); rintro e W1 ⟨⟨i, th, hp, rfl⟩, b1⟩)
  have HP := Lib.hid hp; clear hp
  have HB1 := Lib.hid b1; clear b1
  go_wp2_with fail
  go_ret2
  exact ⟨⟨i, th, HP.out, rfl⟩, by first | exact HB1.out | exact HB1.out.drew | exact bdn HB1.out _⟩
end Go.Proofs.Ytgckoihangccbaa
