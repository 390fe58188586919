import Derived.Test.YtgckoihangccbaaRpPb
/-
  The contracts of slices.IndexFunc and ContainsFunc over tooLong, of the closures of oddities, and of the program's own odd (stage 13).
-/
namespace Go.Proofs.Ytgckoihangccbaa
open Go.RowKit
set_option linter.unusedVariables false
set_option linter.unusedSimpArgs false

theorem cfTooLong (args : Array Value) (w : World) : (callFunc 46 args).run Try.prog w = .ok (.enter 46 args) w := run_callFunc_bodyD Try.func46 (by kernel_rfl) (by kernel_rfl) args w
def longsB (ks : List ByteArray) : Bool := ks.any longB
def IdxP (w : World) (ks : List ByteArray) (e : Ending) (w' : World) : Prop := (∃ z : Int, e = .returned (.int .i64 z) ∧ ((z = -1 ∧ longsB ks = false) ∨ (0 ≤ z ∧ longsB ks = true))) ∧ Below w.heap.size w w'
set_option maxRecDepth 100000 in
set_option maxHeartbeats 8000000 in
theorem index13_any (ks : List ByteArray) (A : Option Addr) (n cap : Nat) (w : World) (h : IsSs w A n ks) :
    Calls Try.prog 50 #[.slice A n cap, .func (.func 46) #[] #[]] w (IdxP w ks) := by
  have hn9 := h.2.1
  unfold maxLen at hn9
  have HN : Hid (n = ks.length) := h.1
  have HT := Lib.hid h; clear h
  have cf := cfTooLong
  go_enter Try.func50, Try.ntmps50
  go_wp2_with fail
  go_loopw [8] (fun i wy => ∃ (j : Nat) (wr : World), wr = wy ∧ j ≤ n ∧ i = .int .i64 j ∧ (∀ q, q < j → longB (ks.getD q ByteArray.empty) = false) ∧ Below w.heap.size w wr) (fun i _ => n - (intOf i).toNat)
  case atStart => exact ⟨0, _, rfl, by omega, rfl, (fun q hq => by omega), Below.refl _ _⟩
  case round =>
    obtain ⟨j, wr, rfl, hj, rfl, hall, hb⟩ := hrel
    have HB := Lib.hid hb; clear hb
    have HALL := Lib.hid hall; clear hall
    by_cases hlt : j < n
    · have hji : (j : Int) < (n : Int) := by omega
      have hj0 : (0 : Int) ≤ (j : Int) := by omega
      have HJL : Hid (j < ks.length) := by have := HN.out; show _ < _; omega
      obtain ⟨b, off, hA, hlb, hat⟩ := HT.out.2.2.2 (by omega)
      subst hA
      have hx := (HB.out.cell (p := ⟨b, off + j, none⟩) hlb).trans (hat j HJL.out)
      clear hat
      have HSTEP : Hid (longB (ks.getD j ByteArray.empty) = false → ∀ q, q < j + 1 → longB (ks.getD q ByteArray.empty) = false) := fun e q hq => by
        rcases (by omega : q < j ∨ q = j) with h | rfl
        · exact HALL.out q h
        · exact e
      have HYES : Hid (longB (ks.getD j ByteArray.empty) = true → longsB ks = true) := fun e => by
        unfold longsB
        rw [List.any_eq_true]
        refine ⟨_, ?_, e⟩
        rw [List.getD_eq_getElem?_getD, List.getElem?_eq_getElem HJL.out]
        exact List.getElem_mem _
      generalize ks.getD j ByteArray.empty = s at *
      have q := fun W => tooLong_any s W
      obtain ⟨b, hbb⟩ : ∃ b, longB s = b := ⟨_, rfl⟩
      rw [hbb] at q HSTEP HYES
      clear hbb
      cases b with
      | false =>
        go_wp2_with fail
        ((with_reducible refine (q _).mono ?_); rintro e W1 ⟨rfl, rfl⟩)
        clear q hx
        go_wp2_with fail
        go_roundw
        case rel => exact ⟨j + 1, _, rfl, by omega, by go_num, HSTEP.out (by first | trivial | rfl), HB.out⟩
        case measure => simp [intOf]; omega
      | true =>
        go_wp2_with fail
        ((with_reducible refine (q _).mono ?_); rintro e W1 ⟨rfl, rfl⟩)
        clear q hx
        go_wp2_with fail
        go_ret
        exact ⟨⟨_, rfl, .inr ⟨by omega, HYES.out (by first | trivial | rfl)⟩⟩, HB.out⟩
    · have hje : j = n := by omega
      subst hje
      have HE : Hid (longsB ks = false) := by
        show _ = _
        unfold longsB
        rw [List.any_eq_false]
        intro s hs
        obtain ⟨q, hq, rfl⟩ := List.getElem_of_mem hs
        have := HALL.out q (by have := HN.out; omega)
        rw [List.getD_eq_getElem?_getD, List.getElem?_eq_getElem hq] at this
        simpa using this
      clear hlt
      go_wp2_with fail
      go_ret
      exact ⟨⟨_, rfl, .inl ⟨rfl, HE.out⟩⟩, HB.out⟩
set_option maxRecDepth 100000 in
set_option maxHeartbeats 8000000 in
theorem contains13_any (ks : List ByteArray) (A : Option Addr) (n cap : Nat) (w : World) (h : IsSs w A n ks) :
    Calls Try.prog 45 #[.slice A n cap, .func (.func 46) #[] #[]] w fun e w' => e = .returned (.bool (longsB ks)) ∧ Below w.heap.size w w' := by
  have q := index13_any ks A n cap w h
  clear h
  go_enter Try.func45, Try.ntmps45
  go_wp2_with fail
  ((with_reducible refine q.mono ?_); rintro e W1 ⟨⟨z, rfl, hz⟩, b1⟩)
  clear q
  have HB1 := Lib.hid b1; clear b1
  rcases hz with ⟨hz, hl⟩ | ⟨hz, hl⟩
  · subst hz
    have HL := Lib.hid hl; clear hl
    go_wp2_with fail
    go_ret
    exact ⟨by rw [HL.out]; rfl, HB1.out⟩
  · have HL := Lib.hid hl; clear hl
    have HZ := Lib.hid hz
    have hz2 : decide ((0 : Int) ≤ z) = true := decide_eq_true hz
    go_wp2_with fail
    go_ret
    exact ⟨ret_bool (by first | (rw [HL.out]; done) | (rw [HL.out]; exact decide_eq_true HZ.out)), HB1.out⟩
/-- A reply's block. -/
def RpBk (W : World) (g : Nat) (r : RepR) (K : Option Addr) (k kc : Nat) : Prop := Blk W g (.cells #[.int .i64 r.errno, .int .i64 r.rev, .string r.value, .slice K k kc] 31 (0, 0))
/-- What is odd. -/
def oddN (r : RepR) : Nat → Bool
  | 0 => !wiB r.rev 0 9007199254740992
  | 1 => decide (200 < r.value.size)
  | 2 => decide (5 < r.keys.length)
  | 3 => longsB r.keys
  | _ => !wiB r.errno 0 255
def oddF : Nat → Nat
  | 0 => 41
  | 1 => 42
  | 2 => 43
  | 3 => 44
  | _ => 47
theorem cfOdd (i : Nat) (args : Array Value) (w : World) : (callFunc (oddF i) args).run Try.prog w = .ok (.enter (oddF i) args) w := by
  rcases i with _ | _ | _ | _ | i
  · exact run_callFunc_bodyD Try.func41 (by kernel_rfl) (by kernel_rfl) args w
  · exact run_callFunc_bodyD Try.func42 (by kernel_rfl) (by kernel_rfl) args w
  · exact run_callFunc_bodyD Try.func43 (by kernel_rfl) (by kernel_rfl) args w
  · exact run_callFunc_bodyD Try.func44 (by kernel_rfl) (by kernel_rfl) args w
  · exact run_callFunc_bodyD Try.func47 (by kernel_rfl) (by kernel_rfl) args w
theorem may_odd (r : RepR) : mayRB r = true ↔ ∀ i, i < 5 → oddN r i = false := by
  have h0 : mayRB r = true ↔ MayP r := by unfold mayRB; exact decide_eq_true_iff
  rw [h0]
  unfold MayP maxN
  constructor
  · rintro ⟨h1, h2, h3, h4, h5⟩ i hi
    rcases (by omega : i = 0 ∨ i = 1 ∨ i = 2 ∨ i = 3 ∨ i = 4) with rfl | rfl | rfl | rfl | rfl
    · simp [oddN, wiB]; omega
    · simp [oddN]; omega
    · simp [oddN]; omega
    · show longsB r.keys = false
      unfold longsB
      rw [List.any_eq_false]
      intro s hs
      have := h1 s hs
      simp [longB]; omega
    · simp [oddN, wiB]; omega
  · intro h
    have h0 := h 0 (by omega)
    have h1 := h 1 (by omega)
    have h2 := h 2 (by omega)
    have h3 := h 3 (by omega)
    have h4 := h 4 (by omega)
    refine ⟨fun k hk => ?_, ?_, ?_, ?_, ?_⟩
    · have h3' : longsB r.keys = false := h3
      unfold longsB at h3'
      rw [List.any_eq_false] at h3'
      have := h3' k hk
      simp [longB] at this; omega
    · simp [oddN, wiB] at h0; omega
    · simp [oddN] at h1; omega
    · simp [oddN] at h2; omega
    · simp [oddN, wiB] at h4; omega
theorem odd_may {r : RepR} {i : Nat} (hi : i < 5) (h : oddN r i = true) : mayRB r = false := by
  rw [Bool.eq_false_iff]
  intro e
  have := (may_odd r).1 e i hi
  rw [h] at this; cases this
set_option maxRecDepth 100000 in
set_option maxHeartbeats 8000000 in
theorem oddc1_any (r : RepR) (g : Nat) (K : Option Addr) (k kc : Nat) (w : World) (hb : RpBk w g r K k kc) (hs : IsSs w K k r.keys) (hw : RpW r) :
    Calls Try.prog 41 #[.pointer (some ⟨g, 0, none⟩)] w fun e w' => e = .returned (.bool (oddN r 0)) ∧ Below w.heap.size w w' := by
  have x0 := Blk.cell hb 0
  have x1 := Blk.cell hb 1
  have x2 := Blk.cell hb 2
  have x3 := Blk.cell hb 3
  simp only [List.getElem?_toArray, List.getElem?_cons_zero, List.getElem?_cons_succ] at x0 x1 x2 x3
  clear hb
  have q := fun W => within_any r.rev 0 9007199254740992 W
  have HE : Hid (oddN r 0 = !wiB r.rev 0 9007199254740992) := rfl
  generalize oddN r 0 = v at *
  generalize wiB r.rev 0 9007199254740992 = b at *
  go_enter Try.func41, Try.ntmps41
  go_wp2_with fail
  ((with_reducible refine (q _).mono ?_); rintro e W1 ⟨rfl, rfl⟩)
  go_wp2_with fail
  go_ret
  exact ⟨ret_bool (by rw [HE.out]), Below.refl _ _⟩
set_option maxRecDepth 100000 in
set_option maxHeartbeats 8000000 in
theorem oddc2_any (r : RepR) (g : Nat) (K : Option Addr) (k kc : Nat) (w : World) (hb : RpBk w g r K k kc) (hs : IsSs w K k r.keys) (hw : RpW r) :
    Calls Try.prog 42 #[.pointer (some ⟨g, 0, none⟩)] w fun e w' => e = .returned (.bool (oddN r 1)) ∧ Below w.heap.size w w' := by
  have x0 := Blk.cell hb 0
  have x1 := Blk.cell hb 1
  have x2 := Blk.cell hb 2
  have x3 := Blk.cell hb 3
  simp only [List.getElem?_toArray, List.getElem?_cons_zero, List.getElem?_cons_succ] at x0 x1 x2 x3
  clear hb
  have hz := hw.2.2
  by_cases h : (r.value.size : Int) ≤ 200
  · have HE : Hid (oddN r 1 = false) := decide_eq_false (by omega)
    have hg : decide ((200 : Int) < (r.value.size : Int)) = false := decide_eq_false (by omega)
    go_enter Try.func42, Try.ntmps42
    go_wp2_with fail
    go_ret
    exact ⟨ret_bool (by first | (rw [HE.out]; done) | (rw [HE.out]; exact hg)), Below.refl _ _⟩
  · have HE : Hid (oddN r 1 = true) := decide_eq_true (by omega)
    have hg : decide ((200 : Int) < (r.value.size : Int)) = true := decide_eq_true (by omega)
    go_enter Try.func42, Try.ntmps42
    go_wp2_with fail
    go_ret
    exact ⟨ret_bool (by first | (rw [HE.out]; done) | (rw [HE.out]; exact hg)), Below.refl _ _⟩
set_option maxRecDepth 100000 in
set_option maxHeartbeats 8000000 in
theorem oddc3_any (r : RepR) (g : Nat) (K : Option Addr) (k kc : Nat) (w : World) (hb : RpBk w g r K k kc) (hs : IsSs w K k r.keys) (hw : RpW r) :
    Calls Try.prog 43 #[.pointer (some ⟨g, 0, none⟩)] w fun e w' => e = .returned (.bool (oddN r 2)) ∧ Below w.heap.size w w' := by
  have x0 := Blk.cell hb 0
  have x1 := Blk.cell hb 1
  have x2 := Blk.cell hb 2
  have x3 := Blk.cell hb 3
  simp only [List.getElem?_toArray, List.getElem?_cons_zero, List.getElem?_cons_succ] at x0 x1 x2 x3
  clear hb
  have hk : k = r.keys.length := hs.1
  have hk9 := hs.2.1
  unfold maxLen at hk9
  by_cases h : (k : Int) ≤ 5
  · have HE : Hid (oddN r 2 = false) := decide_eq_false (by omega)
    have hg : decide ((5 : Int) < (k : Int)) = false := decide_eq_false (by omega)
    clear hk hs
    go_enter Try.func43, Try.ntmps43
    go_wp2_with fail
    go_ret
    exact ⟨ret_bool (by first | (rw [HE.out]; done) | (rw [HE.out]; exact hg)), Below.refl _ _⟩
  · have HE : Hid (oddN r 2 = true) := decide_eq_true (by omega)
    have hg : decide ((5 : Int) < (k : Int)) = true := decide_eq_true (by omega)
    clear hk hs
    go_enter Try.func43, Try.ntmps43
    go_wp2_with fail
    go_ret
    exact ⟨ret_bool (by first | (rw [HE.out]; done) | (rw [HE.out]; exact hg)), Below.refl _ _⟩
set_option maxRecDepth 100000 in
set_option maxHeartbeats 8000000 in
theorem oddc4_any (r : RepR) (g : Nat) (K : Option Addr) (k kc : Nat) (w : World) (hb : RpBk w g r K k kc) (hs : IsSs w K k r.keys) (hw : RpW r) :
    Calls Try.prog 44 #[.pointer (some ⟨g, 0, none⟩)] w fun e w' => e = .returned (.bool (oddN r 3)) ∧ Below w.heap.size w w' := by
  have x0 := Blk.cell hb 0
  have x1 := Blk.cell hb 1
  have x2 := Blk.cell hb 2
  have x3 := Blk.cell hb 3
  simp only [List.getElem?_toArray, List.getElem?_cons_zero, List.getElem?_cons_succ] at x0 x1 x2 x3
  clear hb
  have q := contains13_any r.keys K k kc w hs
  have HE : Hid (oddN r 3 = longsB r.keys) := rfl
  generalize oddN r 3 = v at *
  generalize longsB r.keys = b at *
  clear hs
  go_enter Try.func44, Try.ntmps44
  go_wp2_with fail
  ((with_reducible refine q.mono ?_); rintro e W1 ⟨rfl, b1⟩)
  go_wp2_with fail
  go_ret
  exact ⟨ret_bool (by rw [HE.out]), b1⟩
set_option maxRecDepth 100000 in
set_option maxHeartbeats 8000000 in
theorem oddc5_any (r : RepR) (g : Nat) (K : Option Addr) (k kc : Nat) (w : World) (hb : RpBk w g r K k kc) (hs : IsSs w K k r.keys) (hw : RpW r) :
    Calls Try.prog 47 #[.pointer (some ⟨g, 0, none⟩)] w fun e w' => e = .returned (.bool (oddN r 4)) ∧ Below w.heap.size w w' := by
  have x0 := Blk.cell hb 0
  have x1 := Blk.cell hb 1
  have x2 := Blk.cell hb 2
  have x3 := Blk.cell hb 3
  simp only [List.getElem?_toArray, List.getElem?_cons_zero, List.getElem?_cons_succ] at x0 x1 x2 x3
  clear hb
  have q := fun W => within_any (r.errno : Int) 0 255 W
  have HE : Hid (oddN r 4 = !wiB (r.errno : Int) 0 255) := rfl
  generalize oddN r 4 = v at *
  generalize wiB (r.errno : Int) 0 255 = b at *
  go_enter Try.func47, Try.ntmps47
  go_wp2_with fail
  ((with_reducible refine (q _).mono ?_); rintro e W1 ⟨rfl, rfl⟩)
  go_wp2_with fail
  go_ret
  exact ⟨ret_bool (by rw [HE.out]), Below.refl _ _⟩
theorem oddc_any (r : RepR) (g : Nat) (K : Option Addr) (k kc i : Nat) (hi : i < 5) (w : World) (hb : RpBk w g r K k kc) (hs : IsSs w K k r.keys) (hw : RpW r) :
    Calls Try.prog (oddF i) #[.pointer (some ⟨g, 0, none⟩)] w fun e w' => e = .returned (.bool (oddN r i)) ∧ Below w.heap.size w w' := by
  rcases (by omega : i = 0 ∨ i = 1 ∨ i = 2 ∨ i = 3 ∨ i = 4) with rfl | rfl | rfl | rfl | rfl
  · exact oddc1_any r g K k kc w hb hs hw
  · exact oddc2_any r g K k kc w hb hs hw
  · exact oddc3_any r g K k kc w hb hs hw
  · exact oddc4_any r g K k kc w hb hs hw
  · exact oddc5_any r g K k kc w hb hs hw
def fnOd (g i : Nat) : Value := .func (.func (oddF i)) #[] #[.pointer (some ⟨g, 0, none⟩)]
/-- What oddities leaves: five closures over the reply's block. -/
def OddsP (w : World) (r : RepR) (K : Option Addr) (k kc : Nat) (e : Ending) (w' : World) : Prop :=
  ∃ g s, e = .returned (.slice (some ⟨s, 0, none⟩) 5 5) ∧ RpBk w' g r K k kc ∧ s < w'.heap.size ∧ (∀ i, i < 5 → w'.cell? ⟨s, i, none⟩ = some (fnOd g i)) ∧ Below w.heap.size w w'
set_option maxRecDepth 100000 in
set_option maxHeartbeats 8000000 in
theorem oddities_any (r : RepR) (K : Option Addr) (k kc : Nat) (w : World) :
    Calls Try.prog 31 #[rpV r (.slice K k kc)] w (OddsP w r K k kc) := by
  have hb1 : Below w.heap.size w (w.alloc (.cells #[.int .i64 r.errno, .int .i64 r.rev, .string r.value, .slice K k kc] 31)) := (Below.refl _ _).alloc (Nat.le_refl _) _
  have hb2 : Below w.heap.size w ((w.alloc (.cells #[.int .i64 r.errno, .int .i64 r.rev, .string r.value, .slice K k kc] 31)).alloc (.cells #[.func (.func 41) #[] #[.pointer (some ⟨w.heap.size, 0, none⟩)], .func (.func 42) #[] #[.pointer (some ⟨w.heap.size, 0, none⟩)], .func (.func 43) #[] #[.pointer (some ⟨w.heap.size, 0, none⟩)], .func (.func 44) #[] #[.pointer (some ⟨w.heap.size, 0, none⟩)], .func (.func 47) #[] #[.pointer (some ⟨w.heap.size, 0, none⟩)]] 24)) := hb1.alloc (by simp) _
  have hx := Blk.below (Blk.new w (.cells #[.int .i64 r.errno, .int .i64 r.rev, .string r.value, .slice K k kc] 31)) ((Below.refl _ _).alloc (Nat.le_refl _) (.cells #[.func (.func 41) #[] #[.pointer (some ⟨w.heap.size, 0, none⟩)], .func (.func 42) #[] #[.pointer (some ⟨w.heap.size, 0, none⟩)], .func (.func 43) #[] #[.pointer (some ⟨w.heap.size, 0, none⟩)], .func (.func 44) #[] #[.pointer (some ⟨w.heap.size, 0, none⟩)], .func (.func 47) #[] #[.pointer (some ⟨w.heap.size, 0, none⟩)]] 24))
  have hz := Blk.new (w.alloc (.cells #[.int .i64 r.errno, .int .i64 r.rev, .string r.value, .slice K k kc] 31)) (.cells #[.func (.func 41) #[] #[.pointer (some ⟨w.heap.size, 0, none⟩)], .func (.func 42) #[] #[.pointer (some ⟨w.heap.size, 0, none⟩)], .func (.func 43) #[] #[.pointer (some ⟨w.heap.size, 0, none⟩)], .func (.func 44) #[] #[.pointer (some ⟨w.heap.size, 0, none⟩)], .func (.func 47) #[] #[.pointer (some ⟨w.heap.size, 0, none⟩)]] 24)
  rw [World.size_alloc] at hz
  have HP : Hid (OddsP w r K k kc (.returned (.slice (some ⟨w.heap.size + 1, 0, none⟩) 5 5)) ((w.alloc (.cells #[.int .i64 r.errno, .int .i64 r.rev, .string r.value, .slice K k kc] 31)).alloc (.cells #[.func (.func 41) #[] #[.pointer (some ⟨w.heap.size, 0, none⟩)], .func (.func 42) #[] #[.pointer (some ⟨w.heap.size, 0, none⟩)], .func (.func 43) #[] #[.pointer (some ⟨w.heap.size, 0, none⟩)], .func (.func 44) #[] #[.pointer (some ⟨w.heap.size, 0, none⟩)], .func (.func 47) #[] #[.pointer (some ⟨w.heap.size, 0, none⟩)]] 24))) :=
    ⟨w.heap.size, w.heap.size + 1, rfl, hx, Blk.lt hz, fun i hi => by
      rcases (by omega : i = 0 ∨ i = 1 ∨ i = 2 ∨ i = 3 ∨ i = 4) with rfl | rfl | rfl | rfl | rfl
      · exact Blk.cell hz 0
      · exact Blk.cell hz 1
      · exact Blk.cell hz 2
      · exact Blk.cell hz 3
      · exact Blk.cell hz 4, hb2⟩
  clear hb1 hb2 hx hz
  unfold rpV
  go_enter Try.func31, Try.ntmps31
  go_wp2_with fail
  go_ret
  exact HP.out
set_option maxRecDepth 100000 in
set_option maxHeartbeats 8000000 in
theorem odd_any (r : RepR) (K : Option Addr) (k kc : Nat) (w : World) (h : IsSs w K k r.keys) (hw : RpW r) :
    Calls Try.prog 19 #[rpV r (.slice K k kc)] w fun e w' => e = .returned (.bool (!mayRB r)) ∧ Below w.heap.size w w' := by
  have hb1 : Below w.heap.size w (w.alloc (.cells #[.int .i64 r.errno, .int .i64 r.rev, .string r.value, .slice K k kc] 31)) := (Below.refl _ _).alloc (Nat.le_refl _) _
  have hx := Blk.new w (.cells #[.int .i64 r.errno, .int .i64 r.rev, .string r.value, .slice K k kc] 31)
  have x0 := Blk.cell hx 0
  have x1 := Blk.cell hx 1
  have x2 := Blk.cell hx 2
  have x3 := Blk.cell hx 3
  simp only [List.getElem?_toArray, List.getElem?_cons_zero, List.getElem?_cons_succ] at x0 x1 x2 x3
  have q := oddities_any r K k kc (w.alloc (.cells #[.int .i64 r.errno, .int .i64 r.rev, .string r.value, .slice K k kc] 31))
  have HS := Lib.hid h; clear h
  have HW := Lib.hid hw; clear hw
  have HB0 := Lib.hid hb1; clear hb1 hx
  have HYES : Hid ((∀ i, i < 5 → oddN r i = false) → mayRB r = true) := (may_odd r).2
  have HNO : Hid (∀ i, i < 5 → oddN r i = true → mayRB r = false) := fun i hi h => odd_may hi h
  generalize mayRB r = v at *
  unfold rpV at q ⊢
  go_enter Try.func19, Try.ntmps19
  go_wp2_with fail
  ((with_reducible refine q.mono ?_); rintro e W1 ⟨g, s, rfl, hbk, hsl, hfn, b1⟩)
  clear q x0 x1 x2 x3
  have HBK := Lib.hid hbk; clear hbk
  have HFN := Lib.hid hfn; clear hfn
  have HSL := Lib.hid hsl; clear hsl
  have HB1 := Lib.hid (bch HB0.out b1); clear b1
  go_wp2_with fail
  go_loopw [8] (fun i wy => ∃ (j : Nat) (wr : World), wr = wy ∧ j ≤ 5 ∧ i = .int .i64 j ∧ (∀ q, q < j → oddN r q = false) ∧ Below W1.heap.size W1 wr) (fun i _ => 5 - (intOf i).toNat)
  case atStart => exact ⟨0, _, rfl, by omega, rfl, (fun q hq => by omega), Below.refl _ _⟩
  case round =>
    obtain ⟨j, wr, rfl, hj, rfl, hall, hb⟩ := hrel
    have HB := Lib.hid hb; clear hb
    have HALL := Lib.hid hall; clear hall
    by_cases hlt : j < 5
    · have hji : (j : Int) < 5 := by omega
      have hj0 : (0 : Int) ≤ (j : Int) := by omega
      have hx := (HB.out.cell (p := ⟨s, j, none⟩) HSL.out).trans (HFN.out j hlt)
      have q := oddc_any r g K k kc j hlt wr (Blk.below HBK.out HB.out) (HS.out.below (bch HB1.out HB.out)) HW.out
      have cf := cfOdd j
      unfold fnOd at hx
      have HSTEP : Hid (oddN r j = false → ∀ q, q < j + 1 → oddN r q = false) := fun e q hq => by
        rcases (by omega : q < j ∨ q = j) with h | rfl
        · exact HALL.out q h
        · exact e
      have HN2 : Hid (oddN r j = true → v = false) := HNO.out j hlt
      generalize oddF j = F at *
      obtain ⟨b, hbb⟩ : ∃ b, oddN r j = b := ⟨_, rfl⟩
      rw [hbb] at q HSTEP HN2
      clear hbb
      cases b with
      | false =>
        go_wp2_with fail
        ((with_reducible refine q.mono ?_); rintro e W2 ⟨rfl, b2⟩)
        have HB2 := Lib.hid (bch HB.out b2); clear q hx b2
        go_wp2_with fail
        go_roundw
        case rel => exact ⟨j + 1, _, rfl, by omega, by go_num, HSTEP.out (by first | trivial | rfl), HB2.out⟩
        case measure => simp [intOf]; omega
      | true =>
        go_wp2_with fail
        ((with_reducible refine q.mono ?_); rintro e W2 ⟨rfl, b2⟩)
        have HB2 := Lib.hid (bch HB.out b2); clear q hx b2
        go_wp2_with fail
        go_ret
        exact ⟨ret_bool (by rw [HN2.out (by first | trivial | rfl)]; rfl), bch HB1.out HB2.out⟩
    · have hje : j = 5 := by omega
      subst hje
      have HE : Hid (v = true) := HYES.out HALL.out
      clear hlt
      go_wp2_with fail
      go_ret
      exact ⟨ret_bool (by rw [HE.out]; rfl), bch HB1.out HB.out⟩
end Go.Proofs.Ytgckoihangccbaa
