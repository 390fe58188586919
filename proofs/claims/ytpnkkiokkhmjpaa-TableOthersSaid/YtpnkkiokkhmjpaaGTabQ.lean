import Derived.Test.YtpnkkiokkhmjpaaGTabP
import Derived.Maps.OwnSet
/-
  The contracts of the program's own refuse, rev, full and get of a table's work (stage 12).
-/
namespace Go.Proofs.Ytpnkkiokkhmjpaa
open Go.RowKit
set_option linter.unusedVariables false
set_option linter.unusedSimpArgs false

/-- What a method is asked for: a right table, an op, its key's place. -/
def WkOk (w : World) (A : Option Addr) (n cap : Nat) (t : List Rcd) (o : OpR) (p : Nat) (th : Bool) : Prop :=
  n ≤ cap ∧ IsTs w A n t ∧ RightT t ∧ OpWf o ∧ PlaceT t o.key p th
theorem WkOk.below {w W : World} {A : Option Addr} {n cap p : Nat} {t : List Rcd} {o : OpR} {th : Bool} (h : WkOk w A n cap t o p th) (hb : Below w.heap.size w W) : WkOk W A n cap t o p th :=
  ⟨h.1, h.2.1.below hb, h.2.2⟩
/-- Where a method's answer lies: the table that was handed in, or a row of its own; the keys in a row of their own. -/
def TabParts (base : Nat) (W : World) (A0 : Option Addr) (n0 cap0 : Nat) (t u : List Rcd) (ks : List ByteArray) (v K : Value) : Prop :=
  ((v = .slice A0 n0 cap0 ∧ u = t) ∨ ∃ l, RowT W base v l ∧ ExT W l ∧ l.map Prod.fst = u) ∧ RowK W base K ks
def MtPost (w : World) (A0 : Option Addr) (n0 cap0 : Nat) (t u : List Rcd) (r : RepR) (e : Ending) (W : World) : Prop :=
  ∃ v K, e = .returned (.tuple #[v, rpV r K]) ∧ TabParts w.heap.size W A0 n0 cap0 t u r.keys v K ∧ Below w.heap.size w W
theorem mtPost_same {w W : World} {A : Option Addr} {n cap : Nat} {t : List Rcd} {r : RepR} (hk : r.keys = []) (hb : Below w.heap.size w W) :
    MtPost w A n cap t t r (.returned (.tuple #[.slice A n cap, rpV r (.slice none 0 0)])) W := ⟨_, _, rfl, ⟨.inl ⟨rfl, rfl⟩, by rw [hk]; exact rowK_nil _ _⟩, hb⟩
/-- A reply's four cells stored: what was answered lies as it lay. -/
theorem TabParts.four {w W0 W : World} {g n0 cap0 : Nat} {A0 : Option Addr} {t u : List Rcd} {ks : List ByteArray} {v K a b c d : Value} {T : TypeId} (h : TabParts W0.heap.size W A0 n0 cap0 t u ks v K) (hz : Blk W g (.cells #[a, b, c, d] T (0, 0))) (hT : T ≠ 57) (hg : g < W0.heap.size) (hw : w.heap.size ≤ W0.heap.size) (x y z s : Value) :
    TabParts w.heap.size (((((W).setCell ⟨g, 0, none⟩ x).setCell ⟨g, 1, none⟩ y).setCell ⟨g, 2, none⟩ z).setCell ⟨g, 3, none⟩ s) A0 n0 cap0 t u ks v K := by
  obtain ⟨h1, h2⟩ := h
  refine ⟨?_, rowK_base hw (rowK_four h2 (fun e => by have := (h2.lt _ e.symm).1; omega) x y z s)⟩
  rcases h1 with h1 | ⟨l, hr, hx, hm⟩
  · exact .inl h1
  · exact .inr ⟨l, (rowT_four hr (fun e => by have := (hr.lt _ e.symm).1; omega) x y z s).base hw, exT_four hx hz hT x y z s, hm⟩
theorem TabParts.drew {base : Nat} {W : World} {n0 cap0 : Nat} {A0 : Option Addr} {t u : List Rcd} {ks : List ByteArray} {v K : Value} (h : TabParts base W A0 n0 cap0 t u ks v K) : TabParts base W.drew A0 n0 cap0 t u ks v K := h
theorem MtPost.doPost {w W : World} {n0 cap0 : Nat} {A0 : Option Addr} {t u : List Rcd} {r : RepR} {e : Ending} (h : MtPost w A0 n0 cap0 t u r e W) (hc : n0 ≤ cap0) (ht : IsTs w A0 n0 t) (hs : ∀ s ∈ r.keys, s.size ≤ maxLen) : DoPost w u r e W := by
  obtain ⟨v, K, he, ⟨h1, h2⟩, hb⟩ := h
  obtain ⟨Ak, ck, hK, hck, hss⟩ := h2.isSs hs
  subst hK
  rcases h1 with ⟨rfl, rfl⟩ | ⟨l, hr, hx, rfl⟩
  · exact ⟨_, _, _, _, _, _, he, hc, ht.below hb, hck, hss, hb⟩
  · obtain ⟨A, cap, rfl, hcc, hts⟩ := hr.isTs hx
    exact ⟨_, _, _, _, _, _, he, hcc, hts, hck, hss, hb⟩
set_option maxRecDepth 100000 in
set_option maxHeartbeats 8000000 in
theorem refuseEq_any (t : List Rcd) (A : Option Addr) (n cap : Nat) (o : OpR) (p : Nat) (th : Bool) (e : Nat) (z : Int) (hz : z = e) (w : World) (hc : n ≤ cap) (ht : IsTs w A n t) :
    Calls Try.prog 61 #[wkV A n cap o p th, .int .i64 z] w fun x w' => x = .returned (.tuple #[.slice A n cap, .agg #[.int .i64 z, .int .i64 0, .string ⟨#[]⟩, .slice none 0 0]]) ∧ Below w.heap.size w w' := by
  have HE : Hid (z = e) := hz; clear hz
  have HT := Lib.hid ht; clear ht
  have HC := Lib.hid hc; clear hc
  have hb1 : Below w.heap.size w (w.alloc (.cells #[.slice A n cap, .int .i64 o.kind, .string o.key, .string o.value, .int .i64 o.rev, .string o.upto, .int .i64 o.life, .string o.note, .int .i64 p, .bool th] 62)) := (Below.refl _ _).alloc (Nat.le_refl _) _
  have hb2 : Below w.heap.size w ((w.alloc (.cells #[.slice A n cap, .int .i64 o.kind, .string o.key, .string o.value, .int .i64 o.rev, .string o.upto, .int .i64 o.life, .string o.note, .int .i64 p, .bool th] 62)).alloc (.cells #[.int .i64 0, .int .i64 0, .string ⟨#[]⟩, .slice none 0 0] 37)) := hb1.alloc (by simp) _
  have hwk : WkBlk ((w.alloc (.cells #[.slice A n cap, .int .i64 o.kind, .string o.key, .string o.value, .int .i64 o.rev, .string o.upto, .int .i64 o.life, .string o.note, .int .i64 p, .bool th] 62)).alloc (.cells #[.int .i64 0, .int .i64 0, .string ⟨#[]⟩, .slice none 0 0] 37)) w.heap.size A n cap o p th := (WkBlk.new w A n cap o p th).below ((Below.refl _ _).alloc (Nat.le_refl _) _)
  have hzb : Blk ((w.alloc (.cells #[.slice A n cap, .int .i64 o.kind, .string o.key, .string o.value, .int .i64 o.rev, .string o.upto, .int .i64 o.life, .string o.note, .int .i64 p, .bool th] 62)).alloc (.cells #[.int .i64 0, .int .i64 0, .string ⟨#[]⟩, .slice none 0 0] 37)) (w.heap.size + 1) (.cells #[.int .i64 0, .int .i64 0, .string ⟨#[]⟩, .slice none 0 0] 37 (0, 0)) := by have h := Blk.new (w.alloc (.cells #[.slice A n cap, .int .i64 o.kind, .string o.key, .string o.value, .int .i64 o.rev, .string o.upto, .int .i64 o.life, .string o.note, .int .i64 p, .bool th] 62)) (.cells #[.int .i64 0, .int .i64 0, .string ⟨#[]⟩, .slice none 0 0] 37); rw [World.size_alloc] at h; exact h
  obtain ⟨W0, hW0⟩ : ∃ W, (w.alloc (.cells #[.slice A n cap, .int .i64 o.kind, .string o.key, .string o.value, .int .i64 o.rev, .string o.upto, .int .i64 o.life, .string o.note, .int .i64 p, .bool th] 62)).alloc (.cells #[.int .i64 0, .int .i64 0, .string ⟨#[]⟩, .slice none 0 0] 37) = W := ⟨_, rfl⟩
  rw [hW0] at hb2 hwk hzb
  clear hb1
  have HWK : Hid (WkBlk W0 w.heap.size A n cap o p th) := hwk; clear hwk
  have HZB := Lib.hid hzb; clear hzb
  have HB := Lib.hid hb2; clear hb2
  have HS1 : Hid (w.heap.size + 1 < W0.heap.size) := Blk.lt HZB.out
  unfold wkV
  obtain ⟨c0, c1, c2, c3, c4, c5, c6, c7, c8, c9⟩ := HWK.out.cells
  go_enter Try.func61, Try.ntmps61
  go_upto_region 1 with fail
  have z0 := Blk.cell HZB.out 0
  have z1 := Blk.cell HZB.out 1
  have z2 := Blk.cell HZB.out 2
  have z3 := Blk.cell HZB.out 3
  simp only [List.getElem?_toArray, List.getElem?_cons_zero, List.getElem?_cons_succ] at z0 z1 z2 z3
  have f0 := Blk.frozen HZB.out 0
  have f1 := Blk.frozen HZB.out 1
  have f2 := Blk.frozen HZB.out 2
  have f3 := Blk.frozen HZB.out 3
  have hfin := rp_put HZB.out (.int .i64 z) (.int .i64 0) (.string ⟨#[]⟩) (.slice none 0 0)
  have e0 := Blk.cell hfin 0
  have e1 := Blk.cell hfin 1
  have e2 := Blk.cell hfin 2
  have e3 := Blk.cell hfin 3
  simp only [List.getElem?_toArray, List.getElem?_cons_zero, List.getElem?_cons_succ] at e0 e1 e2 e3
  have HBF := Lib.hid (below_four (g := (w.heap.size + 1)) HB.out (Nat.le_succ _) (.int .i64 z) (.int .i64 0) (.string ⟨#[]⟩) (.slice none 0 0))
  clear hfin
  go_wp2_with fail
  refine bodyPost_ret (v := .tuple #[.slice A n cap, .agg #[(.int .i64 z), (.int .i64 0), (.string ⟨#[]⟩), (.slice none 0 0)]]) (by simp [results, Try.results61, go_sem, e0, e1, e2, e3]) rfl ⟨rfl, HBF.out⟩
/-- What rev tells. -/
def revW (t : List Rcd) (p : Nat) (th : Bool) : Int := if th then (atR t p).rev else 0
set_option maxRecDepth 100000 in
set_option maxHeartbeats 8000000 in
theorem rev_any (t : List Rcd) (A : Option Addr) (n cap : Nat) (o : OpR) (p : Nat) (th : Bool) (w : World) (ht : IsTs w A n t) (hp : th = true → p < t.length) :
    Calls Try.prog 66 #[wkV A n cap o p th] w fun e w' => e = .returned (.int .i64 (revW t p th)) ∧ Below w.heap.size w w' := by
  have HN : Hid (n = t.length) := ht.1
  have HT := Lib.hid ht; clear ht
  have hb1 : Below w.heap.size w (w.alloc (.cells #[.slice A n cap, .int .i64 o.kind, .string o.key, .string o.value, .int .i64 o.rev, .string o.upto, .int .i64 o.life, .string o.note, .int .i64 p, .bool th] 62)) := (Below.refl _ _).alloc (Nat.le_refl _) _
  have hwk := WkBlk.new w A n cap o p th
  obtain ⟨W0, hW0⟩ : ∃ W, w.alloc (.cells #[.slice A n cap, .int .i64 o.kind, .string o.key, .string o.value, .int .i64 o.rev, .string o.upto, .int .i64 o.life, .string o.note, .int .i64 p, .bool th] 62) = W := ⟨_, rfl⟩
  rw [hW0] at hb1 hwk
  have HWK : Hid (WkBlk W0 w.heap.size A n cap o p th) := hwk; clear hwk
  have HB := Lib.hid hb1; clear hb1
  unfold wkV
  obtain ⟨c0, c1, c2, c3, c4, c5, c6, c7, c8, c9⟩ := HWK.out.cells
  cases th with
  | false =>
    clear hp
    go_enter Try.func66, Try.ntmps66
    go_wp2_with fail
    go_ret
    exact ⟨rfl, HB.out⟩
  | true =>
    have hpl := hp rfl
    clear hp
    have hpn : p < n := by have := HN.out; omega
    have hp0 : (0 : Int) ≤ (p : Int) := by omega
    have hp1 : (p : Int) < (n : Int) := by omega
    obtain ⟨b, off, hA, _⟩ := HT.out.block (by omega)
    subst hA
    obtain ⟨E, m, c, ⟨x0, x1, x2, x3, x4, x5⟩, _, _⟩ := HT.out.at hpl HB.out
    have HE : Hid (revW t p true = (atR t p).rev) := rfl
    clear hpl
    generalize atR t p = r at *
    go_enter Try.func66, Try.ntmps66
    go_wp2_with fail
    go_ret
    exact ⟨by rw [HE.out]; rfl, HB.out⟩
/-- Is there no room? -/
def fullW (t : List Rcd) (p : Nat) (th : Bool) : Bool := if th then (atR t p).rev == maxN else decide (t.length = 20)
set_option maxRecDepth 100000 in
set_option maxHeartbeats 8000000 in
theorem full_any (t : List Rcd) (A : Option Addr) (n cap : Nat) (o : OpR) (p : Nat) (th : Bool) (w : World) (ht : IsTs w A n t) (hp : th = true → p < t.length) :
    Calls Try.prog 74 #[wkV A n cap o p th] w fun e w' => e = .returned (.bool (fullW t p th)) ∧ Below w.heap.size w w' := by
  have HN : Hid (n = t.length) := ht.1
  have HT := Lib.hid ht; clear ht
  have hb1 : Below w.heap.size w (w.alloc (.cells #[.slice A n cap, .int .i64 o.kind, .string o.key, .string o.value, .int .i64 o.rev, .string o.upto, .int .i64 o.life, .string o.note, .int .i64 p, .bool th] 62)) := (Below.refl _ _).alloc (Nat.le_refl _) _
  have hwk := WkBlk.new w A n cap o p th
  obtain ⟨W0, hW0⟩ : ∃ W, w.alloc (.cells #[.slice A n cap, .int .i64 o.kind, .string o.key, .string o.value, .int .i64 o.rev, .string o.upto, .int .i64 o.life, .string o.note, .int .i64 p, .bool th] 62) = W := ⟨_, rfl⟩
  rw [hW0] at hb1 hwk
  have HWK : Hid (WkBlk W0 w.heap.size A n cap o p th) := hwk; clear hwk
  have HB := Lib.hid hb1; clear hb1
  unfold wkV
  cases th with
  | false =>
    clear hp
    obtain ⟨c0, c1, c2, c3, c4, c5, c6, c7, c8, c9⟩ := HWK.out.cells
    by_cases h20 : n = 20
    · have HE : Hid (fullW t p false = true) := decide_eq_true (by rw [← HN.out]; exact h20)
      have e1 : ((n : Int) == 20) = true := by simp; omega
      clear h20
      go_enter Try.func74, Try.ntmps74
      go_wp2_with fail
      go_ret
      exact ⟨by rw [HE.out]; rfl, HB.out⟩
    · have HE : Hid (fullW t p false = false) := decide_eq_false (by rw [← HN.out]; exact h20)
      have e1 : ((n : Int) == 20) = false := by simp; omega
      clear h20
      go_enter Try.func74, Try.ntmps74
      go_wp2_with fail
      go_ret
      exact ⟨by rw [HE.out]; rfl, HB.out⟩
  | true =>
    have q := rev_any t A n cap o p true W0 (HT.out.below HB.out) hp
    have HE : Hid (fullW t p true = ((atR t p).rev == 9007199254740992)) := rfl
    have e0 : revW t p true = (atR t p).rev := rfl
    rw [e0] at q
    clear e0 hp
    unfold wkV at q
    generalize (atR t p).rev = z at *
    obtain ⟨c0, c1, c2, c3, c4, c5, c6, c7, c8, c9⟩ := HWK.out.cells
    cases hz : (z == 9007199254740992) with
    | true =>
      have HZ := Lib.hid (HE.out.trans hz)
      go_enter Try.func74, Try.ntmps74
      go_wp2_with fail
      ((with_reducible refine q.mono ?_); rintro e W1 ⟨rfl, b1⟩)
      have HB1 := Lib.hid (bch HB.out b1); clear b1 q
      go_wp2_with fail
      go_ret
      exact ⟨by rw [HZ.out]; rfl, HB1.out⟩
    | false =>
      have HZ := Lib.hid (HE.out.trans hz)
      go_enter Try.func74, Try.ntmps74
      go_wp2_with fail
      ((with_reducible refine q.mono ?_); rintro e W1 ⟨rfl, b1⟩)
      have HB1 := Lib.hid (bch HB.out b1); clear b1 q
      go_wp2_with fail
      go_ret
      exact ⟨by rw [HZ.out]; rfl, HB1.out⟩
/-- What get tells. -/
def getR (t : List Rcd) (p : Nat) (th : Bool) : RepR := if th then ⟨0, (atR t p).rev, (atR t p).value, []⟩ else faultR 70
set_option maxRecDepth 100000 in
set_option maxHeartbeats 8000000 in
theorem get_any (t : List Rcd) (A : Option Addr) (n cap : Nat) (o : OpR) (p : Nat) (th : Bool) (w : World) (h : WkOk w A n cap t o p th) :
    Calls Try.prog 46 #[wkV A n cap o p th] w (MtPost w A n cap t t (getR t p th)) := by
  obtain ⟨hc, ht, hr, ho, hpl⟩ := h
  have HN : Hid (n = t.length) := ht.1
  have HT := Lib.hid ht; clear ht
  have HC := Lib.hid hc; clear hc
  clear hr ho
  have hb1 : Below w.heap.size w (w.alloc (.cells #[.slice A n cap, .int .i64 o.kind, .string o.key, .string o.value, .int .i64 o.rev, .string o.upto, .int .i64 o.life, .string o.note, .int .i64 p, .bool th] 62)) := (Below.refl _ _).alloc (Nat.le_refl _) _
  have hb2 : Below w.heap.size w ((w.alloc (.cells #[.slice A n cap, .int .i64 o.kind, .string o.key, .string o.value, .int .i64 o.rev, .string o.upto, .int .i64 o.life, .string o.note, .int .i64 p, .bool th] 62)).alloc (.cells #[.int .i64 0, .int .i64 0, .string ⟨#[]⟩, .slice none 0 0] 37)) := hb1.alloc (by simp) _
  have hwk : WkBlk ((w.alloc (.cells #[.slice A n cap, .int .i64 o.kind, .string o.key, .string o.value, .int .i64 o.rev, .string o.upto, .int .i64 o.life, .string o.note, .int .i64 p, .bool th] 62)).alloc (.cells #[.int .i64 0, .int .i64 0, .string ⟨#[]⟩, .slice none 0 0] 37)) w.heap.size A n cap o p th := (WkBlk.new w A n cap o p th).below ((Below.refl _ _).alloc (Nat.le_refl _) _)
  have hzb : Blk ((w.alloc (.cells #[.slice A n cap, .int .i64 o.kind, .string o.key, .string o.value, .int .i64 o.rev, .string o.upto, .int .i64 o.life, .string o.note, .int .i64 p, .bool th] 62)).alloc (.cells #[.int .i64 0, .int .i64 0, .string ⟨#[]⟩, .slice none 0 0] 37)) (w.heap.size + 1) (.cells #[.int .i64 0, .int .i64 0, .string ⟨#[]⟩, .slice none 0 0] 37 (0, 0)) := by have h := Blk.new (w.alloc (.cells #[.slice A n cap, .int .i64 o.kind, .string o.key, .string o.value, .int .i64 o.rev, .string o.upto, .int .i64 o.life, .string o.note, .int .i64 p, .bool th] 62)) (.cells #[.int .i64 0, .int .i64 0, .string ⟨#[]⟩, .slice none 0 0] 37); rw [World.size_alloc] at h; exact h
  obtain ⟨W0, hW0⟩ : ∃ W, (w.alloc (.cells #[.slice A n cap, .int .i64 o.kind, .string o.key, .string o.value, .int .i64 o.rev, .string o.upto, .int .i64 o.life, .string o.note, .int .i64 p, .bool th] 62)).alloc (.cells #[.int .i64 0, .int .i64 0, .string ⟨#[]⟩, .slice none 0 0] 37) = W := ⟨_, rfl⟩
  rw [hW0] at hb2 hwk hzb
  clear hb1
  have HWK : Hid (WkBlk W0 w.heap.size A n cap o p th) := hwk; clear hwk
  have HZB := Lib.hid hzb; clear hzb
  have HB := Lib.hid hb2; clear hb2
  have HS1 : Hid (w.heap.size + 1 < W0.heap.size) := Blk.lt HZB.out
  unfold wkV
  cases th with
  | false =>
    clear hpl
    have q := refuseEq_any t A n cap o p false 70 70 rfl W0 HC.out (HT.out.below HB.out)
    unfold wkV at q
    obtain ⟨c0, c1, c2, c3, c4, c5, c6, c7, c8, c9⟩ := HWK.out.cells
    go_enter Try.func46, Try.ntmps46
    go_wp2_with fail
    ((with_reducible refine q.mono ?_); rintro e W1 ⟨rfl, b1⟩)
    clear q
    have hz1 := Blk.below HZB.out b1
    have HB1 := Lib.hid (bch HB.out b1); clear b1
    clear c0 c1 c2 c3 c4 c5 c6 c7 c8 c9
    have z0 := Blk.cell hz1 0
    have z1 := Blk.cell hz1 1
    have z2 := Blk.cell hz1 2
    have z3 := Blk.cell hz1 3
    simp only [List.getElem?_toArray, List.getElem?_cons_zero, List.getElem?_cons_succ] at z0 z1 z2 z3
    have f0 := Blk.frozen hz1 0
    have f1 := Blk.frozen hz1 1
    have f2 := Blk.frozen hz1 2
    have f3 := Blk.frozen hz1 3
    have hfin := rp_put hz1 (.int .i64 70) (.int .i64 0) (.string ⟨#[]⟩) (.slice none 0 0)
    have e0 := Blk.cell hfin 0
    have e1 := Blk.cell hfin 1
    have e2 := Blk.cell hfin 2
    have e3 := Blk.cell hfin 3
    simp only [List.getElem?_toArray, List.getElem?_cons_zero, List.getElem?_cons_succ] at e0 e1 e2 e3
    have HBF := Lib.hid (below_four (g := (w.heap.size + 1)) HB1.out (Nat.le_succ _) (.int .i64 70) (.int .i64 0) (.string ⟨#[]⟩) (.slice none 0 0))
    clear hfin
    go_wp2_with fail
    refine bodyPost_ret (v := .tuple #[.slice A n cap, .agg #[(.int .i64 70), (.int .i64 0), (.string ⟨#[]⟩), (.slice none 0 0)]]) (by simp [results, Try.results46, go_sem, e0, e1, e2, e3]) rfl (mtPost_same (r := faultR 70) rfl HBF.out)
  | true =>
    have hpt := (place_yes hpl).1
    clear hpl
    have hpn : p < n := by have := HN.out; omega
    have hp0 : (0 : Int) ≤ (p : Int) := by omega
    have hp1 : (p : Int) < (n : Int) := by omega
    obtain ⟨b, off, hA, _⟩ := HT.out.block (by omega)
    subst hA
    obtain ⟨E, m, c, hx, _, _⟩ := HT.out.at hpt HB.out
    have HE : Hid (getR t p true = ⟨0, (atR t p).rev, (atR t p).value, []⟩) := rfl
    clear hpt
    generalize atR t p = r at *
    obtain ⟨x0, x1, x2, x3, x4, x5⟩ := hx
    obtain ⟨c0, c1, c2, c3, c4, c5, c6, c7, c8, c9⟩ := HWK.out.cells
    go_enter Try.func46, Try.ntmps46
    go_upto_region 4 with fail
    clear x0 x1 x2 x3 x4 x5 c0 c1 c2 c3 c4 c5 c6 c7 c8 c9
    have hb3 : Below W0.heap.size W0 (W0.alloc (.cells #[.string r.key, .string r.value, .int .i64 r.rev, .int .i64 r.life, .string r.note, .slice E m c] 47)) := (Below.refl _ _).alloc (Nat.le_refl _) _
    have hrb := Blk.new W0 (.cells #[.string r.key, .string r.value, .int .i64 r.rev, .int .i64 r.life, .string r.note, .slice E m c] 47)
    obtain ⟨V, hV⟩ : ∃ V, W0.alloc (.cells #[.string r.key, .string r.value, .int .i64 r.rev, .int .i64 r.life, .string r.note, .slice E m c] 47) = V := ⟨_, rfl⟩
    rw [hV] at hb3 hrb ⊢
    clear hV
    have hz1 := Blk.below HZB.out hb3
    have hwk1 := HWK.out.below hb3
    have HB1 := Lib.hid (bch HB.out hb3); clear hb3
    obtain ⟨c0, c1, c2, c3, c4, c5, c6, c7, c8, c9⟩ := hwk1.cells
    have y1 := Blk.cell hrb 1
    have y2 := Blk.cell hrb 2
    simp only [List.getElem?_toArray, List.getElem?_cons_zero, List.getElem?_cons_succ] at y1 y2
    have z0 := Blk.cell hz1 0
    have z1 := Blk.cell hz1 1
    have z2 := Blk.cell hz1 2
    have z3 := Blk.cell hz1 3
    simp only [List.getElem?_toArray, List.getElem?_cons_zero, List.getElem?_cons_succ] at z0 z1 z2 z3
    have f0 := Blk.frozen hz1 0
    have f1 := Blk.frozen hz1 1
    have f2 := Blk.frozen hz1 2
    have f3 := Blk.frozen hz1 3
    have hfin := rp_put hz1 (.int .i64 0) (.int .i64 r.rev) (.string r.value) (.slice none 0 0)
    have e0 := Blk.cell hfin 0
    have e1 := Blk.cell hfin 1
    have e2 := Blk.cell hfin 2
    have e3 := Blk.cell hfin 3
    simp only [List.getElem?_toArray, List.getElem?_cons_zero, List.getElem?_cons_succ] at e0 e1 e2 e3
    have HBF := Lib.hid (below_four (g := (w.heap.size + 1)) HB1.out (Nat.le_succ _) (.int .i64 0) (.int .i64 r.rev) (.string r.value) (.slice none 0 0))
    clear hfin
    go_region
    go_wp2_with fail
    refine bodyPost_ret (v := .tuple #[.slice (some ⟨b, off, none⟩) n cap, .agg #[(.int .i64 0), (.int .i64 r.rev), (.string r.value), (.slice none 0 0)]]) (by simp [results, Try.results46, go_sem, e0, e1, e2, e3]) rfl (by rw [HE.out]; exact mtPost_same (r := ⟨0, r.rev, r.value, []⟩) rfl HBF.out.drew)
end Go.Proofs.Ytpnkkiokkhmjpaa


/-
  The contracts of the program's own write of a table's work, over what its change does (stage 12).
-/
namespace Go.Proofs.Ytpnkkiokkhmjpaa
open Go.RowKit
set_option linter.unusedVariables false
set_option linter.unusedSimpArgs false

/-- What a change does to a record of a row. -/
def ChgPost (W : World) (base : Nat) (v : Value) (row : Option Nat) (l : List (Rcd × Value)) (e : Ending) (W' : World) : Prop :=
  e = .returned (.tuple #[]) ∧ RowT W' base v l ∧ W.grownBy W' row
def ChgT (FN : Nat) (f : Rcd → Rcd) (o : OpR) : Prop := ∀ (gw g n cap i base : Nat) (A2 : Option Addr) (n2 cap2 p : Nat) (th : Bool) (l : List (Rcd × Value)) (W : World),
  WkBlk W gw A2 n2 cap2 o p th → RowT W base (.slice (some ⟨g, 0, none⟩) n cap) l → i < l.length → gw ≠ g →
  Calls Try.prog FN #[.pointer (some ⟨g, i * 6, none⟩), .pointer (some ⟨gw, 0, none⟩)] W (ChgPost W base (.slice (some ⟨g, 0, none⟩) n cap) (some g) (l.set i (f (atP l i).1, (atP l i).2)))
def chgV (o : OpR) (r : Rcd) : Rcd := { r with value := o.value }
def chgM (o : OpR) (r : Rcd) : Rcd := { r with life := o.life, note := o.note }
set_option maxRecDepth 100000 in
set_option maxHeartbeats 8000000 in
theorem put1_any (o : OpR) : ChgT 63 (chgV o) o := by
  intro gw g n cap i base A2 n2 cap2 p th l W hwk hrow hi hne
  have hq1 := (RowT.set hrow i 1 (.string o.value) (chgV o (atP l i).1, (atP l i).2) hi (by omega) rfl).1
  have hg1 := gb_set W g (i * 6 + 1) (.string o.value)
  obtain ⟨x0, x1, x2, x3, x4, x5⟩ := hrow.six hi
  have f1 : W.frozen? ⟨g, i * 6 + 1, none⟩ = false := hrow.frozen
  obtain ⟨c0, c1, c2, c3, c4, c5, c6, c7, c8, c9⟩ := hwk.cells
  have HQ := Lib.hid hq1; clear hq1
  have HG := Lib.hid hg1; clear hg1
  clear hrow hwk
  generalize (atP l i).1 = r at *
  go_enter Try.func63, Try.ntmps63
  go_wp2_with fail
  first | go_ret | go_end0
  exact ⟨rfl, HQ.out, HG.out⟩
theorem grownBy_drewT {w W : World} {row : Option Nat} (h : w.grownBy W row) : w.grownBy W.drew row := ⟨h.os, h.tape, h.output, h.size, h.block⟩
set_option maxRecDepth 100000 in
set_option maxHeartbeats 8000000 in
theorem mark1_any (o : OpR) : ChgT 67 (chgM o) o := by
  intro gw g n cap i base A2 n2 cap2 p th l W hwk hrow hi hne
  have hq1 := (RowT.set hrow i 3 (.int .i64 o.life) ({ (atP l i).1 with life := o.life }, (atP l i).2) hi (by omega) rfl).1
  have hl1 : i < (l.set i ({ (atP l i).1 with life := o.life }, (atP l i).2)).length := by rw [List.length_set]; exact hi
  have hq2 := (RowT.set hq1 i 4 (.string o.note) (chgM o (atP l i).1, (atP l i).2) hl1 (by omega) (by rw [atP_set hi]; rfl)).1
  rw [List.set_set] at hq2
  have hg1 := (gb_set W g (i * 6 + 3) (.int .i64 o.life)).trans (gb_set _ g (i * 6 + 4) (.string o.note))
  obtain ⟨x0, x1, x2, x3, x4, x5⟩ := hrow.six hi
  have hy := hq1.six hl1
  rw [atP_set hi] at hy
  obtain ⟨_, _, _, _, y4, _⟩ := hy
  simp only at y4
  have f3 : W.frozen? ⟨g, i * 6 + 3, none⟩ = false := hrow.frozen
  have f4 : (W.setCell ⟨g, i * 6 + 3, none⟩ (.int .i64 o.life)).frozen? ⟨g, i * 6 + 4, none⟩ = false := hq1.frozen
  have hs : W.drew.cell? ⟨gw, 6, none⟩ = some (.int .i64 o.life) ∧ W.drew.cell? ⟨gw, 7, none⟩ = some (.string o.note) := ⟨hwk.cells.2.2.2.2.2.2.1, hwk.cells.2.2.2.2.2.2.2.1⟩
  have HKEEP : Hid (∀ (V : World) (j : Nat) (u : Value), (V.cell? ⟨gw, 6, none⟩ = some (.int .i64 o.life) ∧ V.cell? ⟨gw, 7, none⟩ = some (.string o.note)) → ((V.setCell ⟨g, j, none⟩ u).cell? ⟨gw, 6, none⟩ = some (.int .i64 o.life) ∧ (V.setCell ⟨g, j, none⟩ u).cell? ⟨gw, 7, none⟩ = some (.string o.note))) := fun V j u h =>
    ⟨(World.cell?_setCell_other _ _ _ _ (by intro e; cases e; exact hne rfl)).trans h.1, (World.cell?_setCell_other _ _ _ _ (by intro e; cases e; exact hne rfl)).trans h.2⟩
  have HQ : Hid (RowT (((W.setCell ⟨g, i * 6 + 3, none⟩ (.int .i64 o.life)).setCell ⟨g, i * 6 + 4, none⟩ (.string o.note))) base (.slice (some ⟨g, 0, none⟩) n cap) (l.set i (chgM o (atP l i).1, (atP l i).2))) := hq2; clear hq2
  have HG := Lib.hid hg1; clear hg1
  have HS := Lib.hid hs; clear hs
  clear hrow hwk hq1 hl1
  generalize (atP l i).1 = r at *
  go_enter Try.func67, Try.ntmps67
  go_upto_region 0 with fail
  refine wp_region_noPanic ?_
  refine wp_region_held_drew (S := (fun W => W.cell? ⟨gw, 6, none⟩ = some (.int .i64 o.life) ∧ W.cell? ⟨gw, 7, none⟩ = some (.string o.note))) (by kernel_rfl) (HS.out) (fun hHeld => ?_)
  refine wpAnyH_take (i := 0) (v := ?_) rfl (by kernel_rfl) (by kernel_rfl) (by kernel_rfl) (fun _ _ _ h => h) (Or.inl ⟨by rfl, ?_⟩) (by assumption) ?_
  rotate_left
  · (intro w hSw; (try dsimp only at hSw); go_simp; (try with_reducible rfl))
  simp only [Act.put, List.getElem_toArray, List.getElem_cons_zero, List.setIfInBounds_toArray, List.set_cons_zero, List.set_cons_succ]
  refine wpAnyH_take (i := 1) (v := ?_) rfl (by kernel_rfl) (by kernel_rfl) (by kernel_rfl) (fun _ _ _ h => h) (Or.inl ⟨by rfl, ?_⟩) (by assumption) ?_
  rotate_left
  · (intro w hSw; (try dsimp only at hSw); go_simp; (try with_reducible rfl))
  simp only [Act.put, List.getElem_toArray, List.getElem_cons_zero, List.getElem_cons_succ, List.setIfInBounds_toArray, List.set_cons_zero, List.set_cons_succ]
  refine wpAnyH_take (i := 2) (v := ?_) rfl (by kernel_rfl) (by kernel_rfl) (by kernel_rfl) (fun _ _ _ h => h) (Or.inl ⟨by rfl, ?_⟩) (by assumption) ?_
  rotate_left
  · (intro w hSw; (try dsimp only at hSw); go_simp; (try with_reducible rfl))
  simp only [Act.put, List.getElem_toArray, List.getElem_cons_zero, List.getElem_cons_succ, List.setIfInBounds_toArray, List.set_cons_zero, List.set_cons_succ]
  refine wpAnyH_take (i := 3) (v := ?_) rfl (by kernel_rfl) (by kernel_rfl) (by kernel_rfl) (fun _ _ _ h => h) (Or.inl ⟨by rfl, ?_⟩) (by assumption) ?_
  rotate_left
  · (intro w hSw; (try dsimp only at hSw); go_simp; (try with_reducible rfl))
  simp only [Act.put, List.getElem_toArray, List.getElem_cons_zero, List.getElem_cons_succ, List.setIfInBounds_toArray, List.set_cons_zero, List.set_cons_succ]
  refine wpAnyH_take (i := 4) (v := ?_) rfl (by kernel_rfl) (by kernel_rfl) (by kernel_rfl) (fun _ _ _ h => h) (Or.inl ⟨by rfl, ?_⟩) (by assumption) ?_
  rotate_left
  · (intro w hSw; (try dsimp only at hSw); obtain ⟨s6, s7⟩ := hSw; go_simp; (try with_reducible rfl))
  simp only [Act.put, List.getElem_toArray, List.getElem_cons_zero, List.getElem_cons_succ, List.setIfInBounds_toArray, List.set_cons_zero, List.set_cons_succ]
  refine wpAnyH_take (i := 5) (v := ?_) rfl (by kernel_rfl) (by kernel_rfl) (by kernel_rfl) (fun _ _ _ h => h) (Or.inl ⟨by rfl, ?_⟩) (by assumption) ?_
  rotate_left
  · (intro w hSw; (try dsimp only at hSw); go_simp; (try with_reducible rfl))
  simp only [Act.put, List.getElem_toArray, List.getElem_cons_zero, List.getElem_cons_succ, List.setIfInBounds_toArray, List.set_cons_zero, List.set_cons_succ]
  refine wpAnyH_take (i := 6) (v := ?_) rfl (by kernel_rfl) (by kernel_rfl) (by kernel_rfl) (fun _ _ _ h => h) (Or.inl ⟨by rfl, ?_⟩) (by assumption) ?_
  rotate_left
  · (intro w hSw; (try dsimp only at hSw); go_simp; (try with_reducible rfl))
  simp only [Act.put, List.getElem_toArray, List.getElem_cons_zero, List.getElem_cons_succ, List.setIfInBounds_toArray, List.set_cons_zero, List.set_cons_succ]
  refine wpAnyH_take (i := 7) (v := ?_) rfl (by kernel_rfl) (by kernel_rfl) (by kernel_rfl) (fun _ _ _ h => h) (Or.inl ⟨by rfl, ?_⟩) (by assumption) ?_
  rotate_left
  · (intro w hSw; (try dsimp only at hSw); obtain ⟨s6, s7⟩ := hSw; go_simp; (try with_reducible rfl))
  simp only [Act.put, List.getElem_toArray, List.getElem_cons_zero, List.getElem_cons_succ, List.setIfInBounds_toArray, List.set_cons_zero, List.set_cons_succ]
  refine wpAnyH_take (i := 8) (v := ?_) rfl (by kernel_rfl) (by kernel_rfl) (by kernel_rfl) (fun _ _ _ h => h) (Or.inl ⟨by rfl, ?_⟩) (by assumption) ?_
  rotate_left
  · (intro w hSw; (try dsimp only at hSw); go_simp; (try with_reducible rfl))
  simp only [Act.put, List.getElem_toArray, List.getElem_cons_zero, List.getElem_cons_succ, List.setIfInBounds_toArray, List.set_cons_zero, List.set_cons_succ]
  refine wpAnyH_take (i := 9) (v := ?_) rfl (by kernel_rfl) (by kernel_rfl) (by kernel_rfl) (fun _ _ _ h => h) (Or.inl ⟨by rfl, ?_⟩) (by assumption) ?_
  rotate_left
  · (intro w hSw; (try dsimp only at hSw); go_simp; (try with_reducible rfl))
  simp only [Act.put, List.getElem_toArray, List.getElem_cons_zero, List.getElem_cons_succ, List.setIfInBounds_toArray, List.set_cons_zero, List.set_cons_succ]
  refine wpAnyH_ready (rs := [10]) (by kernel_rfl) (by simp) ?_
  refine AllReadyH.cons rfl (fun K hK => ?_) AllReadyH.nil
  rw [if_pos (by rfl)]
  go_simp
  refine hK.out _ _ (HKEEP.out _ _ _ hHeld) (fun hHeld2 => ?_)
  clear hK K hHeld
  have hHeld := hHeld2; clear hHeld2
  refine wpAnyH_take (i := 11) (v := ?_) rfl (by kernel_rfl) (by kernel_rfl) (by kernel_rfl) (fun _ _ _ h => h) (Or.inl ⟨by rfl, ?_⟩) (by assumption) ?_
  rotate_left
  · (intro w hSw; (try dsimp only at hSw); go_simp; (try with_reducible rfl))
  simp only [Act.put, List.getElem_toArray, List.getElem_cons_zero, List.getElem_cons_succ, List.setIfInBounds_toArray, List.set_cons_zero, List.set_cons_succ]
  refine wpAnyH_take (i := 12) (v := ?_) rfl (by kernel_rfl) (by kernel_rfl) (by kernel_rfl) (fun _ _ _ h => h) (Or.inl ⟨by rfl, ?_⟩) (by assumption) ?_
  rotate_left
  · (intro w hSw; (try dsimp only at hSw); go_simp; (try with_reducible rfl))
  simp only [Act.put, List.getElem_toArray, List.getElem_cons_zero, List.getElem_cons_succ, List.setIfInBounds_toArray, List.set_cons_zero, List.set_cons_succ]
  refine wpAnyH_ready (rs := [13]) (by kernel_rfl) (by simp) ?_
  refine AllReadyH.cons rfl (fun K hK => ?_) AllReadyH.nil
  rw [if_pos (by rfl)]
  go_simp
  refine hK.out _ _ (HKEEP.out _ _ _ hHeld) (fun hHeld2 => ?_)
  clear hK K hHeld
  have hHeld := hHeld2; clear hHeld2
  refine wpAnyH_done (by kernel_rfl) ?_ _
  refine NoPanic.normal ?_
  go_wp2_with fail
  first | go_ret | go_end0
  exact ⟨rfl, HQ.out.drew, grownBy_drewT HG.out⟩
end Go.Proofs.Ytpnkkiokkhmjpaa


/-
  The contracts of the program's own write of a table's work, put and mark (stage 12).
-/
namespace Go.Proofs.Ytpnkkiokkhmjpaa
open Go.RowKit
set_option linter.unusedVariables false
set_option linter.unusedSimpArgs false

/-- A record with its Rev one more. -/
def upR1 (r : Rcd) : Rcd := { r with rev := r.rev + 1 }
def keyR0 (o : OpR) : Rcd := ⟨o.key, ⟨#[]⟩, 0, 0, ⟨#[]⟩, []⟩
/-- What write does. -/
def wrU (f : Rcd → Rcd) (t : List Rcd) (o : OpR) (p : Nat) (th : Bool) : List Rcd × RepR :=
  if fullW t p th then (t, faultR 50)
  else if th then (t.set p (upR1 (f (atR t p))), ⟨0, (atR t p).rev + 1, ⟨#[]⟩, []⟩)
  else (t.take p ++ upR1 (f (keyR0 o)) :: t.drop p, ⟨0, 1, ⟨#[]⟩, []⟩)
theorem mtPost_row {w W : World} {base n cap n0 cap0 : Nat} {A A0 : Option Addr} {l : List (Rcd × Value)} {t u : List Rcd} {r : RepR} (hr : RowT W base (.slice A n cap) l) (hbs : w.heap.size ≤ base) (hx : ExT W l) (hm : l.map Prod.fst = u) (hk : r.keys = []) (hb : Below w.heap.size w W) :
    MtPost w A0 n0 cap0 t u r (.returned (.tuple #[.slice A n cap, rpV r (.slice none 0 0)])) W :=
  ⟨_, _, rfl, ⟨.inr ⟨l, hr.base hbs, hx, hm⟩, by rw [hk]; exact rowK_nil _ _⟩, hb⟩
theorem set_ins {α : Type} (a b : List α) (x y : α) : (a ++ x :: b).set a.length y = a ++ y :: b := by simp
theorem RowT.apart {W : World} {base g n cap : Nat} {A : Option Addr} {l : List (Rcd × Value)} (h : RowT W base (.slice A n cap) l) (hg : g < base) : some g ≠ (Value.slice A n cap).ownBlock := fun e => by
  have := (h.lt g e.symm).1; omega
set_option maxRecDepth 100000 in
set_option maxHeartbeats 8000000 in
theorem write_any (FN : Nat) (f : Rcd → Rcd) (t : List Rcd) (A : Option Addr) (n cap : Nat) (o : OpR) (p : Nat) (th : Bool) (gx : Nat) (w : World) (h : WkOk w A n cap t o p th)
    (cf : ∀ (args : Array Value) (W : World), (callFunc FN args).run Try.prog W = .ok (.enter FN args) W) (hch : ChgT FN f o) (hf : ∀ r, (f r).rev = r.rev) (hfe : ∀ r, (f r).extra = r.extra) (hfw : ∀ r, RcW r → 0 ≤ r.rev ∧ r.rev < 9007199254740992 → RcW (upR1 (f r)))
    (hgx : WkBlk w gx A n cap o p th) :
    Calls Try.prog 62 #[wkV A n cap o p th, .func (.func FN) #[] #[.pointer (some ⟨gx, 0, none⟩)]] w (MtPost w A n cap t (wrU f t o p th).1 (wrU f t o p th).2) := by
  obtain ⟨hc, ht, hr, ho, hpl⟩ := h
  have HN : Hid (n = t.length) := ht.1
  have HT := Lib.hid ht; clear ht
  have HC := Lib.hid hc; clear hc
  have HR := Lib.hid hr; clear hr
  have HO := Lib.hid ho; clear ho
  have HFW := Lib.hid hfw; clear hfw
  have HPT : Hid (th = true → p < t.length) := fun e => by subst e; exact (place_yes hpl).1
  have HP0 : Hid (p ≤ t.length) := hpl.1
  clear hpl
  have HGL : Hid (gx < w.heap.size) := Blk.lt hgx
  have HGX0 : Hid (WkBlk w gx A n cap o p th) := hgx; clear hgx
  have hb1 : Below w.heap.size w (w.alloc (.cells #[.slice A n cap, .int .i64 o.kind, .string o.key, .string o.value, .int .i64 o.rev, .string o.upto, .int .i64 o.life, .string o.note, .int .i64 p, .bool th] 62)) := (Below.refl _ _).alloc (Nat.le_refl _) _
  have hb2 : Below w.heap.size w ((w.alloc (.cells #[.slice A n cap, .int .i64 o.kind, .string o.key, .string o.value, .int .i64 o.rev, .string o.upto, .int .i64 o.life, .string o.note, .int .i64 p, .bool th] 62)).alloc (.cells #[.int .i64 0, .int .i64 0, .string ⟨#[]⟩, .slice none 0 0] 37)) := hb1.alloc (by simp) _
  have hwk : WkBlk ((w.alloc (.cells #[.slice A n cap, .int .i64 o.kind, .string o.key, .string o.value, .int .i64 o.rev, .string o.upto, .int .i64 o.life, .string o.note, .int .i64 p, .bool th] 62)).alloc (.cells #[.int .i64 0, .int .i64 0, .string ⟨#[]⟩, .slice none 0 0] 37)) w.heap.size A n cap o p th := (WkBlk.new w A n cap o p th).below ((Below.refl _ _).alloc (Nat.le_refl _) _)
  have hzb : Blk ((w.alloc (.cells #[.slice A n cap, .int .i64 o.kind, .string o.key, .string o.value, .int .i64 o.rev, .string o.upto, .int .i64 o.life, .string o.note, .int .i64 p, .bool th] 62)).alloc (.cells #[.int .i64 0, .int .i64 0, .string ⟨#[]⟩, .slice none 0 0] 37)) (w.heap.size + 1) (.cells #[.int .i64 0, .int .i64 0, .string ⟨#[]⟩, .slice none 0 0] 37 (0, 0)) := by have h := Blk.new (w.alloc (.cells #[.slice A n cap, .int .i64 o.kind, .string o.key, .string o.value, .int .i64 o.rev, .string o.upto, .int .i64 o.life, .string o.note, .int .i64 p, .bool th] 62)) (.cells #[.int .i64 0, .int .i64 0, .string ⟨#[]⟩, .slice none 0 0] 37); rw [World.size_alloc] at h; exact h
  obtain ⟨W0, hW0⟩ : ∃ W, (w.alloc (.cells #[.slice A n cap, .int .i64 o.kind, .string o.key, .string o.value, .int .i64 o.rev, .string o.upto, .int .i64 o.life, .string o.note, .int .i64 p, .bool th] 62)).alloc (.cells #[.int .i64 0, .int .i64 0, .string ⟨#[]⟩, .slice none 0 0] 37) = W := ⟨_, rfl⟩
  rw [hW0] at hb2 hwk hzb
  clear hb1
  have HWK : Hid (WkBlk W0 w.heap.size A n cap o p th) := hwk; clear hwk
  have HZB := Lib.hid hzb; clear hzb
  have HB := Lib.hid hb2; clear hb2
  have HS1 : Hid (w.heap.size + 1 < W0.heap.size) := Blk.lt HZB.out
  unfold wkV
  have q := full_any t A n cap o p th W0 (HT.out.below HB.out) HPT.out
  unfold wkV at q
  obtain ⟨c0, c1, c2, c3, c4, c5, c6, c7, c8, c9⟩ := HWK.out.cells
  cases hfu : fullW t p th with
  | true =>
    have HE : Hid (wrU f t o p th = (t, faultR 50)) := if_pos hfu
    rw [hfu] at q
    clear hfu hch hf hfe cf
    go_enter Try.func62, Try.ntmps62
    go_wp2_with fail
    ((with_reducible refine q.mono ?_); rintro e W1 ⟨rfl, b1⟩)
    clear q
    have hz1 := Blk.below HZB.out b1
    have hwk1 := HWK.out.below b1
    have HB1 := Lib.hid (bch HB.out b1); clear b1
    clear c0 c1 c2 c3 c4 c5 c6 c7 c8 c9
    obtain ⟨c0, c1, c2, c3, c4, c5, c6, c7, c8, c9⟩ := hwk1.cells
    have q := refuseEq_any t A n cap o p th 50 50 rfl W1 HC.out (HT.out.below HB1.out)
    unfold wkV at q
    go_wp2_with fail
    ((with_reducible refine q.mono ?_); rintro e W2 ⟨rfl, b2⟩)
    clear q
    have hz2 := Blk.below hz1 b2
    have HB2 := Lib.hid (bch HB1.out b2); clear b2 hz1 hwk1
    clear c0 c1 c2 c3 c4 c5 c6 c7 c8 c9
    have z0 := Blk.cell hz2 0
    have z1 := Blk.cell hz2 1
    have z2 := Blk.cell hz2 2
    have z3 := Blk.cell hz2 3
    simp only [List.getElem?_toArray, List.getElem?_cons_zero, List.getElem?_cons_succ] at z0 z1 z2 z3
    have f0 := Blk.frozen hz2 0
    have f1 := Blk.frozen hz2 1
    have f2 := Blk.frozen hz2 2
    have f3 := Blk.frozen hz2 3
    have hfin := rp_put hz2 (.int .i64 50) (.int .i64 0) (.string ⟨#[]⟩) (.slice none 0 0)
    have e0 := Blk.cell hfin 0
    have e1 := Blk.cell hfin 1
    have e2 := Blk.cell hfin 2
    have e3 := Blk.cell hfin 3
    simp only [List.getElem?_toArray, List.getElem?_cons_zero, List.getElem?_cons_succ] at e0 e1 e2 e3
    have HBF := Lib.hid (below_four (g := (w.heap.size + 1)) HB2.out (Nat.le_succ _) (.int .i64 50) (.int .i64 0) (.string ⟨#[]⟩) (.slice none 0 0))
    clear hfin
    go_wp2_with fail
    refine bodyPost_ret (v := .tuple #[.slice A n cap, .agg #[(.int .i64 50), (.int .i64 0), (.string ⟨#[]⟩), (.slice none 0 0)]]) (by simp [results, Try.results62, go_sem, e0, e1, e2, e3]) rfl (by rw [HE.out]; exact mtPost_same (r := faultR 50) rfl HBF.out)
  | false =>
    rw [hfu] at q
    go_enter Try.func62, Try.ntmps62
    go_wp2_with fail
    ((with_reducible refine q.mono ?_); rintro e W1 ⟨rfl, b1⟩)
    clear q
    have hz1 := Blk.below HZB.out b1
    have hwk1 := HWK.out.below b1
    have HB1 := Lib.hid (bch HB.out b1)
    have HS0 : Hid (W0.heap.size ≤ W1.heap.size) := b1.size
    clear b1
    clear c0 c1 c2 c3 c4 c5 c6 c7 c8 c9
    obtain ⟨c0, c1, c2, c3, c4, c5, c6, c7, c8, c9⟩ := hwk1.cells
    have q := copied_any t A n cap W1 (HT.out.below HB1.out) (by have := HN.out; have := HR.out.2.2; omega)
    go_wp2_with fail
    ((with_reducible refine q.mono ?_); rintro e W2 ⟨v2, l, rfl, hrow2, hmap2, hex2, b2⟩)
    clear q
    have hz2 := Blk.below hz1 b2
    have hwk2 := hwk1.below b2
    have HB2 := Lib.hid (bch HB1.out b2)
    have HS2 : Hid (W1.heap.size ≤ W2.heap.size) := b2.size
    clear b2 hz1 hwk1
    clear c0 c1 c2 c3 c4 c5 c6 c7 c8 c9
    obtain ⟨A2, cap2, hv2, hcp2, hps2⟩ := hrow2.parts
    have HLL : Hid (l.length = n) := by have := congrArg List.length hmap2; rw [List.length_map] at this; show _ = _; have := HN.out; omega
    rw [HLL.out] at hv2 hcp2
    subst hv2
    have HS1' : Hid (w.heap.size + 1 < W1.heap.size) := by have := HS1.out; have := HS0.out; show _ < _; omega
    clear HS1
    have HS1 := HS1'
    clear HS1' hps2
    have HMAP2 := Lib.hid hmap2; clear hmap2
    cases th with
    | true =>
      have HPL : Hid (p < l.length) := by have := HPT.out rfl; have := HN.out; have := HLL.out; show _ < _; omega
      have HN2 : Hid (n = l.length) := HLL.out.symm
      have HRT := Lib.hid hrow2; clear hrow2
      have HEX := Lib.hid hex2; clear hex2
      have HWV : Hid (WkBlk W2 w.heap.size A n cap o p true) := hwk2; clear hwk2
      have HZV := Lib.hid hz2; clear hz2
      have HBV := HB2
      have HGX : Hid (WkBlk W2 gx A n cap o p true) := HGX0.out.below HB2.out
      have hr0e : (atP l p).1 = atR t p := by rw [atP_map l HPL.out, HMAP2.out]
      obtain ⟨r0, hr0⟩ : ∃ r0, atR t p = r0 := ⟨_, rfl⟩
      have HAT : Hid ((atP l p).1 = r0) := hr0e.trans hr0
      have HRV : Hid (0 ≤ r0.rev ∧ r0.rev < 9007199254740992) := by
        have h1 := rev_bounds (HR.out.1 _ (atR_mem (HPT.out rfl)))
        rw [hr0] at h1
        have h2 : (r0.rev == maxN) = false := by rw [← hr0]; exact hfu
        rw [beq_eq_false_iff_ne] at h2
        unfold maxN at h2
        exact ⟨h1.1, by omega⟩
      have HE : Hid (wrU f t o p true = ((l.map Prod.fst).set p (upR1 (f r0)), ⟨0, r0.rev + 1, ⟨#[]⟩, []⟩)) := by
        show _ = _
        unfold wrU
        rw [hfu, HMAP2.out, hr0]; rfl
      clear hfu hr0 hr0e
      obtain ⟨g, hA2, hbg⟩ := HRT.out.at0 HPL.out
      subst hA2
      have hpn : p < n := by have := HN2.out; have := HPL.out; omega
      have hp0 : (0 : Int) ≤ (p : Int) := by omega
      have hp1 : (p : Int) < (n : Int) := by omega
      have hgx : gx ≠ g := by have := HGL.out; have := HS1.out; omega
      have q := hch gx g n cap2 p _ A n cap p true l W2 HGX.out HRT.out HPL.out hgx
      obtain ⟨c0, c1, c2, c3, c4, c5, c6, c7, c8, c9⟩ := HWV.out.cells
      clear HS0
      go_upto_region 7 with fail
      clear c0 c1 c2 c3 c4 c5 c6 c7 c8 c9
      go_wp2_with fail
      ((with_reducible refine q.mono ?_); rintro e V5 ⟨rfl, hr5, hg5⟩)
      clear q
      have hbr := HRT.out.block
      have hx5 := HEX.out.kept hg5 (fun k e => by cases e; exact hbr g (by simp [Value.ownBlock]))
      have hz5 := Blk.kept HZV.out hg5 (HRT.out.apart (g := w.heap.size + 1) (by have := HS1.out; omega))
      have hb5 : Below w.heap.size w V5 := HBV.out.grown hg5 HBV.out.size (fun k e => by cases e; have := HS1.out; omega)
      have HLL : Hid (p < (l.set p (f (atP l p).1, (atP l p).2)).length) := by show _ < _; rw [List.length_set]; exact HPL.out
      have hs5 := hr5.six HLL.out
      rw [atP_set HPL.out] at hs5
      have hr6 := (RowT.set hr5 p 2 (.int .i64 ((f (atP l p).1).rev + 1)) (upR1 (f (atP l p).1), (atP l p).2) HLL.out (by omega) (by rw [atP_set HPL.out]; rfl)).1
      rw [List.set_set] at hr6
      have HL2 : Hid (p < (l.set p (upR1 (f (atP l p).1), (atP l p).2)).length) := by show _ < _; rw [List.length_set]; exact HPL.out
      have hs6 := hr6.six HL2.out
      rw [atP_set HPL.out] at hs6
      have hbr5 := hr5.block
      have hx6 := hx5.kept (gb_set V5 g (p * 6 + 2) (.int .i64 ((f (atP l p).1).rev + 1))) (fun k e => by cases e; exact hbr5 g (by simp [Value.ownBlock]))
      have hx7 := exT_set hx6 HPL.out (r := upR1 (f (atP l p).1)) (HFW.out _ (HEX.out _ (atP_mem HPL.out)).1 (by rw [HAT.out]; exact HRV.out)) (hfe _)
      have hz6 := Blk.far hz5 (show w.heap.size + 1 ≠ g by have := HS1.out; omega) (p * 6 + 2) (.int .i64 ((f (atP l p).1).rev + 1))
      have hb6 := hb5.setCell (p := ⟨g, p * 6 + 2, none⟩) (show w.heap.size ≤ g by have := HS1.out; omega) (.int .i64 ((f (atP l p).1).rev + 1))
      have f5 : V5.frozen? ⟨g, p * 6 + 2, none⟩ = false := hr5.frozen
      have HMF : Hid ((l.set p (upR1 (f (atP l p).1), (atP l p).2)).map Prod.fst = (l.map Prod.fst).set p (upR1 (f r0))) := by show _ = _; rw [map_setP, HAT.out]
      obtain ⟨L6, hL6⟩ : ∃ L6, l.set p (upR1 (f (atP l p).1), (atP l p).2) = L6 := ⟨_, rfl⟩
      rw [hL6] at hr6 hx7 HMF
      obtain ⟨_, _, y2, _, _, _⟩ := hs5
      obtain ⟨_, _, u2, _, _, _⟩ := hs6
      have hfr := hf (atP l p).1
      rw [HAT.out] at hfr
      rw [HAT.out, hfr] at y2 hr6 hx7 hz6 hb6
      have hu2 : (upR1 (f (atP l p).1)).rev = r0.rev + 1 := by rw [HAT.out]; show (f r0).rev + 1 = _; rw [hfr]
      rw [hu2, HAT.out, hfr] at u2
      have hrv := HRV.out
      have hwr : IntKind.i64.wrap (r0.rev + 1) = r0.rev + 1 := IntWalk.i64_in _ (by omega)
      have HR6 := Lib.hid hr6; clear hr6
      have HX7 := Lib.hid hx7; clear hx7
      have HZ6 := Lib.hid hz6; clear hz6
      have HB6 := Lib.hid hb6; clear hb6
      clear hL6 hx5 hz5 hb5 hr5 hx6 hbr hbr5 hg5 hfr hu2 hrv HLL HL2
      go_upto_region 9 with fail
      obtain ⟨V6, hV6⟩ : ∃ V, V5.setCell ⟨g, p * 6 + 2, none⟩ (.int .i64 (r0.rev + 1)) = V := ⟨_, rfl⟩
      rw [hV6] at u2 HR6 HX7 HZ6 HB6 ⊢
      clear hV6 y2 f5
      have HNE : Hid (some (w.heap.size + 1) ≠ (Value.slice (some ⟨g, 0, none⟩) n cap2).ownBlock) := HR6.out.apart (by have := HS1.out; omega)
      have z0 := Blk.cell HZ6.out 0
      have z1 := Blk.cell HZ6.out 1
      have z2 := Blk.cell HZ6.out 2
      have z3 := Blk.cell HZ6.out 3
      simp only [List.getElem?_toArray, List.getElem?_cons_zero, List.getElem?_cons_succ] at z0 z1 z2 z3
      have f0 := Blk.frozen HZ6.out 0
      have f1 := Blk.frozen HZ6.out 1
      have f2 := Blk.frozen HZ6.out 2
      have f3 := Blk.frozen HZ6.out 3
      have hfin := rp_put HZ6.out (.int .i64 0) (.int .i64 (r0.rev + 1)) (.string ⟨#[]⟩) (.slice none 0 0)
      have e0 := Blk.cell hfin 0
      have e1 := Blk.cell hfin 1
      have e2 := Blk.cell hfin 2
      have e3 := Blk.cell hfin 3
      simp only [List.getElem?_toArray, List.getElem?_cons_zero, List.getElem?_cons_succ] at e0 e1 e2 e3
      have HBF := Lib.hid (below_four (g := (w.heap.size + 1)) HB6.out (Nat.le_succ _) (.int .i64 0) (.int .i64 (r0.rev + 1)) (.string ⟨#[]⟩) (.slice none 0 0))
      have HRF := Lib.hid (rowT_four HR6.out HNE.out (.int .i64 0) (.int .i64 (r0.rev + 1)) (.string ⟨#[]⟩) (.slice none 0 0))
      have HXF := Lib.hid (exT_four HX7.out HZ6.out (by decide) (.int .i64 0) (.int .i64 (r0.rev + 1)) (.string ⟨#[]⟩) (.slice none 0 0))
      clear hfin
      go_region
      go_wp2_with fail
      refine bodyPost_ret (v := .tuple #[.slice (some ⟨g, 0, none⟩) n cap2, .agg #[(.int .i64 0), (.int .i64 (r0.rev + 1)), (.string ⟨#[]⟩), (.slice none 0 0)]]) (by simp [results, Try.results62, go_sem, e0, e1, e2, e3]) rfl (by rw [HE.out]; exact mtPost_row (r := ⟨0, r0.rev + 1, ⟨#[]⟩, []⟩) HRF.out.drew (by have := HS1.out; omega) HXF.out.drew HMF.out rfl HBF.out.drew)
    | false =>
      have hpl2 : p ≤ l.length := by have := HP0.out; have := HN.out; have := HLL.out; omega
      have HPP := Lib.hid hpl2
      have hb3 : Below W2.heap.size W2 (W2.alloc (.cells #[.string o.key, .string ⟨#[]⟩, .int .i64 0, .int .i64 0, .string ⟨#[]⟩, .slice none 0 0] 47)) := (Below.refl _ _).alloc (Nat.le_refl _) _
      have hvb := Blk.new W2 (.cells #[.string o.key, .string ⟨#[]⟩, .int .i64 0, .int .i64 0, .string ⟨#[]⟩, .slice none 0 0] 47)
      obtain ⟨W3, hW3⟩ : ∃ W, W2.alloc (.cells #[.string o.key, .string ⟨#[]⟩, .int .i64 0, .int .i64 0, .string ⟨#[]⟩, .slice none 0 0] 47) = W := ⟨_, rfl⟩
      rw [hW3] at hb3 hvb
      have hrow3 := hrow2.below hb3
      have hex3 := hex2.below hb3
      have q := insert12_any l (keyR0 o, .slice none 0 0) A2 n cap2 p W1.heap.size W2.heap.size W3 hrow3 HLL.out.symm (by rw [← HLL.out]; exact HPP.out) (by have := HN.out; have := HR.out.2.2; omega) (Nat.le_trans HS2.out hb3.size) hvb ⟨none, 0, 0, rfl⟩ (fun e => by have := (hrow2.lt _ e).2; omega) hex3.sl
      have HWV2 : Hid (WkBlk W2 w.heap.size A n cap o p false) := hwk2; clear hwk2
      have HZ2 := Lib.hid hz2; clear hz2
      have HX3 := Lib.hid hex3; clear hex3 hex2
      have HR3 := Lib.hid hrow3; clear hrow3
      have HB3 := Lib.hid hb3; clear hb3 hrow2 hvb
      have hcap2 : p ≤ n := by rw [← HLL.out]; exact HPP.out
      obtain ⟨c0, c1, c2, c3, c4, c5, c6, c7, c8, c9⟩ := HWV2.out.cells
      go_wp2_with fail
      ((with_reducible refine q.mono ?_); rintro e V ⟨v3, rfl, hrow4, hgr4⟩)
      clear q hW3 c0 c1 c2 c3 c4 c5 c6 c7 c8 c9
      have hmk : (l.take p ++ (keyR0 o, Value.slice none 0 0) :: l.drop p).map Prod.fst = t.take p ++ keyR0 o :: t.drop p := by rw [List.map_append, List.map_cons, List.map_take, List.map_drop, HMAP2.out]
      have hll : (l.take p ++ (keyR0 o, Value.slice none 0 0) :: l.drop p).length = n + 1 := by rw [ins_len6 HPP.out, HLL.out]
      have hap : atP (l.take p ++ (keyR0 o, Value.slice none 0 0) :: l.drop p) p = (keyR0 o, .slice none 0 0) := by
        have hlt : (l.take p).length = p := by rw [List.length_take]; have := HPP.out; omega
        rw [atP_get (by rw [hll]; omega)]
        rw [List.getElem_append_right (by omega)]
        simp [hlt]
      have hex4 : ExT V (l.take p ++ (keyR0 o, Value.slice none 0 0) :: l.drop p) := fun x hx => by
        have hk := HX3.out.kept hgr4 HR3.out.block
        rcases List.mem_append.1 hx with h1 | h1
        · exact hk x (List.mem_of_mem_take h1)
        · rcases List.mem_cons.1 h1 with rfl | h1
          · exact ⟨⟨⟨HO.out.2.1, by show (⟨#[]⟩ : ByteArray).size ≤ _; decide, by show (⟨#[]⟩ : ByteArray).size ≤ _; decide⟩, by show (Lit.int .i64 0).wf = true; decide, by show (Lit.int .i64 0).wf = true; decide, by show 0 * 24 ≤ _; omega⟩, none, 0, 0, rfl, Nat.le_refl _, isFs_nil _ _, fun h => by omega⟩
          · exact hk x (List.mem_of_mem_drop h1)
      obtain ⟨A3, cap3, hv3, hcp3, _⟩ := hrow4.parts
      rw [hll] at hv3
      subst hv3
      obtain ⟨L, hL⟩ : ∃ L, l.take p ++ (keyR0 o, Value.slice none 0 0) :: l.drop p = L := ⟨_, rfl⟩
      rw [hL] at hrow4 hmk hll hap hex4
      clear hL hcp3
      have HPL : Hid (p < L.length) := by have := HPP.out; have := HLL.out; show _ < _; omega
      have HN2 : Hid (n + 1 = L.length) := hll.symm
      have HRT := Lib.hid hrow4; clear hrow4
      have HEX := Lib.hid hex4; clear hex4
      have hap2 : ∀ j, j < W1.heap.size → some j ≠ (Value.slice A2 n cap2).ownBlock := fun j hj => HR3.out.apart hj
      have HWV : Hid (WkBlk V w.heap.size A n cap o p false) := Blk.kept (Blk.below HWV2.out HB3.out) hgr4 (hap2 _ (by have := HS1.out; omega))
      have HZV := Lib.hid (Blk.kept (Blk.below HZ2.out HB3.out) hgr4 (hap2 _ HS1.out))
      have hltr := HR3.out.lt
      have HBV : Hid (Below w.heap.size w V) := (bch HB2.out HB3.out).grown hgr4 (bch HB2.out HB3.out).size (fun k hk => by have := (hltr k hk).1; have := HS1.out; omega)
      have HGX : Hid (WkBlk V gx A n cap o p false) := HGX0.out.below HBV.out
      obtain ⟨r0, hr0⟩ : ∃ r0, keyR0 o = r0 := ⟨_, rfl⟩
      have HAT : Hid ((atP L p).1 = r0) := by show _ = _; rw [hap]; exact hr0
      have hz0 : r0.rev = 0 := by rw [← hr0]; rfl
      have HRV : Hid (0 ≤ r0.rev ∧ r0.rev < 9007199254740992) := by show _ ∧ _; rw [hz0]; decide
      have HE : Hid (wrU f t o p false = ((L.map Prod.fst).set p (upR1 (f r0)), ⟨0, r0.rev + 1, ⟨#[]⟩, []⟩)) := by
        show _ = _
        have hlt : (t.take p).length = p := by rw [List.length_take]; have := HP0.out; omega
        have hs := set_ins (t.take p) (t.drop p) (keyR0 o) (upR1 (f (keyR0 o)))
        rw [hlt] at hs
        unfold wrU
        rw [hfu, hmk, hz0, ← hr0, hs]; rfl
      clear hfu hr0 hz0 hap hap2 hll hgr4 hmk hltr hpl2 hcap2
      obtain ⟨n2, hn2⟩ : ∃ n2, n + 1 = n2 := ⟨_, rfl⟩
      rw [hn2] at HRT HN2 ⊢
      clear hn2
      obtain ⟨g, hA2, hbg⟩ := HRT.out.at0 HPL.out
      subst hA2
      have hpn : p < n2 := by have := HN2.out; have := HPL.out; omega
      have hp0 : (0 : Int) ≤ (p : Int) := by omega
      have hp1 : (p : Int) < (n2 : Int) := by omega
      have hgx : gx ≠ g := by have := HGL.out; have := HS1.out; omega
      have q := hch gx g n2 cap3 p _ A n cap p false L V HGX.out HRT.out HPL.out hgx
      obtain ⟨c0, c1, c2, c3, c4, c5, c6, c7, c8, c9⟩ := HWV.out.cells
      clear HS0
      go_upto_region 7 with fail
      clear c0 c1 c2 c3 c4 c5 c6 c7 c8 c9
      go_wp2_with fail
      ((with_reducible refine q.mono ?_); rintro e V5 ⟨rfl, hr5, hg5⟩)
      clear q
      have hbr := HRT.out.block
      have hx5 := HEX.out.kept hg5 (fun k e => by cases e; exact hbr g (by simp [Value.ownBlock]))
      have hz5 := Blk.kept HZV.out hg5 (HRT.out.apart (g := w.heap.size + 1) (by have := HS1.out; omega))
      have hb5 : Below w.heap.size w V5 := HBV.out.grown hg5 HBV.out.size (fun k e => by cases e; have := HS1.out; omega)
      have HLL : Hid (p < (L.set p (f (atP L p).1, (atP L p).2)).length) := by show _ < _; rw [List.length_set]; exact HPL.out
      have hs5 := hr5.six HLL.out
      rw [atP_set HPL.out] at hs5
      have hr6 := (RowT.set hr5 p 2 (.int .i64 ((f (atP L p).1).rev + 1)) (upR1 (f (atP L p).1), (atP L p).2) HLL.out (by omega) (by rw [atP_set HPL.out]; rfl)).1
      rw [List.set_set] at hr6
      have HL2 : Hid (p < (L.set p (upR1 (f (atP L p).1), (atP L p).2)).length) := by show _ < _; rw [List.length_set]; exact HPL.out
      have hs6 := hr6.six HL2.out
      rw [atP_set HPL.out] at hs6
      have hbr5 := hr5.block
      have hx6 := hx5.kept (gb_set V5 g (p * 6 + 2) (.int .i64 ((f (atP L p).1).rev + 1))) (fun k e => by cases e; exact hbr5 g (by simp [Value.ownBlock]))
      have hx7 := exT_set hx6 HPL.out (r := upR1 (f (atP L p).1)) (HFW.out _ (HEX.out _ (atP_mem HPL.out)).1 (by rw [HAT.out]; exact HRV.out)) (hfe _)
      have hz6 := Blk.far hz5 (show w.heap.size + 1 ≠ g by have := HS1.out; omega) (p * 6 + 2) (.int .i64 ((f (atP L p).1).rev + 1))
      have hb6 := hb5.setCell (p := ⟨g, p * 6 + 2, none⟩) (show w.heap.size ≤ g by have := HS1.out; omega) (.int .i64 ((f (atP L p).1).rev + 1))
      have f5 : V5.frozen? ⟨g, p * 6 + 2, none⟩ = false := hr5.frozen
      have HMF : Hid ((L.set p (upR1 (f (atP L p).1), (atP L p).2)).map Prod.fst = (L.map Prod.fst).set p (upR1 (f r0))) := by show _ = _; rw [map_setP, HAT.out]
      obtain ⟨L6, hL6⟩ : ∃ L6, L.set p (upR1 (f (atP L p).1), (atP L p).2) = L6 := ⟨_, rfl⟩
      rw [hL6] at hr6 hx7 HMF
      obtain ⟨_, _, y2, _, _, _⟩ := hs5
      obtain ⟨_, _, u2, _, _, _⟩ := hs6
      have hfr := hf (atP L p).1
      rw [HAT.out] at hfr
      rw [HAT.out, hfr] at y2 hr6 hx7 hz6 hb6
      have hu2 : (upR1 (f (atP L p).1)).rev = r0.rev + 1 := by rw [HAT.out]; show (f r0).rev + 1 = _; rw [hfr]
      rw [hu2, HAT.out, hfr] at u2
      have hrv := HRV.out
      have hwr : IntKind.i64.wrap (r0.rev + 1) = r0.rev + 1 := IntWalk.i64_in _ (by omega)
      have HR6 := Lib.hid hr6; clear hr6
      have HX7 := Lib.hid hx7; clear hx7
      have HZ6 := Lib.hid hz6; clear hz6
      have HB6 := Lib.hid hb6; clear hb6
      clear hL6 hx5 hz5 hb5 hr5 hx6 hbr hbr5 hg5 hfr hu2 hrv HLL HL2
      go_upto_region 9 with fail
      obtain ⟨V6, hV6⟩ : ∃ V, V5.setCell ⟨g, p * 6 + 2, none⟩ (.int .i64 (r0.rev + 1)) = V := ⟨_, rfl⟩
      rw [hV6] at u2 HR6 HX7 HZ6 HB6 ⊢
      clear hV6 y2 f5
      have HNE : Hid (some (w.heap.size + 1) ≠ (Value.slice (some ⟨g, 0, none⟩) n2 cap3).ownBlock) := HR6.out.apart (by have := HS1.out; omega)
      have z0 := Blk.cell HZ6.out 0
      have z1 := Blk.cell HZ6.out 1
      have z2 := Blk.cell HZ6.out 2
      have z3 := Blk.cell HZ6.out 3
      simp only [List.getElem?_toArray, List.getElem?_cons_zero, List.getElem?_cons_succ] at z0 z1 z2 z3
      have f0 := Blk.frozen HZ6.out 0
      have f1 := Blk.frozen HZ6.out 1
      have f2 := Blk.frozen HZ6.out 2
      have f3 := Blk.frozen HZ6.out 3
      have hfin := rp_put HZ6.out (.int .i64 0) (.int .i64 (r0.rev + 1)) (.string ⟨#[]⟩) (.slice none 0 0)
      have e0 := Blk.cell hfin 0
      have e1 := Blk.cell hfin 1
      have e2 := Blk.cell hfin 2
      have e3 := Blk.cell hfin 3
      simp only [List.getElem?_toArray, List.getElem?_cons_zero, List.getElem?_cons_succ] at e0 e1 e2 e3
      have HBF := Lib.hid (below_four (g := (w.heap.size + 1)) HB6.out (Nat.le_succ _) (.int .i64 0) (.int .i64 (r0.rev + 1)) (.string ⟨#[]⟩) (.slice none 0 0))
      have HRF := Lib.hid (rowT_four HR6.out HNE.out (.int .i64 0) (.int .i64 (r0.rev + 1)) (.string ⟨#[]⟩) (.slice none 0 0))
      have HXF := Lib.hid (exT_four HX7.out HZ6.out (by decide) (.int .i64 0) (.int .i64 (r0.rev + 1)) (.string ⟨#[]⟩) (.slice none 0 0))
      clear hfin
      go_region
      go_wp2_with fail
      refine bodyPost_ret (v := .tuple #[.slice (some ⟨g, 0, none⟩) n2 cap3, .agg #[(.int .i64 0), (.int .i64 (r0.rev + 1)), (.string ⟨#[]⟩), (.slice none 0 0)]]) (by simp [results, Try.results62, go_sem, e0, e1, e2, e3]) rfl (by rw [HE.out]; exact mtPost_row (r := ⟨0, r0.rev + 1, ⟨#[]⟩, []⟩) HRF.out.drew (by have := HS1.out; omega) HXF.out.drew HMF.out rfl HBF.out.drew)
end Go.Proofs.Ytpnkkiokkhmjpaa


/-
  The contracts of the program's own put, mark, cas and remove of a table's work (stage 12).
-/
namespace Go.Proofs.Ytpnkkiokkhmjpaa
open Go.RowKit
set_option linter.unusedVariables false
set_option linter.unusedSimpArgs false

theorem cfPut1 (args : Array Value) (w : World) : (callFunc 63 args).run Try.prog w = .ok (.enter 63 args) w := run_callFunc_bodyT Try.func63 (by kernel_rfl) (by kernel_rfl) args w
theorem cfMark1 (args : Array Value) (w : World) : (callFunc 67 args).run Try.prog w = .ok (.enter 67 args) w := run_callFunc_bodyT Try.func67 (by kernel_rfl) (by kernel_rfl) args w
theorem chgV_wf {o : OpR} (ho : OpWf o) (r : Rcd) (h : RcW r) (hb : 0 ≤ r.rev ∧ r.rev < 9007199254740992) : RcW (upR1 (chgV o r)) :=
  ⟨⟨h.1.1, ho.2.2.1, h.1.2.2⟩, wf_within (by show _ ≤ r.rev + 1; omega) (by show r.rev + 1 ≤ _; omega), h.2.2.1, h.2.2.2⟩
theorem chgM_wf {o : OpR} (ho : OpWf o) (r : Rcd) (h : RcW r) (hb : 0 ≤ r.rev ∧ r.rev < 9007199254740992) : RcW (upR1 (chgM o r)) :=
  ⟨⟨h.1.1, h.1.2.1, ho.2.2.2.2.2.2⟩, wf_within (by show _ ≤ r.rev + 1; omega) (by show r.rev + 1 ≤ _; omega), ho.2.2.2.2.2.1, h.2.2.2⟩
set_option maxRecDepth 100000 in
set_option maxHeartbeats 8000000 in
theorem put_any (t : List Rcd) (A : Option Addr) (n cap : Nat) (o : OpR) (p : Nat) (th : Bool) (w : World) (h : WkOk w A n cap t o p th) :
    Calls Try.prog 47 #[wkV A n cap o p th] w (MtPost w A n cap t (wrU (chgV o) t o p th).1 (wrU (chgV o) t o p th).2) := by
  have ho := h.2.2.2.1
  have HOK := Lib.hid h; clear h
  have hb1 : Below w.heap.size w (w.alloc (.cells #[.slice A n cap, .int .i64 o.kind, .string o.key, .string o.value, .int .i64 o.rev, .string o.upto, .int .i64 o.life, .string o.note, .int .i64 p, .bool th] 62)) := (Below.refl _ _).alloc (Nat.le_refl _) _
  have hb2 : Below w.heap.size w ((w.alloc (.cells #[.slice A n cap, .int .i64 o.kind, .string o.key, .string o.value, .int .i64 o.rev, .string o.upto, .int .i64 o.life, .string o.note, .int .i64 p, .bool th] 62)).alloc (.cells #[.int .i64 0, .int .i64 0, .string ⟨#[]⟩, .slice none 0 0] 37)) := hb1.alloc (by simp) _
  have hwk : WkBlk ((w.alloc (.cells #[.slice A n cap, .int .i64 o.kind, .string o.key, .string o.value, .int .i64 o.rev, .string o.upto, .int .i64 o.life, .string o.note, .int .i64 p, .bool th] 62)).alloc (.cells #[.int .i64 0, .int .i64 0, .string ⟨#[]⟩, .slice none 0 0] 37)) w.heap.size A n cap o p th := (WkBlk.new w A n cap o p th).below ((Below.refl _ _).alloc (Nat.le_refl _) _)
  have hzb : Blk ((w.alloc (.cells #[.slice A n cap, .int .i64 o.kind, .string o.key, .string o.value, .int .i64 o.rev, .string o.upto, .int .i64 o.life, .string o.note, .int .i64 p, .bool th] 62)).alloc (.cells #[.int .i64 0, .int .i64 0, .string ⟨#[]⟩, .slice none 0 0] 37)) (w.heap.size + 1) (.cells #[.int .i64 0, .int .i64 0, .string ⟨#[]⟩, .slice none 0 0] 37 (0, 0)) := by have h := Blk.new (w.alloc (.cells #[.slice A n cap, .int .i64 o.kind, .string o.key, .string o.value, .int .i64 o.rev, .string o.upto, .int .i64 o.life, .string o.note, .int .i64 p, .bool th] 62)) (.cells #[.int .i64 0, .int .i64 0, .string ⟨#[]⟩, .slice none 0 0] 37); rw [World.size_alloc] at h; exact h
  obtain ⟨W0, hW0⟩ : ∃ W, (w.alloc (.cells #[.slice A n cap, .int .i64 o.kind, .string o.key, .string o.value, .int .i64 o.rev, .string o.upto, .int .i64 o.life, .string o.note, .int .i64 p, .bool th] 62)).alloc (.cells #[.int .i64 0, .int .i64 0, .string ⟨#[]⟩, .slice none 0 0] 37) = W := ⟨_, rfl⟩
  rw [hW0] at hb2 hwk hzb
  clear hb1
  have HWK : Hid (WkBlk W0 w.heap.size A n cap o p th) := hwk; clear hwk
  have HZB := Lib.hid hzb; clear hzb
  have HB := Lib.hid hb2; clear hb2
  have HS1 : Hid (w.heap.size + 1 < W0.heap.size) := Blk.lt HZB.out
  unfold wkV
  have q := write_any 63 (chgV o) t A n cap o p th w.heap.size W0 (HOK.out.below HB.out) cfPut1 (put1_any o) (fun _ => rfl) (fun _ => rfl) (chgV_wf ho) HWK.out
  unfold wkV at q
  generalize (wrU (chgV o) t o p th).1 = U at *
  generalize (wrU (chgV o) t o p th).2 = R at *
  obtain ⟨c0, c1, c2, c3, c4, c5, c6, c7, c8, c9⟩ := HWK.out.cells
  go_enter Try.func47, Try.ntmps47
  go_wp2_with fail
  ((with_reducible refine q.mono ?_); rintro e W1 ⟨v, K, rfl, hpr, b1⟩)
  clear q c0 c1 c2 c3 c4 c5 c6 c7 c8 c9
  obtain ⟨Ak, ck, hK⟩ := own_formK hpr.2
  subst hK
  unfold rpV
  have hz1 := Blk.below HZB.out b1
  have HB1 := Lib.hid (bch HB.out b1); clear b1
  have HPR := Lib.hid hpr; clear hpr
  have z0 := Blk.cell hz1 0
  have z1 := Blk.cell hz1 1
  have z2 := Blk.cell hz1 2
  have z3 := Blk.cell hz1 3
  simp only [List.getElem?_toArray, List.getElem?_cons_zero, List.getElem?_cons_succ] at z0 z1 z2 z3
  have f0 := Blk.frozen hz1 0
  have f1 := Blk.frozen hz1 1
  have f2 := Blk.frozen hz1 2
  have f3 := Blk.frozen hz1 3
  have hfin := rp_put hz1 (.int .i64 R.errno) (.int .i64 R.rev) (.string R.value) (.slice Ak R.keys.length ck)
  have e0 := Blk.cell hfin 0
  have e1 := Blk.cell hfin 1
  have e2 := Blk.cell hfin 2
  have e3 := Blk.cell hfin 3
  simp only [List.getElem?_toArray, List.getElem?_cons_zero, List.getElem?_cons_succ] at e0 e1 e2 e3
  have HBF := Lib.hid (below_four (g := (w.heap.size + 1)) HB1.out (Nat.le_succ _) (.int .i64 R.errno) (.int .i64 R.rev) (.string R.value) (.slice Ak R.keys.length ck))
  have HPF := Lib.hid (TabParts.four HPR.out hz1 (by decide) HS1.out HB.out.size (.int .i64 R.errno) (.int .i64 R.rev) (.string R.value) (.slice Ak R.keys.length ck))
  clear hfin
  go_wp2_with fail
  refine bodyPost_ret (v := .tuple #[v, .agg #[(.int .i64 R.errno), (.int .i64 R.rev), (.string R.value), (.slice Ak R.keys.length ck)]]) (by simp [results, Try.results47, go_sem, e0, e1, e2, e3]) rfl ⟨v, _, rfl, HPF.out, HBF.out⟩
/-- What mark does. -/
def markU (t : List Rcd) (o : OpR) (p : Nat) (th : Bool) : List Rcd × RepR := if th then wrU (chgM o) t o p true else (t, faultR 70)
set_option maxRecDepth 100000 in
set_option maxHeartbeats 8000000 in
theorem mark_any (t : List Rcd) (A : Option Addr) (n cap : Nat) (o : OpR) (p : Nat) (th : Bool) (w : World) (h : WkOk w A n cap t o p th) :
    Calls Try.prog 50 #[wkV A n cap o p th] w (MtPost w A n cap t (markU t o p th).1 (markU t o p th).2) := by
  have ho := h.2.2.2.1
  have hcn := h.1
  have hts := h.2.1
  have HOK := Lib.hid h; clear h
  have hb1 : Below w.heap.size w (w.alloc (.cells #[.slice A n cap, .int .i64 o.kind, .string o.key, .string o.value, .int .i64 o.rev, .string o.upto, .int .i64 o.life, .string o.note, .int .i64 p, .bool th] 62)) := (Below.refl _ _).alloc (Nat.le_refl _) _
  have hb2 : Below w.heap.size w ((w.alloc (.cells #[.slice A n cap, .int .i64 o.kind, .string o.key, .string o.value, .int .i64 o.rev, .string o.upto, .int .i64 o.life, .string o.note, .int .i64 p, .bool th] 62)).alloc (.cells #[.int .i64 0, .int .i64 0, .string ⟨#[]⟩, .slice none 0 0] 37)) := hb1.alloc (by simp) _
  have hwk : WkBlk ((w.alloc (.cells #[.slice A n cap, .int .i64 o.kind, .string o.key, .string o.value, .int .i64 o.rev, .string o.upto, .int .i64 o.life, .string o.note, .int .i64 p, .bool th] 62)).alloc (.cells #[.int .i64 0, .int .i64 0, .string ⟨#[]⟩, .slice none 0 0] 37)) w.heap.size A n cap o p th := (WkBlk.new w A n cap o p th).below ((Below.refl _ _).alloc (Nat.le_refl _) _)
  have hzb : Blk ((w.alloc (.cells #[.slice A n cap, .int .i64 o.kind, .string o.key, .string o.value, .int .i64 o.rev, .string o.upto, .int .i64 o.life, .string o.note, .int .i64 p, .bool th] 62)).alloc (.cells #[.int .i64 0, .int .i64 0, .string ⟨#[]⟩, .slice none 0 0] 37)) (w.heap.size + 1) (.cells #[.int .i64 0, .int .i64 0, .string ⟨#[]⟩, .slice none 0 0] 37 (0, 0)) := by have h := Blk.new (w.alloc (.cells #[.slice A n cap, .int .i64 o.kind, .string o.key, .string o.value, .int .i64 o.rev, .string o.upto, .int .i64 o.life, .string o.note, .int .i64 p, .bool th] 62)) (.cells #[.int .i64 0, .int .i64 0, .string ⟨#[]⟩, .slice none 0 0] 37); rw [World.size_alloc] at h; exact h
  obtain ⟨W0, hW0⟩ : ∃ W, (w.alloc (.cells #[.slice A n cap, .int .i64 o.kind, .string o.key, .string o.value, .int .i64 o.rev, .string o.upto, .int .i64 o.life, .string o.note, .int .i64 p, .bool th] 62)).alloc (.cells #[.int .i64 0, .int .i64 0, .string ⟨#[]⟩, .slice none 0 0] 37) = W := ⟨_, rfl⟩
  rw [hW0] at hb2 hwk hzb
  clear hb1
  have HWK : Hid (WkBlk W0 w.heap.size A n cap o p th) := hwk; clear hwk
  have HZB := Lib.hid hzb; clear hzb
  have HB := Lib.hid hb2; clear hb2
  have HS1 : Hid (w.heap.size + 1 < W0.heap.size) := Blk.lt HZB.out
  unfold wkV
  cases th with
  | false =>
    have q := refuseEq_any t A n cap o p false 70 70 rfl W0 hcn (hts.below HB.out)
    unfold wkV at q
    clear ho hcn hts
    obtain ⟨c0, c1, c2, c3, c4, c5, c6, c7, c8, c9⟩ := HWK.out.cells
    go_enter Try.func50, Try.ntmps50
    go_wp2_with fail
    ((with_reducible refine q.mono ?_); rintro e W1 ⟨rfl, b1⟩)
    clear q
    have hz1 := Blk.below HZB.out b1
    have HB1 := Lib.hid (bch HB.out b1); clear b1
    clear c0 c1 c2 c3 c4 c5 c6 c7 c8 c9
    have z0 := Blk.cell hz1 0
    have z1 := Blk.cell hz1 1
    have z2 := Blk.cell hz1 2
    have z3 := Blk.cell hz1 3
    simp only [List.getElem?_toArray, List.getElem?_cons_zero, List.getElem?_cons_succ] at z0 z1 z2 z3
    have f0 := Blk.frozen hz1 0
    have f1 := Blk.frozen hz1 1
    have f2 := Blk.frozen hz1 2
    have f3 := Blk.frozen hz1 3
    have hfin := rp_put hz1 (.int .i64 70) (.int .i64 0) (.string ⟨#[]⟩) (.slice none 0 0)
    have e0 := Blk.cell hfin 0
    have e1 := Blk.cell hfin 1
    have e2 := Blk.cell hfin 2
    have e3 := Blk.cell hfin 3
    simp only [List.getElem?_toArray, List.getElem?_cons_zero, List.getElem?_cons_succ] at e0 e1 e2 e3
    have HBF := Lib.hid (below_four (g := (w.heap.size + 1)) HB1.out (Nat.le_succ _) (.int .i64 70) (.int .i64 0) (.string ⟨#[]⟩) (.slice none 0 0))
    clear hfin
    go_wp2_with fail
    refine bodyPost_ret (v := .tuple #[.slice A n cap, .agg #[(.int .i64 70), (.int .i64 0), (.string ⟨#[]⟩), (.slice none 0 0)]]) (by simp [results, Try.results50, go_sem, e0, e1, e2, e3]) rfl (mtPost_same (r := faultR 70) rfl HBF.out)
  | true =>
    clear hcn hts
    have q := write_any 67 (chgM o) t A n cap o p true w.heap.size W0 (HOK.out.below HB.out) cfMark1 (mark1_any o) (fun _ => rfl) (fun _ => rfl) (chgM_wf ho) HWK.out
    unfold wkV at q
    have hmu : markU t o p true = wrU (chgM o) t o p true := rfl
    rw [hmu]
    clear hmu
    generalize (wrU (chgM o) t o p true).1 = U at *
    generalize (wrU (chgM o) t o p true).2 = R at *
    obtain ⟨c0, c1, c2, c3, c4, c5, c6, c7, c8, c9⟩ := HWK.out.cells
    go_enter Try.func50, Try.ntmps50
    go_wp2_with fail
    ((with_reducible refine q.mono ?_); rintro e W1 ⟨v, K, rfl, hpr, b1⟩)
    clear q c0 c1 c2 c3 c4 c5 c6 c7 c8 c9
    obtain ⟨Ak, ck, hK⟩ := own_formK hpr.2
    subst hK
    unfold rpV
    have hz1 := Blk.below HZB.out b1
    have HB1 := Lib.hid (bch HB.out b1); clear b1
    have HPR := Lib.hid hpr; clear hpr
    have z0 := Blk.cell hz1 0
    have z1 := Blk.cell hz1 1
    have z2 := Blk.cell hz1 2
    have z3 := Blk.cell hz1 3
    simp only [List.getElem?_toArray, List.getElem?_cons_zero, List.getElem?_cons_succ] at z0 z1 z2 z3
    have f0 := Blk.frozen hz1 0
    have f1 := Blk.frozen hz1 1
    have f2 := Blk.frozen hz1 2
    have f3 := Blk.frozen hz1 3
    have hfin := rp_put hz1 (.int .i64 R.errno) (.int .i64 R.rev) (.string R.value) (.slice Ak R.keys.length ck)
    have e0 := Blk.cell hfin 0
    have e1 := Blk.cell hfin 1
    have e2 := Blk.cell hfin 2
    have e3 := Blk.cell hfin 3
    simp only [List.getElem?_toArray, List.getElem?_cons_zero, List.getElem?_cons_succ] at e0 e1 e2 e3
    have HBF := Lib.hid (below_four (g := (w.heap.size + 1)) HB1.out (Nat.le_succ _) (.int .i64 R.errno) (.int .i64 R.rev) (.string R.value) (.slice Ak R.keys.length ck))
    have HPF := Lib.hid (TabParts.four HPR.out hz1 (by decide) HS1.out HB.out.size (.int .i64 R.errno) (.int .i64 R.rev) (.string R.value) (.slice Ak R.keys.length ck))
    clear hfin
    go_wp2_with fail
    refine bodyPost_ret (v := .tuple #[v, .agg #[(.int .i64 R.errno), (.int .i64 R.rev), (.string R.value), (.slice Ak R.keys.length ck)]]) (by simp [results, Try.results50, go_sem, e0, e1, e2, e3]) rfl ⟨v, _, rfl, HPF.out, HBF.out⟩
/-- What cas does. -/
def casU (t : List Rcd) (o : OpR) (p : Nat) (th : Bool) : List Rcd × RepR := if revW t p th = o.rev then wrU (chgV o) t o p th else (t, ⟨71, revW t p th, ⟨#[]⟩, []⟩)
set_option maxRecDepth 100000 in
set_option maxHeartbeats 8000000 in
theorem cas_any (t : List Rcd) (A : Option Addr) (n cap : Nat) (o : OpR) (p : Nat) (th : Bool) (w : World) (h : WkOk w A n cap t o p th) :
    Calls Try.prog 49 #[wkV A n cap o p th] w (MtPost w A n cap t (casU t o p th).1 (casU t o p th).2) := by
  have hpt : th = true → p < t.length := fun e => by subst e; exact (place_yes h.2.2.2.2).1
  have hts := h.2.1
  have HOK := Lib.hid h; clear h
  have hb1 : Below w.heap.size w (w.alloc (.cells #[.slice A n cap, .int .i64 o.kind, .string o.key, .string o.value, .int .i64 o.rev, .string o.upto, .int .i64 o.life, .string o.note, .int .i64 p, .bool th] 62)) := (Below.refl _ _).alloc (Nat.le_refl _) _
  have hb2 : Below w.heap.size w ((w.alloc (.cells #[.slice A n cap, .int .i64 o.kind, .string o.key, .string o.value, .int .i64 o.rev, .string o.upto, .int .i64 o.life, .string o.note, .int .i64 p, .bool th] 62)).alloc (.cells #[.int .i64 0, .int .i64 0, .string ⟨#[]⟩, .slice none 0 0] 37)) := hb1.alloc (by simp) _
  have hwk : WkBlk ((w.alloc (.cells #[.slice A n cap, .int .i64 o.kind, .string o.key, .string o.value, .int .i64 o.rev, .string o.upto, .int .i64 o.life, .string o.note, .int .i64 p, .bool th] 62)).alloc (.cells #[.int .i64 0, .int .i64 0, .string ⟨#[]⟩, .slice none 0 0] 37)) w.heap.size A n cap o p th := (WkBlk.new w A n cap o p th).below ((Below.refl _ _).alloc (Nat.le_refl _) _)
  have hzb : Blk ((w.alloc (.cells #[.slice A n cap, .int .i64 o.kind, .string o.key, .string o.value, .int .i64 o.rev, .string o.upto, .int .i64 o.life, .string o.note, .int .i64 p, .bool th] 62)).alloc (.cells #[.int .i64 0, .int .i64 0, .string ⟨#[]⟩, .slice none 0 0] 37)) (w.heap.size + 1) (.cells #[.int .i64 0, .int .i64 0, .string ⟨#[]⟩, .slice none 0 0] 37 (0, 0)) := by have h := Blk.new (w.alloc (.cells #[.slice A n cap, .int .i64 o.kind, .string o.key, .string o.value, .int .i64 o.rev, .string o.upto, .int .i64 o.life, .string o.note, .int .i64 p, .bool th] 62)) (.cells #[.int .i64 0, .int .i64 0, .string ⟨#[]⟩, .slice none 0 0] 37); rw [World.size_alloc] at h; exact h
  obtain ⟨W0, hW0⟩ : ∃ W, (w.alloc (.cells #[.slice A n cap, .int .i64 o.kind, .string o.key, .string o.value, .int .i64 o.rev, .string o.upto, .int .i64 o.life, .string o.note, .int .i64 p, .bool th] 62)).alloc (.cells #[.int .i64 0, .int .i64 0, .string ⟨#[]⟩, .slice none 0 0] 37) = W := ⟨_, rfl⟩
  rw [hW0] at hb2 hwk hzb
  clear hb1
  have HWK : Hid (WkBlk W0 w.heap.size A n cap o p th) := hwk; clear hwk
  have HZB := Lib.hid hzb; clear hzb
  have HB := Lib.hid hb2; clear hb2
  have HS1 : Hid (w.heap.size + 1 < W0.heap.size) := Blk.lt HZB.out
  unfold wkV
  have qr : ∀ W, Below W0.heap.size W0 W → Calls Try.prog 66 #[wkV A n cap o p th] W fun e w' => e = .returned (.int .i64 (revW t p th)) ∧ Below W.heap.size W w' := fun W hb => rev_any t A n cap o p th W (hts.below (bch HB.out hb)) hpt
  unfold wkV at qr
  have HE1 : Hid (revW t p th = o.rev → casU t o p th = wrU (chgV o) t o p th) := fun e => if_pos e
  have HE2 : Hid (revW t p th ≠ o.rev → casU t o p th = (t, ⟨71, revW t p th, ⟨#[]⟩, []⟩)) := fun e => if_neg e
  generalize revW t p th = z at *
  clear hpt hts
  go_enter Try.func49, Try.ntmps49
  by_cases hz : z = o.rev
  · have HE := Lib.hid (HE1.out hz)
    have ez : (z != o.rev) = false := by simp [hz]
    clear hz HE1 HE2
    go_upto_region 1 with fail
    refine wp_region_noPanic ?_
    refine wp_region_held_drew (S := (fun W => Below W0.heap.size W0 W)) (by kernel_rfl) ((Below.refl _ _).drew) (fun hHeld => ?_)
    refine wpAnyH_take (i := 0) (v := ?_) rfl (by kernel_rfl) (by kernel_rfl) (by kernel_rfl) (fun _ _ _ h => h) (Or.inl ⟨by rfl, ?_⟩) (by assumption) ?_
    rotate_left
    · (intro w hSw; (try dsimp only at hSw); obtain ⟨c0, c1, c2, c3, c4, c5, c6, c7, c8, c9⟩ := (HWK.out.below hSw).cells; go_simp; (try with_reducible rfl))
    simp only [Act.put, List.getElem_toArray, List.getElem_cons_zero, List.setIfInBounds_toArray, List.set_cons_zero, List.set_cons_succ]
    refine wpAnyH_take (i := 2) (v := ?_) rfl (by kernel_rfl) (by kernel_rfl) (by kernel_rfl) (fun _ _ _ h => h) (Or.inl ⟨by rfl, ?_⟩) (by assumption) ?_
    rotate_left
    · (intro w hSw; (try dsimp only at hSw); go_simp; (try with_reducible rfl))
    simp only [Act.put, List.getElem_toArray, List.getElem_cons_zero, List.getElem_cons_succ, List.setIfInBounds_toArray, List.set_cons_zero, List.set_cons_succ]
    refine wpAnyH_take (i := 3) (v := ?_) rfl (by kernel_rfl) (by kernel_rfl) (by kernel_rfl) (fun _ _ _ h => h) (Or.inl ⟨by rfl, ?_⟩) (by assumption) ?_
    rotate_left
    · (intro w hSw; (try dsimp only at hSw); go_simp; (try with_reducible rfl))
    simp only [Act.put, List.getElem_toArray, List.getElem_cons_zero, List.getElem_cons_succ, List.setIfInBounds_toArray, List.set_cons_zero, List.set_cons_succ]
    refine wpAnyH_take (i := 4) (v := ?_) rfl (by kernel_rfl) (by kernel_rfl) (by kernel_rfl) (fun _ _ _ h => h) (Or.inl ⟨by rfl, ?_⟩) (by assumption) ?_
    rotate_left
    · (intro w hSw; (try dsimp only at hSw); obtain ⟨c0, c1, c2, c3, c4, c5, c6, c7, c8, c9⟩ := (HWK.out.below hSw).cells; go_simp; (try with_reducible rfl))
    simp only [Act.put, List.getElem_toArray, List.getElem_cons_zero, List.getElem_cons_succ, List.setIfInBounds_toArray, List.set_cons_zero, List.set_cons_succ]
    refine wpAnyH_ready (rs := [1]) (by kernel_rfl) (by simp) ?_
    refine AllReadyH.cons rfl (fun K hK => ?_) AllReadyH.nil
    rw [if_pos (by rfl)]
    go_simp
    ((with_reducible refine (qr _ hHeld).mono ?_); rintro e V1 ⟨rfl, bq⟩)
    refine hK.out _ _ (bch hHeld bq) (fun hHeld2 => ?_)
    clear hK K hHeld
    have hHeld := hHeld2; clear hHeld2
    refine wpAnyH_take (i := 5) (v := ?_) rfl (by kernel_rfl) (by kernel_rfl) (by kernel_rfl) (fun _ _ _ h => h) (Or.inl ⟨by rfl, ?_⟩) (by assumption) ?_
    rotate_left
    · (intro w hSw; (try dsimp only at hSw); go_simp; (try with_reducible rfl))
    simp only [Act.put, List.getElem_toArray, List.getElem_cons_zero, List.getElem_cons_succ, List.setIfInBounds_toArray, List.set_cons_zero, List.set_cons_succ]
    refine wpAnyH_done (by kernel_rfl) ?_ _
    refine NoPanic.normal ?_
    have hh := hHeld
    clear hHeld
    obtain ⟨c0, c1, c2, c3, c4, c5, c6, c7, c8, c9⟩ := (HWK.out.below hh).cells
    have q := put_any t A n cap o p th V1 (HOK.out.below (bch HB.out hh))
    unfold wkV at q
    rw [← HE.out] at q
    generalize (casU t o p th).1 = U at *
    generalize (casU t o p th).2 = R at *
    have HH := Lib.hid hh; clear hh
    go_wp2_with fail
    ((with_reducible refine q.mono ?_); rintro e W1 ⟨v, K, rfl, hpr, b1⟩)
    clear q c0 c1 c2 c3 c4 c5 c6 c7 c8 c9
    have HBH := Lib.hid (bch HB.out HH.out)
    have HZH := Lib.hid (Blk.below HZB.out HH.out)
    have HSH := Lib.hid (Nat.lt_of_lt_of_le HS1.out HH.out.size)
    obtain ⟨Ak, ck, hK⟩ := own_formK hpr.2
    subst hK
    unfold rpV
    have hz1 := Blk.below HZH.out b1
    have HB1 := Lib.hid (bch HBH.out b1); clear b1
    have HPR := Lib.hid hpr; clear hpr
    have z0 := Blk.cell hz1 0
    have z1 := Blk.cell hz1 1
    have z2 := Blk.cell hz1 2
    have z3 := Blk.cell hz1 3
    simp only [List.getElem?_toArray, List.getElem?_cons_zero, List.getElem?_cons_succ] at z0 z1 z2 z3
    have f0 := Blk.frozen hz1 0
    have f1 := Blk.frozen hz1 1
    have f2 := Blk.frozen hz1 2
    have f3 := Blk.frozen hz1 3
    have hfin := rp_put hz1 (.int .i64 R.errno) (.int .i64 R.rev) (.string R.value) (.slice Ak R.keys.length ck)
    have e0 := Blk.cell hfin 0
    have e1 := Blk.cell hfin 1
    have e2 := Blk.cell hfin 2
    have e3 := Blk.cell hfin 3
    simp only [List.getElem?_toArray, List.getElem?_cons_zero, List.getElem?_cons_succ] at e0 e1 e2 e3
    have HBF := Lib.hid (below_four (g := (w.heap.size + 1)) HB1.out (Nat.le_succ _) (.int .i64 R.errno) (.int .i64 R.rev) (.string R.value) (.slice Ak R.keys.length ck))
    have HPF := Lib.hid (TabParts.four HPR.out hz1 (by decide) HSH.out HBH.out.size (.int .i64 R.errno) (.int .i64 R.rev) (.string R.value) (.slice Ak R.keys.length ck))
    clear hfin
    go_wp2_with fail
    refine bodyPost_ret (v := .tuple #[v, .agg #[(.int .i64 R.errno), (.int .i64 R.rev), (.string R.value), (.slice Ak R.keys.length ck)]]) (by simp [results, Try.results49, go_sem, e0, e1, e2, e3]) rfl ⟨v, _, rfl, HPF.out, HBF.out⟩
  · have HE := Lib.hid (HE2.out hz)
    have ez : (z != o.rev) = true := by simpa using hz
    clear hz HE1 HE2
    go_upto_region 1 with fail
    refine wp_region_noPanic ?_
    refine wp_region_held_drew (S := (fun W => Below W0.heap.size W0 W)) (by kernel_rfl) ((Below.refl _ _).drew) (fun hHeld => ?_)
    refine wpAnyH_take (i := 0) (v := ?_) rfl (by kernel_rfl) (by kernel_rfl) (by kernel_rfl) (fun _ _ _ h => h) (Or.inl ⟨by rfl, ?_⟩) (by assumption) ?_
    rotate_left
    · (intro w hSw; (try dsimp only at hSw); obtain ⟨c0, c1, c2, c3, c4, c5, c6, c7, c8, c9⟩ := (HWK.out.below hSw).cells; go_simp; (try with_reducible rfl))
    simp only [Act.put, List.getElem_toArray, List.getElem_cons_zero, List.setIfInBounds_toArray, List.set_cons_zero, List.set_cons_succ]
    refine wpAnyH_take (i := 2) (v := ?_) rfl (by kernel_rfl) (by kernel_rfl) (by kernel_rfl) (fun _ _ _ h => h) (Or.inl ⟨by rfl, ?_⟩) (by assumption) ?_
    rotate_left
    · (intro w hSw; (try dsimp only at hSw); go_simp; (try with_reducible rfl))
    simp only [Act.put, List.getElem_toArray, List.getElem_cons_zero, List.getElem_cons_succ, List.setIfInBounds_toArray, List.set_cons_zero, List.set_cons_succ]
    refine wpAnyH_take (i := 3) (v := ?_) rfl (by kernel_rfl) (by kernel_rfl) (by kernel_rfl) (fun _ _ _ h => h) (Or.inl ⟨by rfl, ?_⟩) (by assumption) ?_
    rotate_left
    · (intro w hSw; (try dsimp only at hSw); go_simp; (try with_reducible rfl))
    simp only [Act.put, List.getElem_toArray, List.getElem_cons_zero, List.getElem_cons_succ, List.setIfInBounds_toArray, List.set_cons_zero, List.set_cons_succ]
    refine wpAnyH_take (i := 4) (v := ?_) rfl (by kernel_rfl) (by kernel_rfl) (by kernel_rfl) (fun _ _ _ h => h) (Or.inl ⟨by rfl, ?_⟩) (by assumption) ?_
    rotate_left
    · (intro w hSw; (try dsimp only at hSw); obtain ⟨c0, c1, c2, c3, c4, c5, c6, c7, c8, c9⟩ := (HWK.out.below hSw).cells; go_simp; (try with_reducible rfl))
    simp only [Act.put, List.getElem_toArray, List.getElem_cons_zero, List.getElem_cons_succ, List.setIfInBounds_toArray, List.set_cons_zero, List.set_cons_succ]
    refine wpAnyH_ready (rs := [1]) (by kernel_rfl) (by simp) ?_
    refine AllReadyH.cons rfl (fun K hK => ?_) AllReadyH.nil
    rw [if_pos (by rfl)]
    go_simp
    ((with_reducible refine (qr _ hHeld).mono ?_); rintro e V1 ⟨rfl, bq⟩)
    refine hK.out _ _ (bch hHeld bq) (fun hHeld2 => ?_)
    clear hK K hHeld
    have hHeld := hHeld2; clear hHeld2
    refine wpAnyH_take (i := 5) (v := ?_) rfl (by kernel_rfl) (by kernel_rfl) (by kernel_rfl) (fun _ _ _ h => h) (Or.inl ⟨by rfl, ?_⟩) (by assumption) ?_
    rotate_left
    · (intro w hSw; (try dsimp only at hSw); go_simp; (try with_reducible rfl))
    simp only [Act.put, List.getElem_toArray, List.getElem_cons_zero, List.getElem_cons_succ, List.setIfInBounds_toArray, List.set_cons_zero, List.set_cons_succ]
    refine wpAnyH_done (by kernel_rfl) ?_ _
    refine NoPanic.normal ?_
    have HH := Lib.hid hHeld
    clear hHeld
    go_upto_region 2 with fail
    refine wp_region_noPanic ?_
    refine wp_region_till (S := (fun W => Below W0.heap.size W0 W)) [6] (by kernel_rfl) (HH.out.drew) (fun hHeld => ?_)
    refine wpTill_take (i := 0) (v := ?_) rfl (by kernel_rfl) (by kernel_rfl) (by kernel_rfl) (by kernel_rfl) (fun _ _ _ h => h) (Or.inl ⟨by rfl, ?_⟩) (by assumption) ?_
    rotate_left
    · (intro w hSw; (try dsimp only at hSw); go_simp; (try with_reducible rfl))
    simp only [Act.put, List.getElem_toArray, List.getElem_cons_zero, List.setIfInBounds_toArray, List.set_cons_zero, List.set_cons_succ]
    refine wpTill_take (i := 1) (v := ?_) rfl (by kernel_rfl) (by kernel_rfl) (by kernel_rfl) (by kernel_rfl) (fun _ _ _ h => h) (Or.inl ⟨by rfl, ?_⟩) (by assumption) ?_
    rotate_left
    · (intro w hSw; (try dsimp only at hSw); obtain ⟨c0, c1, c2, c3, c4, c5, c6, c7, c8, c9⟩ := (HWK.out.below hSw).cells; go_simp; (try with_reducible rfl))
    simp only [Act.put, List.getElem_toArray, List.getElem_cons_zero, List.getElem_cons_succ, List.setIfInBounds_toArray, List.set_cons_zero, List.set_cons_succ]
    refine wpTill_take (i := 2) (v := ?_) rfl (by kernel_rfl) (by kernel_rfl) (by kernel_rfl) (by kernel_rfl) (fun _ _ _ h => h) (Or.inl ⟨by rfl, ?_⟩) (by assumption) ?_
    rotate_left
    · (intro w hSw; (try dsimp only at hSw); obtain ⟨c0, c1, c2, c3, c4, c5, c6, c7, c8, c9⟩ := (HWK.out.below hSw).cells; go_simp; (try with_reducible rfl))
    simp only [Act.put, List.getElem_toArray, List.getElem_cons_zero, List.getElem_cons_succ, List.setIfInBounds_toArray, List.set_cons_zero, List.set_cons_succ]
    refine wpTill_ready (rs := [3]) (by kernel_rfl) (by simp) ?_
    refine AllReadyT.cons rfl (fun K hK => ?_) AllReadyT.nil
    rw [if_pos (by rfl)]
    go_simp
    ((with_reducible refine (qr _ hHeld).mono ?_); rintro e V3 ⟨rfl, bq⟩)
    refine hK.out _ _ (bch hHeld bq) (fun hHeld2 => ?_)
    clear hK K hHeld
    have hHeld := hHeld2; clear hHeld2
    have hz3 := Blk.below HZB.out hHeld
    have HB3 := Lib.hid (bch HB.out hHeld)
    have z0 := Blk.cell hz3 0
    have z1 := Blk.cell hz3 1
    have z2 := Blk.cell hz3 2
    have z3 := Blk.cell hz3 3
    simp only [List.getElem?_toArray, List.getElem?_cons_zero, List.getElem?_cons_succ] at z0 z1 z2 z3
    have f0 := Blk.frozen hz3 0
    have f1 := Blk.frozen hz3 1
    have f2 := Blk.frozen hz3 2
    have f3 := Blk.frozen hz3 3
    refine wpTill_take (i := 4) (v := ?_) rfl (by kernel_rfl) (by kernel_rfl) (by kernel_rfl) (by kernel_rfl) (fun _ _ _ h => h) (Or.inl ⟨by rfl, ?_⟩) (by assumption) ?_
    rotate_left
    · (intro w hSw; (try dsimp only at hSw); go_simp; (try with_reducible rfl))
    simp only [Act.put, List.getElem_toArray, List.getElem_cons_zero, List.getElem_cons_succ, List.setIfInBounds_toArray, List.set_cons_zero, List.set_cons_succ]
    refine wpTill_take (i := 5) (v := ?_) rfl (by kernel_rfl) (by kernel_rfl) (by kernel_rfl) (by kernel_rfl) (fun _ _ _ h => h) (Or.inl ⟨by rfl, ?_⟩) (by assumption) ?_
    rotate_left
    · (intro w hSw; (try dsimp only at hSw); go_simp; (try with_reducible rfl))
    simp only [Act.put, List.getElem_toArray, List.getElem_cons_zero, List.getElem_cons_succ, List.setIfInBounds_toArray, List.set_cons_zero, List.set_cons_succ]
    refine wpTill_ready (rs := [6]) (by kernel_rfl) (by simp) ?_
    refine AllReadyT.last rfl (by kernel_rfl) (fun K hK => ?_) AllReadyT.nil
    rw [if_pos (by rfl)]
    go_simp
    refine hK.out _ _ (trivial) (fun hHeld2 => ?_)
    clear hK K hHeld
    have hHeld := hHeld2; clear hHeld2
    refine wpTill_done (by kernel_rfl) ?_ _
    refine NoPanic.normal ?_
    have hfin := rp_put hz3 (.int .i64 71) (.int .i64 z) (.string ⟨#[]⟩) (.slice none 0 0)
    have e0 := Blk.cell hfin 0
    have e1 := Blk.cell hfin 1
    have e2 := Blk.cell hfin 2
    have e3 := Blk.cell hfin 3
    simp only [List.getElem?_toArray, List.getElem?_cons_zero, List.getElem?_cons_succ] at e0 e1 e2 e3
    have HBF := Lib.hid (below_four (g := (w.heap.size + 1)) HB3.out (Nat.le_succ _) (.int .i64 71) (.int .i64 z) (.string ⟨#[]⟩) (.slice none 0 0))
    clear hfin
    go_wp2_with fail
    refine bodyPost_ret (v := .tuple #[.slice A n cap, .agg #[.int .i64 71, .int .i64 z, .string ⟨#[]⟩, .slice none 0 0]]) (by simp [results, Try.results49, go_sem, e0, e1, e2, e3]) rfl (by rw [HE.out]; exact mtPost_same (r := ⟨71, z, ⟨#[]⟩, []⟩) rfl HBF.out)
/-- What remove does. -/
def remU (t : List Rcd) (p : Nat) (th : Bool) : List Rcd × RepR := if th then (t.eraseIdx p, ⟨0, (atR t p).rev, ⟨#[]⟩, []⟩) else (t, faultR 70)
set_option maxRecDepth 100000 in
set_option maxHeartbeats 8000000 in
theorem remove_any (t : List Rcd) (A : Option Addr) (n cap : Nat) (o : OpR) (p : Nat) (th : Bool) (w : World) (h : WkOk w A n cap t o p th) :
    Calls Try.prog 48 #[wkV A n cap o p th] w (MtPost w A n cap t (remU t p th).1 (remU t p th).2) := by
  have hcn := h.1
  have hts := h.2.1
  have hpl := h.2.2.2.2
  have hrt := h.2.2.1
  clear h
  have hb1 : Below w.heap.size w (w.alloc (.cells #[.slice A n cap, .int .i64 o.kind, .string o.key, .string o.value, .int .i64 o.rev, .string o.upto, .int .i64 o.life, .string o.note, .int .i64 p, .bool th] 62)) := (Below.refl _ _).alloc (Nat.le_refl _) _
  have hb2 : Below w.heap.size w ((w.alloc (.cells #[.slice A n cap, .int .i64 o.kind, .string o.key, .string o.value, .int .i64 o.rev, .string o.upto, .int .i64 o.life, .string o.note, .int .i64 p, .bool th] 62)).alloc (.cells #[.int .i64 0, .int .i64 0, .string ⟨#[]⟩, .slice none 0 0] 37)) := hb1.alloc (by simp) _
  have hwk : WkBlk ((w.alloc (.cells #[.slice A n cap, .int .i64 o.kind, .string o.key, .string o.value, .int .i64 o.rev, .string o.upto, .int .i64 o.life, .string o.note, .int .i64 p, .bool th] 62)).alloc (.cells #[.int .i64 0, .int .i64 0, .string ⟨#[]⟩, .slice none 0 0] 37)) w.heap.size A n cap o p th := (WkBlk.new w A n cap o p th).below ((Below.refl _ _).alloc (Nat.le_refl _) _)
  have hzb : Blk ((w.alloc (.cells #[.slice A n cap, .int .i64 o.kind, .string o.key, .string o.value, .int .i64 o.rev, .string o.upto, .int .i64 o.life, .string o.note, .int .i64 p, .bool th] 62)).alloc (.cells #[.int .i64 0, .int .i64 0, .string ⟨#[]⟩, .slice none 0 0] 37)) (w.heap.size + 1) (.cells #[.int .i64 0, .int .i64 0, .string ⟨#[]⟩, .slice none 0 0] 37 (0, 0)) := by have h := Blk.new (w.alloc (.cells #[.slice A n cap, .int .i64 o.kind, .string o.key, .string o.value, .int .i64 o.rev, .string o.upto, .int .i64 o.life, .string o.note, .int .i64 p, .bool th] 62)) (.cells #[.int .i64 0, .int .i64 0, .string ⟨#[]⟩, .slice none 0 0] 37); rw [World.size_alloc] at h; exact h
  obtain ⟨W0, hW0⟩ : ∃ W, (w.alloc (.cells #[.slice A n cap, .int .i64 o.kind, .string o.key, .string o.value, .int .i64 o.rev, .string o.upto, .int .i64 o.life, .string o.note, .int .i64 p, .bool th] 62)).alloc (.cells #[.int .i64 0, .int .i64 0, .string ⟨#[]⟩, .slice none 0 0] 37) = W := ⟨_, rfl⟩
  rw [hW0] at hb2 hwk hzb
  clear hb1
  have HWK : Hid (WkBlk W0 w.heap.size A n cap o p th) := hwk; clear hwk
  have HZB := Lib.hid hzb; clear hzb
  have HB := Lib.hid hb2; clear hb2
  have HS1 : Hid (w.heap.size + 1 < W0.heap.size) := Blk.lt HZB.out
  unfold wkV
  cases th with
  | false =>
    have q := refuseEq_any t A n cap o p false 70 70 rfl W0 hcn (hts.below HB.out)
    unfold wkV at q
    clear hcn hts hpl hrt
    obtain ⟨c0, c1, c2, c3, c4, c5, c6, c7, c8, c9⟩ := HWK.out.cells
    go_enter Try.func48, Try.ntmps48
    go_wp2_with fail
    ((with_reducible refine q.mono ?_); rintro e W1 ⟨rfl, b1⟩)
    clear q
    have hz1 := Blk.below HZB.out b1
    have HB1 := Lib.hid (bch HB.out b1); clear b1
    clear c0 c1 c2 c3 c4 c5 c6 c7 c8 c9
    have z0 := Blk.cell hz1 0
    have z1 := Blk.cell hz1 1
    have z2 := Blk.cell hz1 2
    have z3 := Blk.cell hz1 3
    simp only [List.getElem?_toArray, List.getElem?_cons_zero, List.getElem?_cons_succ] at z0 z1 z2 z3
    have f0 := Blk.frozen hz1 0
    have f1 := Blk.frozen hz1 1
    have f2 := Blk.frozen hz1 2
    have f3 := Blk.frozen hz1 3
    have hfin := rp_put hz1 (.int .i64 70) (.int .i64 0) (.string ⟨#[]⟩) (.slice none 0 0)
    have e0 := Blk.cell hfin 0
    have e1 := Blk.cell hfin 1
    have e2 := Blk.cell hfin 2
    have e3 := Blk.cell hfin 3
    simp only [List.getElem?_toArray, List.getElem?_cons_zero, List.getElem?_cons_succ] at e0 e1 e2 e3
    have HBF := Lib.hid (below_four (g := (w.heap.size + 1)) HB1.out (Nat.le_succ _) (.int .i64 70) (.int .i64 0) (.string ⟨#[]⟩) (.slice none 0 0))
    clear hfin
    go_wp2_with fail
    refine bodyPost_ret (v := .tuple #[.slice A n cap, .agg #[(.int .i64 70), (.int .i64 0), (.string ⟨#[]⟩), (.slice none 0 0)]]) (by simp [results, Try.results48, go_sem, e0, e1, e2, e3]) rfl (mtPost_same (r := faultR 70) rfl HBF.out)
  | true =>
    have HN : Hid (n = t.length) := hts.1
    have hpt := (place_yes hpl).1
    have hpn : p < n := by have := HN.out; omega
    have h20 : n ≤ 20 := by have := HN.out; have := hrt.2.2; omega
    have HT := Lib.hid hts; clear hts hpl hcn hrt
    have qc : ∀ W, Below W0.heap.size W0 W → Calls Try.prog 65 #[.slice A n cap] W (OwnT W t) := fun W hb => copied_any t A n cap W (HT.out.below (bch HB.out hb)) (by omega)
    have qr : ∀ W, Below W0.heap.size W0 W → Calls Try.prog 66 #[wkV A n cap o p true] W fun e w' => e = .returned (.int .i64 (atR t p).rev) ∧ Below W.heap.size W w' := fun W hb => rev_any t A n cap o p true W (HT.out.below (bch HB.out hb)) (fun _ => hpt)
    unfold wkV at qr
    have HE : Hid (remU t p true = (t.eraseIdx p, ⟨0, (atR t p).rev, ⟨#[]⟩, []⟩)) := rfl
    generalize (atR t p).rev = z at *
    clear hpt
    have hwp : IntKind.i64.wrap ((p : Int) + 1) = (p : Int) + 1 := IntWalk.i64_in _ (by omega)
    obtain ⟨c0, c1, c2, c3, c4, c5, c6, c7, c8, c9⟩ := HWK.out.cells
    go_enter Try.func48, Try.ntmps48
    go_upto_region 3 with fail
    clear c0 c1 c2 c3 c4 c5 c6 c7 c8 c9
    refine wp_region_noPanic ?_
    refine wp_region_till (S := (fun W => Below W0.heap.size W0 W)) [13] (by kernel_rfl) ((Below.refl _ _).drew) (fun hHeld => ?_)
    refine wpTill_take (i := 0) (v := ?_) rfl (by kernel_rfl) (by kernel_rfl) (by kernel_rfl) (by kernel_rfl) (fun _ _ _ h => h) (Or.inl ⟨by rfl, ?_⟩) (by assumption) ?_
    rotate_left
    · (intro w hSw; (try dsimp only at hSw); go_simp; (try with_reducible rfl))
    simp only [Act.put, List.getElem_toArray, List.getElem_cons_zero, List.setIfInBounds_toArray, List.set_cons_zero, List.set_cons_succ]
    refine wpTill_take (i := 1) (v := ?_) rfl (by kernel_rfl) (by kernel_rfl) (by kernel_rfl) (by kernel_rfl) (fun _ _ _ h => h) (Or.inl ⟨by rfl, ?_⟩) (by assumption) ?_
    rotate_left
    · (intro w hSw; (try dsimp only at hSw); obtain ⟨c0, c1, c2, c3, c4, c5, c6, c7, c8, c9⟩ := (HWK.out.below hSw).cells; go_simp; (try with_reducible rfl))
    simp only [Act.put, List.getElem_toArray, List.getElem_cons_zero, List.getElem_cons_succ, List.setIfInBounds_toArray, List.set_cons_zero, List.set_cons_succ]
    refine wpTill_take (i := 3) (v := ?_) rfl (by kernel_rfl) (by kernel_rfl) (by kernel_rfl) (by kernel_rfl) (fun _ _ _ h => h) (Or.inl ⟨by rfl, ?_⟩) (by assumption) ?_
    rotate_left
    · (intro w hSw; (try dsimp only at hSw); go_simp; (try with_reducible rfl))
    simp only [Act.put, List.getElem_toArray, List.getElem_cons_zero, List.getElem_cons_succ, List.setIfInBounds_toArray, List.set_cons_zero, List.set_cons_succ]
    refine wpTill_take (i := 4) (v := ?_) rfl (by kernel_rfl) (by kernel_rfl) (by kernel_rfl) (by kernel_rfl) (fun _ _ _ h => h) (Or.inl ⟨by rfl, ?_⟩) (by assumption) ?_
    rotate_left
    · (intro w hSw; (try dsimp only at hSw); obtain ⟨c0, c1, c2, c3, c4, c5, c6, c7, c8, c9⟩ := (HWK.out.below hSw).cells; go_simp; (try with_reducible rfl))
    simp only [Act.put, List.getElem_toArray, List.getElem_cons_zero, List.getElem_cons_succ, List.setIfInBounds_toArray, List.set_cons_zero, List.set_cons_succ]
    refine wpTill_take (i := 5) (v := ?_) rfl (by kernel_rfl) (by kernel_rfl) (by kernel_rfl) (by kernel_rfl) (fun _ _ _ h => h) (Or.inl ⟨by rfl, ?_⟩) (by assumption) ?_
    rotate_left
    · (intro w hSw; (try dsimp only at hSw); go_simp; (try with_reducible rfl))
    simp only [Act.put, List.getElem_toArray, List.getElem_cons_zero, List.getElem_cons_succ, List.setIfInBounds_toArray, List.set_cons_zero, List.set_cons_succ]
    refine wpTill_take (i := 6) (v := ?_) rfl (by kernel_rfl) (by kernel_rfl) (by kernel_rfl) (by kernel_rfl) (fun _ _ _ h => h) (Or.inl ⟨by rfl, ?_⟩) (by assumption) ?_
    rotate_left
    · (intro w hSw; (try dsimp only at hSw); obtain ⟨c0, c1, c2, c3, c4, c5, c6, c7, c8, c9⟩ := (HWK.out.below hSw).cells; go_simp; (try with_reducible rfl))
    simp only [Act.put, List.getElem_toArray, List.getElem_cons_zero, List.getElem_cons_succ, List.setIfInBounds_toArray, List.set_cons_zero, List.set_cons_succ]
    refine wpTill_take (i := 7) (v := ?_) rfl (by kernel_rfl) (by kernel_rfl) (by kernel_rfl) (by kernel_rfl) (fun _ _ _ h => h) (Or.inl ⟨by rfl, ?_⟩) (by assumption) ?_
    rotate_left
    · (intro w hSw; (try dsimp only at hSw); go_simp; (try with_reducible rfl))
    simp only [Act.put, List.getElem_toArray, List.getElem_cons_zero, List.getElem_cons_succ, List.setIfInBounds_toArray, List.set_cons_zero, List.set_cons_succ]
    refine wpTill_take (i := 9) (v := ?_) rfl (by kernel_rfl) (by kernel_rfl) (by kernel_rfl) (by kernel_rfl) (fun _ _ _ h => h) (Or.inl ⟨by rfl, ?_⟩) (by assumption) ?_
    rotate_left
    · (intro w hSw; (try dsimp only at hSw); obtain ⟨c0, c1, c2, c3, c4, c5, c6, c7, c8, c9⟩ := (HWK.out.below hSw).cells; go_simp; (try with_reducible rfl))
    simp only [Act.put, List.getElem_toArray, List.getElem_cons_zero, List.getElem_cons_succ, List.setIfInBounds_toArray, List.set_cons_zero, List.set_cons_succ]
    refine wpTill_ready (rs := [2]) (by kernel_rfl) (by simp) ?_
    refine AllReadyT.cons rfl (fun K hK => ?_) AllReadyT.nil
    rw [if_pos (by rfl)]
    go_simp
    ((with_reducible refine (qc _ hHeld).mono ?_); rintro e V1 ⟨v1, l, rfl, hrow1, hmap1, hex1, bq⟩)
    have HHS : Hid (W0.heap.size ≤ _) := hHeld.size
    obtain ⟨A1, cap1, hv1, hcp1, hps1⟩ := hrow1.parts
    have HLL : Hid (l.length = n) := by have := congrArg List.length hmap1; rw [List.length_map] at this; show _ = _; have := HN.out; omega
    rw [HLL.out] at hv1
    subst hv1
    clear hps1 hcp1
    refine hK.out _ _ (bch hHeld bq) (fun hHeld2 => ?_)
    clear hK K hHeld
    have hHeld := hHeld2; clear hHeld2
    have HR1 : Hid (RowT V1 W0.heap.size (.slice A1 n cap1) l) := RowT.base HHS.out hrow1
    have HX1 := Lib.hid hex1
    have HM1 := Lib.hid hmap1
    clear hrow1 hex1 hmap1
    have hdel := delete12_any l A1 n cap1 p W0.heap.size V1 HR1.out HLL.out.symm hpn h20 HX1.out.sl
    have hlt1 := HR1.out.lt
    refine wpTill_ready (rs := [8]) (by kernel_rfl) (by simp) ?_
    refine AllReadyT.cons rfl (fun K hK => ?_) AllReadyT.nil
    rw [if_pos (by rfl)]
    go_simp
    ((with_reducible refine (hdel).mono ?_); rintro e V2 ⟨v2, rfl, hrow2, hgr2⟩)
    have HX2 := Lib.hid ((exT_erase p HX1.out).kept hgr2 HR1.out.block)
    have HR2 := Lib.hid hrow2
    refine hK.out _ _ (hHeld.grown hgr2 hHeld.size (fun k hk => (hlt1 k hk).1)) (fun hHeld2 => ?_)
    clear hK K hHeld
    have hHeld := hHeld2; clear hHeld2
    clear hdel hlt1 hgr2 hrow2
    refine wpTill_ready (rs := [10]) (by kernel_rfl) (by simp) ?_
    refine AllReadyT.cons rfl (fun K hK => ?_) AllReadyT.nil
    rw [if_pos (by rfl)]
    go_simp
    ((with_reducible refine (qr _ hHeld).mono ?_); rintro e V3 ⟨rfl, bq3⟩)
    have HX3 := Lib.hid (HX2.out.below bq3)
    have HR3 := Lib.hid (HR2.out.below bq3)
    refine hK.out _ _ (bch hHeld bq3) (fun hHeld2 => ?_)
    clear hK K hHeld
    have hHeld := hHeld2; clear hHeld2
    clear bq3
    have hz3 := Blk.below HZB.out hHeld
    have HB3 := Lib.hid (bch HB.out hHeld)
    have z0 := Blk.cell hz3 0
    have z1 := Blk.cell hz3 1
    have z2 := Blk.cell hz3 2
    have z3 := Blk.cell hz3 3
    simp only [List.getElem?_toArray, List.getElem?_cons_zero, List.getElem?_cons_succ] at z0 z1 z2 z3
    have f0 := Blk.frozen hz3 0
    have f1 := Blk.frozen hz3 1
    have f2 := Blk.frozen hz3 2
    have f3 := Blk.frozen hz3 3
    refine wpTill_take (i := 11) (v := ?_) rfl (by kernel_rfl) (by kernel_rfl) (by kernel_rfl) (by kernel_rfl) (fun _ _ _ h => h) (Or.inl ⟨by rfl, ?_⟩) (by assumption) ?_
    rotate_left
    · (intro w hSw; (try dsimp only at hSw); go_simp; (try with_reducible rfl))
    simp only [Act.put, List.getElem_toArray, List.getElem_cons_zero, List.getElem_cons_succ, List.setIfInBounds_toArray, List.set_cons_zero, List.set_cons_succ]
    refine wpTill_take (i := 12) (v := ?_) rfl (by kernel_rfl) (by kernel_rfl) (by kernel_rfl) (by kernel_rfl) (fun _ _ _ h => h) (Or.inl ⟨by rfl, ?_⟩) (by assumption) ?_
    rotate_left
    · (intro w hSw; (try dsimp only at hSw); go_simp; (try with_reducible rfl))
    simp only [Act.put, List.getElem_toArray, List.getElem_cons_zero, List.getElem_cons_succ, List.setIfInBounds_toArray, List.set_cons_zero, List.set_cons_succ]
    refine wpTill_ready (rs := [13]) (by kernel_rfl) (by simp) ?_
    refine AllReadyT.last rfl (by kernel_rfl) (fun K hK => ?_) AllReadyT.nil
    rw [if_pos (by rfl)]
    go_simp
    refine hK.out _ _ (trivial) (fun hHeld2 => ?_)
    clear hK K hHeld
    have hHeld := hHeld2; clear hHeld2
    refine wpTill_done (by kernel_rfl) ?_ _
    refine NoPanic.normal ?_
    have HMF : Hid ((l.take p ++ l.drop (p + 1)).map Prod.fst = t.eraseIdx p) := by show _ = _; rw [← HM1.out, List.eraseIdx_eq_take_drop_succ, List.map_append, List.map_take, List.map_drop]
    have hfin := rp_put hz3 (.int .i64 0) (.int .i64 z) (.string ⟨#[]⟩) (.slice none 0 0)
    have e0 := Blk.cell hfin 0
    have e1 := Blk.cell hfin 1
    have e2 := Blk.cell hfin 2
    have e3 := Blk.cell hfin 3
    simp only [List.getElem?_toArray, List.getElem?_cons_zero, List.getElem?_cons_succ] at e0 e1 e2 e3
    have HBF := Lib.hid (below_four (g := (w.heap.size + 1)) HB3.out (Nat.le_succ _) (.int .i64 0) (.int .i64 z) (.string ⟨#[]⟩) (.slice none 0 0))
    have HPF := Lib.hid (TabParts.four (w := w) (u := t.eraseIdx p) (t := t) (A0 := A) (n0 := n) (cap0 := cap) (ks := []) (K := .slice none 0 0) ⟨.inr ⟨_, HR3.out, HX3.out, HMF.out⟩, rowK_nil _ _⟩ hz3 (by decide) HS1.out HB.out.size (.int .i64 0) (.int .i64 z) (.string ⟨#[]⟩) (.slice none 0 0))
    clear hfin
    go_wp2_with fail
    refine bodyPost_ret (v := .tuple #[v2, .agg #[.int .i64 0, .int .i64 z, .string ⟨#[]⟩, .slice none 0 0]]) (by simp [results, Try.results48, go_sem, e0, e1, e2, e3]) rfl (by rw [HE.out]; exact ⟨v2, _, rfl, HPF.out, HBF.out⟩)
end Go.Proofs.Ytpnkkiokkhmjpaa


/-
  The contract of the program's own scan of a table's work (stage 12).
-/
namespace Go.Proofs.Ytpnkkiokkhmjpaa
open Go.RowKit
set_option linter.unusedVariables false
set_option linter.unusedSimpArgs false

/-- What stands from a place on. -/
theorem ts_drop {w : World} {A X : Option Addr} {n cap p : Nat} {t : List Rcd} (h : IsTs w A n t) (hp : p ≤ n) (hc : n ≤ cap) (hX : (if cap = p then A else Option.map (fun x => x.add (p * 6)) A) = X) : IsTs w X (n - p) (t.drop p) := by
  obtain ⟨h1, h2, h3, h4⟩ := h
  refine ⟨by rw [List.length_drop, h1], by omega, fun r hr => h3 r (List.mem_of_mem_drop hr), fun hn => ?_⟩
  obtain ⟨b, off, hA, hb, hat⟩ := h4 (by omega)
  rw [if_neg (by omega), hA] at hX
  refine ⟨b, off + p * 6, by rw [← hX]; simp [addr_add], hb, fun i hi => ?_⟩
  rw [List.length_drop] at hi
  have e : atR (t.drop p) i = atR t (p + i) := by unfold atR; rw [List.getD_eq_getElem?_getD, List.getD_eq_getElem?_getD, List.getElem?_drop]
  have := hat (p + i) (by omega)
  rw [e, show off + p * 6 + i * 6 = off + (p + i) * 6 by omega]
  exact this
/-- May a scan go on over a key? -/
def okS (o : OpR) (k : ByteArray) : Bool := decide (o.upto.size = 0) || ltB k o.upto
theorem atR_drop (t : List Rcd) (p i : Nat) : atR (t.drop p) i = atR t (p + i) := by unfold atR; rw [List.getD_eq_getElem?_getD, List.getD_eq_getElem?_getD, List.getElem?_drop]
theorem scan_exit {t : List Rcd} {o : OpR} {p j : Nat} {th : Bool} (hr : Rise t) (hp : PlaceT t o.key p th) (hj : j ≤ (t.drop p).length) (h5 : j ≤ 5) (hok : ∀ i, i < j → okS o (atR (t.drop p) i).key = true)
    (he : j = (t.drop p).length ∨ j = 5 ∨ okS o (atR (t.drop p) j).key = false) : ((t.drop p).take j).map (·.key) = scanT t o := by
  obtain ⟨hp0, hp1, hp2, _⟩ := hp
  have hin : ∀ i, i < (t.drop p).length → inScan o (atR (t.drop p) i).key = okS o (atR (t.drop p) i).key := fun i hi => by
    rw [atR_drop]
    rw [List.length_drop] at hi
    unfold inScan okS
    rw [hp2 (p + i) (by omega) (by omega)]; rfl
  have h1 : (t.take p).filter (fun r => inScan o r.key) = [] := List.filter_eq_nil_iff.2 fun r hr2 => by
    obtain ⟨i, hi, rfl⟩ := List.getElem_of_mem hr2
    rw [List.length_take] at hi
    have := hp1 i (by omega)
    rw [atR_get (by omega)] at this
    rw [List.getElem_take]
    unfold inScan
    rw [this]; simp
  have h2 : ((t.drop p).take j).filter (fun r => inScan o r.key) = (t.drop p).take j := List.filter_eq_self.2 fun r hr2 => by
    obtain ⟨i, hi, rfl⟩ := List.getElem_of_mem hr2
    rw [List.length_take] at hi
    have a1 := hok i (by omega)
    rw [← hin i (by omega), atR_get (by omega)] at a1
    rw [List.getElem_take]; exact a1
  have hl : ((t.drop p).take j).length = j := by rw [List.length_take]; omega
  have hs : t.filter (fun r => inScan o r.key) = (t.drop p).take j ++ ((t.drop p).drop j).filter (fun r => inScan o r.key) := by
    have e1 : t.filter (fun r => inScan o r.key) = (t.take p).filter (fun r => inScan o r.key) ++ (t.drop p).filter (fun r => inScan o r.key) := by rw [← List.filter_append, List.take_append_drop]
    have e2 : (t.drop p).filter (fun r => inScan o r.key) = ((t.drop p).take j).filter (fun r => inScan o r.key) ++ ((t.drop p).drop j).filter (fun r => inScan o r.key) := by rw [← List.filter_append, List.take_append_drop]
    rw [e1, h1, List.nil_append, e2, h2]
  have ht5 : ((t.drop p).take j).take 5 = (t.drop p).take j := List.take_of_length_le (by rw [hl]; exact h5)
  unfold scanT
  rw [hs]
  rcases he with h | h | h
  · rw [List.drop_of_length_le (by omega : (t.drop p).length ≤ j), List.filter_nil, List.append_nil, ht5]
  · rw [List.take_left' (by rw [hl, h])]
  · by_cases hjl : j < (t.drop p).length
    · have h3 : ((t.drop p).drop j).filter (fun r => inScan o r.key) = [] := List.filter_eq_nil_iff.2 fun r hr2 => by
        obtain ⟨i, hi, rfl⟩ := List.getElem_of_mem hr2
        rw [List.length_drop] at hi
        have e3 : ((t.drop p).drop j)[i] = atR (t.drop p) (j + i) := by rw [List.getElem_drop, atR_get (by omega)]
        rw [e3, hin _ (by omega)]
        unfold okS at h ⊢
        rw [Bool.or_eq_false_iff] at h
        rw [h.1, Bool.false_or]
        rcases Nat.eq_zero_or_pos i with h0 | h0
        · subst h0; rw [Nat.add_zero, h.2]; simp
        · cases e4 : ltB (atR (t.drop p) (j + i)).key o.upto with
          | false => simp
          | true =>
            have a1 := rise_lt hr (i := p + j) (j := p + (j + i)) (by omega) (by simp only [List.length_drop] at hi hjl; omega)
            rw [atR_drop] at e4 h
            rw [lt_trans a1 e4] at h
            cases h.2
      rw [h3, List.append_nil, ht5]
    · rw [List.drop_of_length_le (by omega : (t.drop p).length ≤ j), List.filter_nil, List.append_nil, ht5]
/-- 'append(l, s)', l the call's own. -/
theorem wpList_append_ss {w : World} {ops : Array Oper} {rest : List Oper} {o : Oper} {a : Act} {Q : Exit → Act → World → Prop} (hgd : o.guard = none) (s x : Operand)
    (ho : o.op = .call { callee := .builtin .append, args := #[s, x], argTypes := #[35, 35] })
    (base : Nat) (v : Value) (l : List ByteArray) (hs : a.eval s = v) (hown : RowK w base v l)
    (b c : Nat) (k : ByteArray) (hx : a.eval x = .slice (some ⟨b, 0, none⟩) 1 c) (hf : w.cell? ⟨b, 0, none⟩ = some (.string k))
    (h63 : l.length ≤ 1000) (hbase : base ≤ w.heap.size)
    (h : ∀ A2 cap2 w', RowK w' base (.slice A2 (l.length + 1) cap2) (l ++ [k]) → w.grownBy w' v.ownBlock → wpList Try.prog ops Q rest (a.put o.dst (.slice A2 (l.length + 1) cap2)) w') :
    wpList Try.prog ops Q (o :: rest) a w := by
  refine wpList_plain hgd fun K hK => ?_
  have q := step_append_ss (ops := ops) (K := K) (Q := Q) (E := False) hgd s x ho base v l hs hown b c k hx hf h63 hbase (fun A2 cap2 w' h1 h2 => hK _ _ (h A2 cap2 w' h1 h2))
  rw [if_pos (by simp [Region.wanted, hgd])] at q
  exact q
set_option maxRecDepth 100000 in
set_option maxHeartbeats 8000000 in
theorem scan_any (t : List Rcd) (A : Option Addr) (n cap : Nat) (o : OpR) (p : Nat) (th : Bool) (w : World) (h : WkOk w A n cap t o p th) :
    Calls Try.prog 51 #[wkV A n cap o p th] w (MtPost w A n cap t t ⟨0, 0, ⟨#[]⟩, scanT t o⟩) := by
  have HR := Lib.hid h.2.2.1.rise
  have HPL := Lib.hid h.2.2.2.2
  have hts := h.2.1
  have hcn := h.1
  have h20 : n ≤ 20 := by have := hts.1; have := h.2.2.1.2.2; omega
  have hpn : p ≤ n := by have := hts.1; have := HPL.out.1; omega
  clear h
  obtain ⟨X, hX⟩ : ∃ X, (if cap = p then A else Option.map (fun x => x.add (p * 6)) A) = X := ⟨_, rfl⟩
  have hd0 := ts_drop hts hpn hcn hX
  have HDL : Hid ((t.drop p).length = n - p) := hd0.1.symm
  have hb1 : Below w.heap.size w (w.alloc (.cells #[.slice A n cap, .int .i64 o.kind, .string o.key, .string o.value, .int .i64 o.rev, .string o.upto, .int .i64 o.life, .string o.note, .int .i64 p, .bool th] 62)) := (Below.refl _ _).alloc (Nat.le_refl _) _
  have hb2 : Below w.heap.size w ((w.alloc (.cells #[.slice A n cap, .int .i64 o.kind, .string o.key, .string o.value, .int .i64 o.rev, .string o.upto, .int .i64 o.life, .string o.note, .int .i64 p, .bool th] 62)).alloc (.cells #[.int .i64 0, .int .i64 0, .string ⟨#[]⟩, .slice none 0 0] 37)) := hb1.alloc (by simp) _
  have hwk : WkBlk ((w.alloc (.cells #[.slice A n cap, .int .i64 o.kind, .string o.key, .string o.value, .int .i64 o.rev, .string o.upto, .int .i64 o.life, .string o.note, .int .i64 p, .bool th] 62)).alloc (.cells #[.int .i64 0, .int .i64 0, .string ⟨#[]⟩, .slice none 0 0] 37)) w.heap.size A n cap o p th := (WkBlk.new w A n cap o p th).below ((Below.refl _ _).alloc (Nat.le_refl _) _)
  have hzb : Blk ((w.alloc (.cells #[.slice A n cap, .int .i64 o.kind, .string o.key, .string o.value, .int .i64 o.rev, .string o.upto, .int .i64 o.life, .string o.note, .int .i64 p, .bool th] 62)).alloc (.cells #[.int .i64 0, .int .i64 0, .string ⟨#[]⟩, .slice none 0 0] 37)) (w.heap.size + 1) (.cells #[.int .i64 0, .int .i64 0, .string ⟨#[]⟩, .slice none 0 0] 37 (0, 0)) := by have h := Blk.new (w.alloc (.cells #[.slice A n cap, .int .i64 o.kind, .string o.key, .string o.value, .int .i64 o.rev, .string o.upto, .int .i64 o.life, .string o.note, .int .i64 p, .bool th] 62)) (.cells #[.int .i64 0, .int .i64 0, .string ⟨#[]⟩, .slice none 0 0] 37); rw [World.size_alloc] at h; exact h
  obtain ⟨W0, hW0⟩ : ∃ W, (w.alloc (.cells #[.slice A n cap, .int .i64 o.kind, .string o.key, .string o.value, .int .i64 o.rev, .string o.upto, .int .i64 o.life, .string o.note, .int .i64 p, .bool th] 62)).alloc (.cells #[.int .i64 0, .int .i64 0, .string ⟨#[]⟩, .slice none 0 0] 37) = W := ⟨_, rfl⟩
  rw [hW0] at hb2 hwk hzb
  clear hb1
  have HWK : Hid (WkBlk W0 w.heap.size A n cap o p th) := hwk; clear hwk
  have HZB := Lib.hid hzb; clear hzb
  have HB := Lib.hid hb2; clear hb2
  have HS1 : Hid (w.heap.size + 1 < W0.heap.size) := Blk.lt HZB.out
  unfold wkV
  have HD := Lib.hid (hd0.below HB.out); clear hd0 hts
  have hp0 : (0 : Int) ≤ (p : Int) := by omega
  have hp1 : (p : Int) ≤ (n : Int) := by omega
  obtain ⟨c0, c1, c2, c3, c4, c5, c6, c7, c8, c9⟩ := HWK.out.cells
  go_enter Try.func51, Try.ntmps51
  go_wp2_with fail
  go_loopw [4, 13] (fun kv' i wy => ∃ (j : Nat) (wr : World) (kv : Value), wr = wy ∧ kv' = kv ∧ j ≤ n - p ∧ j ≤ 5 ∧ i = .int .i64 j ∧ RowK wr W0.heap.size kv (((t.drop p).take j).map (·.key)) ∧ (∀ q, q < j → okS o (atR (t.drop p) q).key = true) ∧ Below W0.heap.size W0 wr) (fun _ i _ => n - p - (intOf i).toNat)
  case atStart => exact ⟨0, _, _, rfl, rfl, by omega, by omega, rfl, rowK_nil _ _, (fun q hq => by omega), Below.refl _ _⟩
  case round =>
    clear c0 c1 c2 c3 c4 c5 c6 c7 c8 c9
    obtain ⟨j, wr, kv, rfl, rfl, hj, hj5, rfl, hrk, hok, hb⟩ := hrel
    obtain ⟨kk, hkk⟩ : ∃ kk, ((t.drop p).take j).map (·.key) = kk := ⟨_, rfl⟩
    have HKK := Lib.hid hkk
    rw [hkk] at hrk
    clear hkk
    obtain ⟨Ak, ck, hkv⟩ := own_formK hrk
    have HKL : Hid (kk.length = j) := by show _ = _; rw [← HKK.out, List.length_map, List.length_take]; have := HDL.out; omega
    rw [HKL.out] at hkv
    have HKV := Lib.hid hkv
    have HRK := Lib.hid hrk; clear hrk
    have HOK := Lib.hid hok; clear hok
    have HBW := Lib.hid hb; clear hb
    by_cases hlt : j < n - p
    · obtain ⟨b, off, hXX, _⟩ := HD.out.block (by omega)
      have HXX := Lib.hid hXX
      subst hXX
      obtain ⟨E, m, c, hx, _, _⟩ := HD.out.at (i := j) (by have := HDL.out; omega) HBW.out
      obtain ⟨x0, x1, x2, x3, x4, x5⟩ := hx
      have HTK : Hid ((t.drop p).take (j + 1) = (t.drop p).take j ++ [atR (t.drop p) j]) := take_succR (by have := HDL.out; omega)
      have HOA : Hid (∀ v, okS o (atR (t.drop p) j).key = v → okS o (atR (t.drop p) j).key = v) := fun v h => h
      have hji : (j : Int) < ((n - p : Nat) : Int) := by omega
      have hj0 : (0 : Int) ≤ (j : Int) := by omega
      obtain ⟨r, hr0⟩ : ∃ r, atR (t.drop p) j = r := ⟨_, rfl⟩
      rw [hr0] at x0 x1 x2 x3 x4 HTK HOA
      have HRR := Lib.hid hr0; clear hr0
      have hb1 : Below wr.heap.size wr (wr.alloc (.cells #[.string r.key, .string r.value, .int .i64 r.rev, .int .i64 r.life, .string r.note, .slice E m c] 47)) := (Below.refl _ _).alloc (Nat.le_refl _) _
      have hrb := Blk.new wr (.cells #[.string r.key, .string r.value, .int .i64 r.rev, .int .i64 r.life, .string r.note, .slice E m c] 47)
      subst hkv
      go_upto_region 5 with fail
      clear x0 x1 x2 x3 x4 x5
      obtain ⟨V, hV⟩ : ∃ V, wr.alloc (.cells #[.string r.key, .string r.value, .int .i64 r.rev, .int .i64 r.life, .string r.note, .slice E m c] 47) = V := ⟨_, rfl⟩
      rw [hV] at hb1 hrb ⊢
      clear hV
      have HBV := Lib.hid (bch HBW.out hb1)
      have HRV : Hid (RowK V W0.heap.size (.slice Ak j ck) kk) := HRK.out.below hb1
      clear hb1
      have y0 := Blk.cell hrb 0
      simp only [List.getElem?_toArray, List.getElem?_cons_zero, List.getElem?_cons_succ] at y0
      have HRB := Lib.hid hrb; clear hrb
      obtain ⟨c0, c1, c2, c3, c4, c5, c6, c7, c8, c9⟩ := (HWK.out.below HBV.out).cells
      by_cases h5 : j = 5
      · have e5 : ((j : Int) == 5) = true := by simp; omega
        have H5 := Lib.hid h5; clear h5
        clear c0 c1 c2 c3 c4 c5 c6 c7 c8 c9
        have HE : Hid (((t.drop p).take j).map (·.key) = scanT t o) := scan_exit HR.out HPL.out (by have := HDL.out; omega) (by omega) HOK.out (.inr (.inl H5.out))
        have hro2 := HRV.out
        rw [← HKK.out, HE.out] at hro2
        have HRE := Lib.hid hro2; clear hro2
        have hzx := Blk.below HZB.out HBV.out
        have HBX := Lib.hid (bch HB.out HBV.out)
        obtain ⟨c0, c1, c2, c3, c4, c5, c6, c7, c8, c9⟩ := (HWK.out.below HBV.out).cells
        have z0 := Blk.cell hzx 0
        have z1 := Blk.cell hzx 1
        have z2 := Blk.cell hzx 2
        have z3 := Blk.cell hzx 3
        simp only [List.getElem?_toArray, List.getElem?_cons_zero, List.getElem?_cons_succ] at z0 z1 z2 z3
        have f0 := Blk.frozen hzx 0
        have f1 := Blk.frozen hzx 1
        have f2 := Blk.frozen hzx 2
        have f3 := Blk.frozen hzx 3
        have hfin := rp_put hzx (.int .i64 0) (.int .i64 0) (.string ⟨#[]⟩) (.slice Ak j ck)
        have e0 := Blk.cell hfin 0
        have e1 := Blk.cell hfin 1
        have e2 := Blk.cell hfin 2
        have e3 := Blk.cell hfin 3
        simp only [List.getElem?_toArray, List.getElem?_cons_zero, List.getElem?_cons_succ] at e0 e1 e2 e3
        have HBF := Lib.hid (below_four (g := (w.heap.size + 1)) HBX.out (Nat.le_succ _) (.int .i64 0) (.int .i64 0) (.string ⟨#[]⟩) (.slice Ak j ck))
        have HPF := Lib.hid (TabParts.four (w := w) (u := t) (t := t) (A0 := A) (n0 := n) (cap0 := cap) (ks := scanT t o) (K := (.slice Ak j ck)) ⟨.inl ⟨rfl, rfl⟩, HRE.out⟩ hzx (by decide) HS1.out HB.out.size (.int .i64 0) (.int .i64 0) (.string ⟨#[]⟩) (.slice Ak j ck))
        clear hfin
        go_wp2_with fail
        refine bodyPost_ret (v := .tuple #[.slice A n cap, .agg #[(.int .i64 0), (.int .i64 0), (.string ⟨#[]⟩), (.slice Ak j ck)]]) (by simp [results, Try.results51, go_sem, e0, e1, e2, e3]) rfl ⟨_, _, rfl, HPF.out, HBF.out⟩
      · have e5 : ((j : Int) == 5) = false := by simp; omega
        have hj4 : j < 5 := by omega
        have hcase : (okS o r.key = true ∧ (o.upto.toList = [] ∨ (o.upto.toList.isEmpty = false ∧ o.upto.toList ≠ []) ∧ (!Go.Op.bytesLess r.key.toList o.upto.toList) = false)) ∨ (okS o r.key = false ∧ (o.upto.toList.isEmpty = false ∧ o.upto.toList ≠ []) ∧ (!Go.Op.bytesLess r.key.toList o.upto.toList) = true) := by
          by_cases hu : o.upto.size = 0
          · exact .inl ⟨by unfold okS; simp [hu], .inl ((toList_size _).2 hu)⟩
          · have hu2 : o.upto.toList ≠ [] := fun h2 => hu ((toList_size _).1 h2)
            have hu3 : o.upto.toList.isEmpty = false := by rw [Bool.eq_false_iff]; intro h2; exact hu2 (by simpa using h2)
            cases hl : ltB r.key o.upto with
            | true => exact .inl ⟨by unfold okS; rw [hl]; simp, .inr ⟨⟨hu3, hu2⟩, by rw [show Go.Op.bytesLess r.key.toList o.upto.toList = true from hl]; rfl⟩⟩
            | false => exact .inr ⟨by unfold okS; rw [hl]; simp [hu], ⟨hu3, hu2⟩, by rw [show Go.Op.bytesLess r.key.toList o.upto.toList = false from hl]; rfl⟩
        rcases hcase with ⟨hok1, hcs⟩ | ⟨hok1, ⟨u1, u2⟩, u3⟩
        · have HO1 : Hid (okS o (atR (t.drop p) j).key = true) := by show _ = _; rw [HRR.out]; exact hok1
          clear hok1 HOA
          have HCS := Lib.hid hcs; clear hcs
          have hcut : ∀ (P : Prop), ((o.upto.toList = []) → P) → ((o.upto.toList.isEmpty = false ∧ o.upto.toList ≠ []) ∧ (!Go.Op.bytesLess r.key.toList o.upto.toList) = false → P) → P := fun P h1 h2 => HCS.out.elim h1 h2
          rcases HCS.out with u1 | ⟨⟨u1, u2⟩, u3⟩
          all_goals
            clear hcut
            have hb2 : Below V.heap.size V (V.alloc (.cells #[.string r.key] 9)) := (Below.refl _ _).alloc (Nat.le_refl _) _
            have hrk2 := HRV.out.below hb2
            have hk0 : (V.alloc (.cells #[.string r.key] 9)).cell? ⟨V.heap.size, 0, none⟩ = some (.string r.key) := cell_one_new V _ _
            have hsz2 : W0.heap.size ≤ (V.alloc (.cells #[.string r.key] 9)).heap.size := Nat.le_trans HBV.out.size hb2.size
            have HB2 := Lib.hid (bch HBV.out hb2); clear hb2
            go_wp2_with (at_builtin; refine wpList_append_ss rfl _ _ rfl W0.heap.size _ _ rfl hrk2 V.heap.size 1 r.key rfl hk0 (by have := HKL.out; omega) hsz2 ?_)
            intro A3 cap3 V3 hrow3 hgr3
            rw [HKL.out] at hrow3 ⊢
            have hlt3 := hrk2.lt
            have HB3 : Hid (Below W0.heap.size W0 V3) := HB2.out.grown hgr3 HB2.out.size (fun k hk => (hlt3 k hk).1)
            have HR3 := Lib.hid hrow3
            clear hrow3 hgr3 hlt3 hrk2 hk0 hsz2 c0 c1 c2 c3 c4 c5 c6 c7 c8 c9 y0
            go_wp2_with fail
            go_roundw
            case rel => exact ⟨j + 1, _, _, rfl, rfl, by omega, by omega, by go_num, by rw [HTK.out, List.map_append, HKK.out]; exact HR3.out, fun q hq => by rcases (by omega : q < j ∨ q = j) with h | rfl; exact HOK.out q h; exact HO1.out, HB3.out⟩
            case measure => simp [intOf]; omega
        · have HO1 : Hid (okS o (atR (t.drop p) j).key = false) := by show _ = _; rw [HRR.out]; exact hok1
          clear hok1 HOA
          clear c0 c1 c2 c3 c4 c5 c6 c7 c8 c9
          have HE : Hid (((t.drop p).take j).map (·.key) = scanT t o) := scan_exit HR.out HPL.out (by have := HDL.out; omega) (by omega) HOK.out (.inr (.inr HO1.out))
          have hro2 := HRV.out
          rw [← HKK.out, HE.out] at hro2
          have HRE := Lib.hid hro2; clear hro2
          have hzx := Blk.below HZB.out HBV.out
          have HBX := Lib.hid (bch HB.out HBV.out)
          obtain ⟨c0, c1, c2, c3, c4, c5, c6, c7, c8, c9⟩ := (HWK.out.below HBV.out).cells
          have z0 := Blk.cell hzx 0
          have z1 := Blk.cell hzx 1
          have z2 := Blk.cell hzx 2
          have z3 := Blk.cell hzx 3
          simp only [List.getElem?_toArray, List.getElem?_cons_zero, List.getElem?_cons_succ] at z0 z1 z2 z3
          have f0 := Blk.frozen hzx 0
          have f1 := Blk.frozen hzx 1
          have f2 := Blk.frozen hzx 2
          have f3 := Blk.frozen hzx 3
          have hfin := rp_put hzx (.int .i64 0) (.int .i64 0) (.string ⟨#[]⟩) (.slice Ak j ck)
          have e0 := Blk.cell hfin 0
          have e1 := Blk.cell hfin 1
          have e2 := Blk.cell hfin 2
          have e3 := Blk.cell hfin 3
          simp only [List.getElem?_toArray, List.getElem?_cons_zero, List.getElem?_cons_succ] at e0 e1 e2 e3
          have HBF := Lib.hid (below_four (g := (w.heap.size + 1)) HBX.out (Nat.le_succ _) (.int .i64 0) (.int .i64 0) (.string ⟨#[]⟩) (.slice Ak j ck))
          have HPF := Lib.hid (TabParts.four (w := w) (u := t) (t := t) (A0 := A) (n0 := n) (cap0 := cap) (ks := scanT t o) (K := (.slice Ak j ck)) ⟨.inl ⟨rfl, rfl⟩, HRE.out⟩ hzx (by decide) HS1.out HB.out.size (.int .i64 0) (.int .i64 0) (.string ⟨#[]⟩) (.slice Ak j ck))
          clear hfin
          go_wp2_with fail
          refine bodyPost_ret (v := .tuple #[.slice A n cap, .agg #[(.int .i64 0), (.int .i64 0), (.string ⟨#[]⟩), (.slice Ak j ck)]]) (by simp [results, Try.results51, go_sem, e0, e1, e2, e3]) rfl ⟨_, _, rfl, HPF.out, HBF.out⟩
    · have hje : j = n - p := by omega
      have HJE := Lib.hid hje
      subst hje
      subst hkv
      have hji : ¬ (((n - p : Nat) : Int) < ((n - p : Nat) : Int)) := by omega
      have HE : Hid (((t.drop p).take (n - p)).map (·.key) = scanT t o) := scan_exit HR.out HPL.out (by have := HDL.out; omega) (by omega) HOK.out (.inl HDL.out.symm)
      have hro2 := HRK.out
      rw [← HKK.out, HE.out] at hro2
      have HRE := Lib.hid hro2; clear hro2
      have hzx := Blk.below HZB.out HBW.out
      have HBX := Lib.hid (bch HB.out HBW.out)
      obtain ⟨c0, c1, c2, c3, c4, c5, c6, c7, c8, c9⟩ := (HWK.out.below HBW.out).cells
      have z0 := Blk.cell hzx 0
      have z1 := Blk.cell hzx 1
      have z2 := Blk.cell hzx 2
      have z3 := Blk.cell hzx 3
      simp only [List.getElem?_toArray, List.getElem?_cons_zero, List.getElem?_cons_succ] at z0 z1 z2 z3
      have f0 := Blk.frozen hzx 0
      have f1 := Blk.frozen hzx 1
      have f2 := Blk.frozen hzx 2
      have f3 := Blk.frozen hzx 3
      have hfin := rp_put hzx (.int .i64 0) (.int .i64 0) (.string ⟨#[]⟩) (.slice Ak (n - p) ck)
      have e0 := Blk.cell hfin 0
      have e1 := Blk.cell hfin 1
      have e2 := Blk.cell hfin 2
      have e3 := Blk.cell hfin 3
      simp only [List.getElem?_toArray, List.getElem?_cons_zero, List.getElem?_cons_succ] at e0 e1 e2 e3
      have HBF := Lib.hid (below_four (g := (w.heap.size + 1)) HBX.out (Nat.le_succ _) (.int .i64 0) (.int .i64 0) (.string ⟨#[]⟩) (.slice Ak (n - p) ck))
      have HPF := Lib.hid (TabParts.four (w := w) (u := t) (t := t) (A0 := A) (n0 := n) (cap0 := cap) (ks := scanT t o) (K := (.slice Ak (n - p) ck)) ⟨.inl ⟨rfl, rfl⟩, HRE.out⟩ hzx (by decide) HS1.out HB.out.size (.int .i64 0) (.int .i64 0) (.string ⟨#[]⟩) (.slice Ak (n - p) ck))
      clear hfin
      go_wp2_with fail
      refine bodyPost_ret (v := .tuple #[.slice A n cap, .agg #[(.int .i64 0), (.int .i64 0), (.string ⟨#[]⟩), (.slice Ak (n - p) ck)]]) (by simp [results, Try.results51, go_sem, e0, e1, e2, e3]) rfl ⟨_, _, rfl, HPF.out, HBF.out⟩
end Go.Proofs.Ytpnkkiokkhmjpaa


/-
  What is asked of the program's Do is so (stage 12): does, a map of method values, and Do.
-/
namespace Go.Proofs.Ytpnkkiokkhmjpaa
open Go.RowKit
open Go.Maps (Keyed int_keyed keyOf_int_mk)
set_option linter.unusedVariables false
set_option linter.unusedSimpArgs false

/-- How a method value of one receiver reads: as its function's number. -/
noncomputable def fnW (x : Value) (v : Value) : Option (DataW Unit × List MemPlace) :=
  open Classical in
  if h : ∃ f : Nat, v = .func (.func f) #[x] #[] then some (.lit (.int .i64 (h.choose : Int)), [])
  else if v = .nilFunc then some (.lit (.bool false), []) else none
theorem fnW_fn (x : Value) (f : Nat) : fnW x (.func (.func f) #[x] #[]) = some (.lit (.int .i64 (f : Int)), []) := by
  unfold fnW
  have h : ∃ g : Nat, Value.func (.func f) #[x] #[] = .func (.func g) #[x] #[] := ⟨f, rfl⟩
  rw [dif_pos h]
  have e := h.choose_spec
  injection e with e1
  injection e1 with e2
  rw [← e2]
theorem fnW_nil (x : Value) : fnW x .nilFunc = some (.lit (.bool false), []) := by
  unfold fnW
  rw [dif_neg (fun h => by obtain ⟨f, h⟩ := h; cases h), if_pos rfl]
theorem fnW_inv {x v : Value} {f : Nat} {ps : List MemPlace} (h : fnW x v = some (.lit (.int .i64 (f : Int)), ps)) : v = .func (.func f) #[x] #[] := by
  unfold fnW at h
  split at h
  · rename_i hx
    simp only [Option.some.injEq, Prod.mk.injEq, DataW.lit.injEq, Lit.int.injEq, true_and] at h
    have h3 : hx.choose = f := Int.ofNat.inj h.1
    have e := hx.choose_spec
    rw [h3] at e; exact e
  · split at h
    · simp at h
    · cases h
/-- A store into a map of the call's own. -/
theorem wpList_insert_fnW {P : Program} (w : World) {ops : Array Oper} {rest : List Oper} {o : Oper} {a : Act} {Q : Exit → Act → World → Prop}
    (hg : o.guard = none) (m x v : Operand) (t : TypeId) (hop : o.op = Op.insert t m x v) (k e : TypeId) (K : Keyed P k) (ht : P.underlying t = some (.map k e)) (R : Value → Option (DataW Unit × List MemPlace)) (b n : Nat) (D : DataW Unit)
    (hm : a.eval m = .map (some b)) (hown : w.ownsMap P k R b n D) (hn : n < maxLen) (key val : Value) (kl : Lit) (hx : a.eval x = key) (hv : a.eval v = val) (hkey : keyOf P k key = some kl) (d : DataW Unit) (ps : List MemPlace) (hval : R val = some (d, ps))
    (hK : ∀ w', w'.ownsMap P k R b (n + 1) (D.put kl d) → w.grownBy w' (some b) → wpList P ops Q rest (a.put o.dst undef) w') : wpList P ops Q (o :: rest) a w := by
  obtain ⟨w1, hrun, r1, r2⟩ := hown.update K ht hn hkey hval
  refine wpList_plain hg fun K1 hK1 => ?_
  unfold Oper.wp
  simp [execOp, hop, hm, hx, hv, hrun, Result.andThen]
  exact hK1 _ _ (hK w1 r1 r2)
/-- What does tells: of each kind, which method. -/
def dosD : DataW Unit := ((((((DataW.map []).put (.int .i64 1) (.lit (.int .i64 (46 : Nat)))).put (.int .i64 2) (.lit (.int .i64 (47 : Nat)))).put (.int .i64 3) (.lit (.int .i64 (48 : Nat)))).put (.int .i64 4) (.lit (.int .i64 (49 : Nat)))).put (.int .i64 5) (.lit (.int .i64 (50 : Nat)))).put (.int .i64 6) (.lit (.int .i64 (51 : Nat)))
theorem dosD_1 : dosD.atKey (.int .i64 1) (.lit (.bool false)) = .lit (.int .i64 (46 : Nat)) := by rfl
theorem dosD_2 : dosD.atKey (.int .i64 2) (.lit (.bool false)) = .lit (.int .i64 (47 : Nat)) := by rfl
theorem dosD_3 : dosD.atKey (.int .i64 3) (.lit (.bool false)) = .lit (.int .i64 (48 : Nat)) := by rfl
theorem dosD_4 : dosD.atKey (.int .i64 4) (.lit (.bool false)) = .lit (.int .i64 (49 : Nat)) := by rfl
theorem dosD_5 : dosD.atKey (.int .i64 5) (.lit (.bool false)) = .lit (.int .i64 (50 : Nat)) := by rfl
theorem dosD_6 : dosD.atKey (.int .i64 6) (.lit (.bool false)) = .lit (.int .i64 (51 : Nat)) := by rfl
theorem cfDo1 (args : Array Value) (w : World) : (callFunc 46 args).run Try.prog w = .ok (.enter 46 args) w := run_callFunc_bodyT Try.func46 (by kernel_rfl) (by kernel_rfl) args w
theorem cfDo2 (args : Array Value) (w : World) : (callFunc 47 args).run Try.prog w = .ok (.enter 47 args) w := run_callFunc_bodyT Try.func47 (by kernel_rfl) (by kernel_rfl) args w
theorem cfDo3 (args : Array Value) (w : World) : (callFunc 48 args).run Try.prog w = .ok (.enter 48 args) w := run_callFunc_bodyT Try.func48 (by kernel_rfl) (by kernel_rfl) args w
theorem cfDo4 (args : Array Value) (w : World) : (callFunc 49 args).run Try.prog w = .ok (.enter 49 args) w := run_callFunc_bodyT Try.func49 (by kernel_rfl) (by kernel_rfl) args w
theorem cfDo5 (args : Array Value) (w : World) : (callFunc 50 args).run Try.prog w = .ok (.enter 50 args) w := run_callFunc_bodyT Try.func50 (by kernel_rfl) (by kernel_rfl) args w
theorem cfDo6 (args : Array Value) (w : World) : (callFunc 51 args).run Try.prog w = .ok (.enter 51 args) w := run_callFunc_bodyT Try.func51 (by kernel_rfl) (by kernel_rfl) args w
theorem zeroDoing (w : World) : (zeroValue 59).run Try.prog w = .ok .nilFunc w := by kernel_rfl
def DoesPost (w : World) (x : Value) (e : Ending) (w' : World) : Prop :=
  ∃ b, e = .returned (.map (some b)) ∧ w'.ownsMap Try.prog 3 (fnW x) b 6 dosD ∧ Below w.heap.size w w'
set_option maxRecDepth 100000 in
set_option maxHeartbeats 8000000 in
theorem does_any (A : Option Addr) (n cap : Nat) (o : OpR) (p : Nat) (th : Bool) (w : World) : Calls Try.prog 31 #[wkV A n cap o p th] w (DoesPost w (wkV A n cap o p th)) := by
  have hmm := @run_makeMap Try.prog
  have hb1 : Below w.heap.size w (w.alloc (.cells #[.slice A n cap, .int .i64 o.kind, .string o.key, .string o.value, .int .i64 o.rev, .string o.upto, .int .i64 o.life, .string o.note, .int .i64 p, .bool th] 62)) := (Below.refl _ _).alloc (Nat.le_refl _) _
  have hb2 : Below w.heap.size w ((w.alloc (.cells #[.slice A n cap, .int .i64 o.kind, .string o.key, .string o.value, .int .i64 o.rev, .string o.upto, .int .i64 o.life, .string o.note, .int .i64 p, .bool th] 62)).alloc (.map #[] 0)) := hb1.alloc (by simp) _
  have hwk0 : WkBlk ((w.alloc (.cells #[.slice A n cap, .int .i64 o.kind, .string o.key, .string o.value, .int .i64 o.rev, .string o.upto, .int .i64 o.life, .string o.note, .int .i64 p, .bool th] 62)).alloc (.map #[] 0)) w.heap.size A n cap o p th := (WkBlk.new w A n cap o p th).below ((Below.refl _ _).alloc (Nat.le_refl _) _)
  have h0 : ((w.alloc (.cells #[.slice A n cap, .int .i64 o.kind, .string o.key, .string o.value, .int .i64 o.rev, .string o.upto, .int .i64 o.life, .string o.note, .int .i64 p, .bool th] 62)).alloc (.map #[] 0)).ownsMap Try.prog 3 (fnW (wkV A n cap o p th)) (w.heap.size + 1) 0 (.map []) := by have h := World.ownsMap_made (P := Try.prog) (k := 3) (R := fnW (wkV A n cap o p th)) (w.alloc (.cells #[.slice A n cap, .int .i64 o.kind, .string o.key, .string o.value, .int .i64 o.rev, .string o.upto, .int .i64 o.life, .string o.note, .int .i64 p, .bool th] 62)); rw [World.size_alloc] at h; exact h
  obtain ⟨c0, c1, c2, c3, c4, c5, c6, c7, c8, c9⟩ := (WkBlk.new w A n cap o p th).cells
  obtain ⟨a0, a1, a2, a3, a4, a5, a6, a7, a8, a9⟩ := hwk0.cells
  have HWK0 : Hid (WkBlk ((w.alloc (.cells #[.slice A n cap, .int .i64 o.kind, .string o.key, .string o.value, .int .i64 o.rev, .string o.upto, .int .i64 o.life, .string o.note, .int .i64 p, .bool th] 62)).alloc (.map #[] 0)) w.heap.size A n cap o p th) := hwk0; clear hwk0
  have HB0 := Lib.hid hb2; clear hb1 hb2
  have hx0 : wkV A n cap o p th = .agg #[.slice A n cap, .int .i64 o.kind, .string o.key, .string o.value, .int .i64 o.rev, .string o.upto, .int .i64 o.life, .string o.note, .int .i64 p, .bool th] := rfl
  obtain ⟨X, hX⟩ : ∃ X, wkV A n cap o p th = X := ⟨_, rfl⟩
  rw [hX] at h0
  have HX : Hid (∀ f : Nat, fnW X (.func (.func f) #[.agg #[.slice A n cap, .int .i64 o.kind, .string o.key, .string o.value, .int .i64 o.rev, .string o.upto, .int .i64 o.life, .string o.note, .int .i64 p, .bool th]] #[]) = some (.lit (.int .i64 (f : Int)), [])) := fun f => by rw [← hx0, hX]; exact fnW_fn X f
  have HXX := Lib.hid hX
  have HGOAL : Hid (∀ e w', DoesPost w X e w' → DoesPost w (wkV A n cap o p th) e w') := fun e w' h => by rw [hX]; exact h
  clear hX hx0
  unfold wkV
  go_enter Try.func31, Try.ntmps31
  go_wp2_with (refine wpList_insert_fnW _ rfl _ _ _ 60 rfl 3 59 (int_keyed Try.underlying3) Try.underlying60 (fnW X) (w.heap.size + 1) 0 _ rfl h0 (by unfold maxLen; omega) _ _ (.int .i64 1) rfl rfl (keyOf_int_mk Try.underlying3 (by decide)) (.lit (.int .i64 (46 : Nat))) [] (HX.out _) ?_)
  intro w1 h1 g1
  clear h0 c0 c1 c2 c3 c4 c5 c6 c7 c8 c9 a0 a1 a2 a3 a4 a5 a6 a7 a8 a9
  have HWK1 : Hid (WkBlk w1 w.heap.size A n cap o p th) := Blk.kept HWK0.out g1 (by simp)
  have HB1 : Hid (Below w.heap.size w w1) := HB0.out.grown g1 HB0.out.size (fun q hq => by cases hq; exact Nat.le_succ _)
  clear g1
  obtain ⟨a0, a1, a2, a3, a4, a5, a6, a7, a8, a9⟩ := HWK1.out.cells
  go_wp2_with (refine wpList_insert_fnW _ rfl _ _ _ 60 rfl 3 59 (int_keyed Try.underlying3) Try.underlying60 (fnW X) (w.heap.size + 1) 1 _ rfl h1 (by unfold maxLen; omega) _ _ (.int .i64 2) rfl rfl (keyOf_int_mk Try.underlying3 (by decide)) (.lit (.int .i64 (47 : Nat))) [] (HX.out _) ?_)
  intro w2 h2 g2
  clear h1 a0 a1 a2 a3 a4 a5 a6 a7 a8 a9
  have HWK2 : Hid (WkBlk w2 w.heap.size A n cap o p th) := Blk.kept HWK1.out g2 (by simp)
  have HB2 : Hid (Below w.heap.size w w2) := HB1.out.grown g2 HB1.out.size (fun q hq => by cases hq; exact Nat.le_succ _)
  clear g2
  obtain ⟨a0, a1, a2, a3, a4, a5, a6, a7, a8, a9⟩ := HWK2.out.cells
  go_wp2_with (refine wpList_insert_fnW _ rfl _ _ _ 60 rfl 3 59 (int_keyed Try.underlying3) Try.underlying60 (fnW X) (w.heap.size + 1) 2 _ rfl h2 (by unfold maxLen; omega) _ _ (.int .i64 3) rfl rfl (keyOf_int_mk Try.underlying3 (by decide)) (.lit (.int .i64 (48 : Nat))) [] (HX.out _) ?_)
  intro w3 h3 g3
  clear h2 a0 a1 a2 a3 a4 a5 a6 a7 a8 a9
  have HWK3 : Hid (WkBlk w3 w.heap.size A n cap o p th) := Blk.kept HWK2.out g3 (by simp)
  have HB3 : Hid (Below w.heap.size w w3) := HB2.out.grown g3 HB2.out.size (fun q hq => by cases hq; exact Nat.le_succ _)
  clear g3
  obtain ⟨a0, a1, a2, a3, a4, a5, a6, a7, a8, a9⟩ := HWK3.out.cells
  go_wp2_with (refine wpList_insert_fnW _ rfl _ _ _ 60 rfl 3 59 (int_keyed Try.underlying3) Try.underlying60 (fnW X) (w.heap.size + 1) 3 _ rfl h3 (by unfold maxLen; omega) _ _ (.int .i64 4) rfl rfl (keyOf_int_mk Try.underlying3 (by decide)) (.lit (.int .i64 (49 : Nat))) [] (HX.out _) ?_)
  intro w4 h4 g4
  clear h3 a0 a1 a2 a3 a4 a5 a6 a7 a8 a9
  have HWK4 : Hid (WkBlk w4 w.heap.size A n cap o p th) := Blk.kept HWK3.out g4 (by simp)
  have HB4 : Hid (Below w.heap.size w w4) := HB3.out.grown g4 HB3.out.size (fun q hq => by cases hq; exact Nat.le_succ _)
  clear g4
  obtain ⟨a0, a1, a2, a3, a4, a5, a6, a7, a8, a9⟩ := HWK4.out.cells
  go_wp2_with (refine wpList_insert_fnW _ rfl _ _ _ 60 rfl 3 59 (int_keyed Try.underlying3) Try.underlying60 (fnW X) (w.heap.size + 1) 4 _ rfl h4 (by unfold maxLen; omega) _ _ (.int .i64 5) rfl rfl (keyOf_int_mk Try.underlying3 (by decide)) (.lit (.int .i64 (50 : Nat))) [] (HX.out _) ?_)
  intro w5 h5 g5
  clear h4 a0 a1 a2 a3 a4 a5 a6 a7 a8 a9
  have HWK5 : Hid (WkBlk w5 w.heap.size A n cap o p th) := Blk.kept HWK4.out g5 (by simp)
  have HB5 : Hid (Below w.heap.size w w5) := HB4.out.grown g5 HB4.out.size (fun q hq => by cases hq; exact Nat.le_succ _)
  clear g5
  obtain ⟨a0, a1, a2, a3, a4, a5, a6, a7, a8, a9⟩ := HWK5.out.cells
  go_wp2_with (refine wpList_insert_fnW _ rfl _ _ _ 60 rfl 3 59 (int_keyed Try.underlying3) Try.underlying60 (fnW X) (w.heap.size + 1) 5 _ rfl h5 (by unfold maxLen; omega) _ _ (.int .i64 6) rfl rfl (keyOf_int_mk Try.underlying3 (by decide)) (.lit (.int .i64 (51 : Nat))) [] (HX.out _) ?_)
  intro w6 h6 g6
  clear h5 a0 a1 a2 a3 a4 a5 a6 a7 a8 a9
  have HWK6 : Hid (WkBlk w6 w.heap.size A n cap o p th) := Blk.kept HWK5.out g6 (by simp)
  have HB6 : Hid (Below w.heap.size w w6) := HB5.out.grown g6 HB5.out.size (fun q hq => by cases hq; exact Nat.le_succ _)
  clear g6
  obtain ⟨a0, a1, a2, a3, a4, a5, a6, a7, a8, a9⟩ := HWK6.out.cells
  go_wp2_with fail
  go_ret
  exact HGOAL.out _ _ ⟨w.heap.size + 1, rfl, h6, HB6.out⟩
theorem upPut (o : OpR) (r : Rcd) : upR1 (chgV o r) = putR r o := rfl
theorem upMark (o : OpR) (r : Rcd) : upR1 (chgM o r) = markR r o := rfl
theorem upNew (o : OpR) : upR1 (chgV o (keyR0 o)) = newR o := rfl
theorem wr_put {t : List Rcd} {o : OpR} {p : Nat} {th : Bool} (h : RightT t) (hp : PlaceT t o.key p th) : wrU (chgV o) t o p th = putT t (idxT t o.key) o := by
  cases th with
  | true =>
    rw [(place_yes hp).2.2]
    unfold wrU fullW putT
    simp only [if_true]
    by_cases hm : (atR t p).rev = maxN
    · rw [if_pos (by simpa using hm), if_pos hm]
    · rw [if_neg (by simpa using hm), if_neg hm, upPut]; rfl
  | false =>
    have hn := place_no h.rise hp
    rw [hn]
    unfold wrU fullW putT
    by_cases hl : t.length = 20
    · rw [if_pos (by simp [hl])]; simp only; rw [if_pos (by omega)]
    · have := h.2.2
      rw [if_neg (by simp [hl]), if_neg Bool.false_ne_true]; simp only; rw [if_neg (by omega), place_ins hp.1 hp.2.1 hp.2.2.1 (idx_none hn), upNew]; rfl
theorem revW_rev {t : List Rcd} {o : OpR} {p : Nat} {th : Bool} (h : RightT t) (hp : PlaceT t o.key p th) : revW t p th = revT t (idxT t o.key) := by
  cases th with
  | true => rw [(place_yes hp).2.2]; rfl
  | false => rw [place_no h.rise hp]; rfl
/-- What each method is asked for. -/
def MethT (FN : Nat) (t : List Rcd) (o : OpR) : Prop := ∀ (A : Option Addr) (n cap p : Nat) (th : Bool) (W : World), WkOk W A n cap t o p th →
  Calls Try.prog FN #[wkV A n cap o p th] W (MtPost W A n cap t (doT t o).1 (doT t o).2)
theorem meth_kind {t : List Rcd} {o : OpR} (hr : RightT t) (hc : checkO 2 o = 0) : ∃ FN : Nat, dosD.atKey (.int .i64 o.kind) (.lit (.bool false)) = .lit (.int .i64 (FN : Int)) ∧
    (∀ (args : Array Value) (W : World), (callFunc FN args).run Try.prog W = .ok (.enter FN args) W) ∧ MethT FN t o := by
  have hk := (op_ok hc).1
  have hd := doT_ok ⟨hr, hc⟩
  rcases (by omega : o.kind = 1 ∨ o.kind = 2 ∨ o.kind = 3 ∨ o.kind = 4 ∨ o.kind = 5 ∨ o.kind = 6) with e | e | e | e | e | e
  · refine ⟨46, by rw [e]; exact dosD_1, cfDo1, fun A n cap p th W h => ?_⟩
    have q := get_any t A n cap o p th W h
    have he : doT t o = (t, getR t p th) := by
      rw [hd, if_neg (by omega), if_neg (by omega), if_neg (by omega)]
      have hp := h.2.2.2.2
      cases th with
      | true => rw [(place_yes hp).2.2]; simp only; rw [if_pos e]; rfl
      | false => rw [place_no hr.rise hp]; rfl
    rw [he]; exact q
  · refine ⟨47, by rw [e]; exact dosD_2, cfDo2, fun A n cap p th W h => ?_⟩
    have q := put_any t A n cap o p th W h
    have he : doT t o = wrU (chgV o) t o p th := by
      rw [hd, if_neg (by omega), if_pos e, wr_put hr h.2.2.2.2]
    rw [he]; exact q
  · refine ⟨48, by rw [e]; exact dosD_3, cfDo3, fun A n cap p th W h => ?_⟩
    have q := remove_any t A n cap o p th W h
    have he : doT t o = remU t p th := by
      rw [hd, if_neg (by omega), if_neg (by omega), if_neg (by omega)]
      have hp := h.2.2.2.2
      cases th with
      | true => rw [(place_yes hp).2.2]; simp only; rw [if_neg (by omega), if_pos e]; rfl
      | false => rw [place_no hr.rise hp]; rfl
    rw [he]; exact q
  · refine ⟨49, by rw [e]; exact dosD_4, cfDo4, fun A n cap p th W h => ?_⟩
    have q := cas_any t A n cap o p th W h
    have he : doT t o = casU t o p th := by
      rw [hd, if_neg (by omega), if_neg (by omega), if_pos e]
      unfold casU
      rw [revW_rev hr h.2.2.2.2, wr_put hr h.2.2.2.2]
      by_cases hv : revT t (idxT t o.key) = o.rev
      · rw [if_neg (fun h => h hv), if_pos hv]
      · rw [if_pos hv, if_neg hv]; rfl
    rw [he]; exact q
  · refine ⟨50, by rw [e]; exact dosD_5, cfDo5, fun A n cap p th W h => ?_⟩
    have q := mark_any t A n cap o p th W h
    have he : doT t o = markU t o p th := by
      rw [hd, if_neg (by omega), if_neg (by omega), if_neg (by omega)]
      have hp := h.2.2.2.2
      cases th with
      | true =>
        rw [(place_yes hp).2.2]; simp only; rw [if_neg (by omega), if_neg (by omega)]
        unfold markU wrU fullW
        simp only [if_true]
        by_cases hm : (atR t p).rev = maxN
        · rw [if_pos hm, if_pos (by simpa using hm)]
        · rw [if_neg hm, if_neg (by simpa using hm), upMark]; rfl
      | false => rw [place_no hr.rise hp]; rfl
    rw [he]; exact q
  · refine ⟨51, by rw [e]; exact dosD_6, cfDo6, fun A n cap p th W h => ?_⟩
    have q := scan_any t A n cap o p th W h
    have he : doT t o = (t, ⟨0, 0, ⟨#[]⟩, scanT t o⟩) := by rw [hd, if_pos e]; rfl
    rw [he]; exact q
theorem do_keys {t : List Rcd} (h : ∀ r ∈ t, RcW r) (o : OpR) : ∀ s ∈ (doT t o).2.keys, s.size ≤ maxLen := by
  have hs : ∀ s ∈ scanT t o, s.size ≤ maxLen := fun s hs => by
    unfold scanT at hs
    obtain ⟨r, hr, rfl⟩ := List.mem_map.1 hs
    have hr2 := (List.mem_filter.1 (List.mem_of_mem_take hr)).1
    have := (h r hr2).1.1
    unfold maxLen; omega
  have hp : ∀ k, (putT t k o).2.keys = [] := fun k => put_keys t k o
  intro s hm
  by_cases hb : RightT t ∧ checkO 2 o = 0
  · rw [doT_ok hb] at hm
    split at hm
    · exact hs s hm
    · split at hm
      · rw [hp] at hm; cases hm
      · split at hm
        · split at hm
          · cases hm
          · rw [hp] at hm; cases hm
        · split at hm
          · cases hm
          · split at hm
            · cases hm
            · split at hm
              · cases hm
              · split at hm
                · cases hm
                · cases hm
  · rw [doT_bad hb] at hm; cases hm
set_option maxRecDepth 100000 in
set_option maxHeartbeats 8000000 in
theorem do12_any (t : List Rcd) (o : OpR) (A : Option Addr) (n cap : Nat) (w : World) (ho : OpWf o) (hc : n ≤ cap) (ht : IsTs w A n t) :
    Calls Try.prog 16 #[.slice A n cap, opV o] w (DoPost w (doT t o).1 (doT t o).2) := by
  have HT := Lib.hid ht; clear ht
  have HC := Lib.hid hc; clear hc
  have HO := Lib.hid ho; clear ho
  have hb1 : Below w.heap.size w (w.alloc (.cells #[.int .i64 o.kind, .string o.key, .string o.value, .int .i64 o.rev, .string o.upto, .int .i64 o.life, .string o.note] 26)) := (Below.refl _ _).alloc (Nat.le_refl _) _
  have hb2 : Below w.heap.size w ((w.alloc (.cells #[.int .i64 o.kind, .string o.key, .string o.value, .int .i64 o.rev, .string o.upto, .int .i64 o.life, .string o.note] 26)).alloc (.cells #[.int .i64 0, .int .i64 0, .string ⟨#[]⟩, .slice none 0 0] 37)) := hb1.alloc (by simp) _
  have hob : OpBlk ((w.alloc (.cells #[.int .i64 o.kind, .string o.key, .string o.value, .int .i64 o.rev, .string o.upto, .int .i64 o.life, .string o.note] 26)).alloc (.cells #[.int .i64 0, .int .i64 0, .string ⟨#[]⟩, .slice none 0 0] 37)) w.heap.size o := (OpBlk.new w o).below ((Below.refl _ _).alloc (Nat.le_refl _) _)
  have hzb : Blk ((w.alloc (.cells #[.int .i64 o.kind, .string o.key, .string o.value, .int .i64 o.rev, .string o.upto, .int .i64 o.life, .string o.note] 26)).alloc (.cells #[.int .i64 0, .int .i64 0, .string ⟨#[]⟩, .slice none 0 0] 37)) (w.heap.size + 1) (.cells #[.int .i64 0, .int .i64 0, .string ⟨#[]⟩, .slice none 0 0] 37 (0, 0)) := by have h := Blk.new (w.alloc (.cells #[.int .i64 o.kind, .string o.key, .string o.value, .int .i64 o.rev, .string o.upto, .int .i64 o.life, .string o.note] 26)) (.cells #[.int .i64 0, .int .i64 0, .string ⟨#[]⟩, .slice none 0 0] 37); rw [World.size_alloc] at h; exact h
  obtain ⟨W0, hW0⟩ : ∃ W, (w.alloc (.cells #[.int .i64 o.kind, .string o.key, .string o.value, .int .i64 o.rev, .string o.upto, .int .i64 o.life, .string o.note] 26)).alloc (.cells #[.int .i64 0, .int .i64 0, .string ⟨#[]⟩, .slice none 0 0] 37) = W := ⟨_, rfl⟩
  rw [hW0] at hb2 hob hzb
  clear hb1
  have HOB : Hid (OpBlk W0 w.heap.size o) := hob; clear hob
  have HZB := Lib.hid hzb; clear hzb
  have HB := Lib.hid hb2; clear hb2
  have HS1 : Hid (w.heap.size + 1 < W0.heap.size) := Blk.lt HZB.out
  have qr := right12_any t A n cap W0 (HT.out.below HB.out)
  unfold opV
  by_cases hr : RightT t
  rotate_left
  · have HE : Hid (doT t o = (t, faultR 1)) := doT_bad (fun h => hr h.1)
    rw [rightT_no hr] at qr
    clear hr
    obtain ⟨c0, c1, c2, c3, c4, c5, c6⟩ := HOB.out.cells
    go_enter Try.func16, Try.ntmps16
    go_wp2_with fail
    ((with_reducible refine qr.mono ?_); rintro e W1 ⟨rfl, b1⟩)
    have hz1 := Blk.below HZB.out b1
    have HB1 := Lib.hid (bch HB.out b1)
    clear qr b1 c0 c1 c2 c3 c4 c5 c6
    have z0 := Blk.cell hz1 0
    have z1 := Blk.cell hz1 1
    have z2 := Blk.cell hz1 2
    have z3 := Blk.cell hz1 3
    simp only [List.getElem?_toArray, List.getElem?_cons_zero, List.getElem?_cons_succ] at z0 z1 z2 z3
    have f0 := Blk.frozen hz1 0
    have f1 := Blk.frozen hz1 1
    have f2 := Blk.frozen hz1 2
    have f3 := Blk.frozen hz1 3
    have hfin := rp_put hz1 (.int .i64 1) (.int .i64 0) (.string ⟨#[]⟩) (.slice none 0 0)
    have e0 := Blk.cell hfin 0
    have e1 := Blk.cell hfin 1
    have e2 := Blk.cell hfin 2
    have e3 := Blk.cell hfin 3
    simp only [List.getElem?_toArray, List.getElem?_cons_zero, List.getElem?_cons_succ] at e0 e1 e2 e3
    have HBF := Lib.hid (below_four (g := (w.heap.size + 1)) HB1.out (Nat.le_succ _) (.int .i64 1) (.int .i64 0) (.string ⟨#[]⟩) (.slice none 0 0))
    clear hfin
    go_wp2_with fail
    refine bodyPost_ret (v := .tuple #[.slice A n cap, .agg #[(.int .i64 1), (.int .i64 0), (.string ⟨#[]⟩), (.slice none 0 0)]]) (by simp [results, Try.results16, go_sem, e0, e1, e2, e3]) rfl (by rw [HE.out]; exact (mtPost_same (A := A) (n := n) (cap := cap) (t := t) (r := faultR 1) rfl HBF.out).doPost HC.out HT.out (fun s h => nomatch h))
  rw [rightT_iff.2 hr] at qr
  have HRT := Lib.hid hr
  have qc := fun W => check12_any 2 o W
  unfold opV at qc
  by_cases hk : checkO 2 o = 0
  rotate_left
  · have HE : Hid (doT t o = (t, faultR 1)) := doT_bad (fun h => hk h.2)
    have ek : (((checkO 2 o : Nat) : Int) != 0) = true := by simp; omega
    clear hr hk
    generalize ((checkO 2 o : Nat) : Int) = z at *
    obtain ⟨c0, c1, c2, c3, c4, c5, c6⟩ := HOB.out.cells
    go_enter Try.func16, Try.ntmps16
    go_wp2_with fail
    ((with_reducible refine qr.mono ?_); rintro e W1 ⟨rfl, b1⟩)
    have ho1 := OpBlk.below HOB.out b1
    have hz1 := Blk.below HZB.out b1
    have HB1 := Lib.hid (bch HB.out b1)
    clear qr b1 c0 c1 c2 c3 c4 c5 c6
    obtain ⟨c0, c1, c2, c3, c4, c5, c6⟩ := ho1.cells
    go_wp2_with fail
    ((with_reducible refine (qc _).mono ?_); rintro e W2 ⟨rfl, b2⟩)
    have hz2 := Blk.below hz1 b2
    have HB2 := Lib.hid (bch HB1.out b2)
    clear qc b2 hz1 ho1 c0 c1 c2 c3 c4 c5 c6
    have z0 := Blk.cell hz2 0
    have z1 := Blk.cell hz2 1
    have z2 := Blk.cell hz2 2
    have z3 := Blk.cell hz2 3
    simp only [List.getElem?_toArray, List.getElem?_cons_zero, List.getElem?_cons_succ] at z0 z1 z2 z3
    have f0 := Blk.frozen hz2 0
    have f1 := Blk.frozen hz2 1
    have f2 := Blk.frozen hz2 2
    have f3 := Blk.frozen hz2 3
    have hfin := rp_put hz2 (.int .i64 1) (.int .i64 0) (.string ⟨#[]⟩) (.slice none 0 0)
    have e0 := Blk.cell hfin 0
    have e1 := Blk.cell hfin 1
    have e2 := Blk.cell hfin 2
    have e3 := Blk.cell hfin 3
    simp only [List.getElem?_toArray, List.getElem?_cons_zero, List.getElem?_cons_succ] at e0 e1 e2 e3
    have HBF := Lib.hid (below_four (g := (w.heap.size + 1)) HB2.out (Nat.le_succ _) (.int .i64 1) (.int .i64 0) (.string ⟨#[]⟩) (.slice none 0 0))
    clear hfin
    go_wp2_with fail
    refine bodyPost_ret (v := .tuple #[.slice A n cap, .agg #[(.int .i64 1), (.int .i64 0), (.string ⟨#[]⟩), (.slice none 0 0)]]) (by simp [results, Try.results16, go_sem, e0, e1, e2, e3]) rfl (by rw [HE.out]; exact (mtPost_same (A := A) (n := n) (cap := cap) (t := t) (r := faultR 1) rfl HBF.out).doPost HC.out HT.out (fun s h => nomatch h))
  obtain ⟨FN, hat, hcf, hme⟩ := meth_kind hr hk
  have hkw : (Lit.int .i64 o.kind).wf = true := HO.out.1
  have HKS : Hid (∀ s ∈ (doT t o).2.keys, s.size ≤ maxLen) := do_keys HT.out.2.2.1 o
  have H20 : Hid (n ≤ 20) := by have := HT.out.1; have := hr.2.2; show n ≤ 20; omega
  rw [hk] at qc
  clear hr hk
  unfold MethT at hme
  generalize (doT t o).1 = U at *
  generalize (doT t o).2 = R at *
  have qr2 : Calls Try.prog 20 #[.slice A n cap] W0 (fun e w' => e = .returned (.bool true) ∧ Below W0.heap.size W0 w') := qr
  clear qr
  obtain ⟨c0, c1, c2, c3, c4, c5, c6⟩ := HOB.out.cells
  go_enter Try.func16, Try.ntmps16
  go_wp2_with fail
  ((with_reducible refine qr2.mono ?_); rintro e W1 ⟨rfl, b1⟩)
  have ho1 := OpBlk.below HOB.out b1
  have hz1 := Blk.below HZB.out b1
  have HB1 := Lib.hid (bch HB.out b1)
  clear qr2 b1 c0 c1 c2 c3 c4 c5 c6
  obtain ⟨c0, c1, c2, c3, c4, c5, c6⟩ := ho1.cells
  go_wp2_with fail
  ((with_reducible refine (qc _).mono ?_); rintro e V1 ⟨rfl, b2⟩)
  have HZ1 := Lib.hid (Blk.below hz1 b2)
  have HO1 : Hid (OpBlk V1 w.heap.size o) := OpBlk.below ho1 b2
  have HBV := Lib.hid (bch HB1.out b2)
  clear qc b2 hz1 ho1 c0 c1 c2 c3 c4 c5 c6
  have HS2 : Hid (w.heap.size + 1 < V1.heap.size) := Blk.lt HZ1.out
  have qb : ∀ W, Below V1.heap.size V1 W → Calls Try.prog 30 #[.slice A n cap, opV o] W (BegPost W A n cap t o) := fun W hb => begin_any t o A n cap W (HT.out.below (bch HBV.out hb)) HRT.out.rise H20.out
  unfold opV at qb
  go_upto_region 3 with fail
  refine wp_region_noPanic ?_
  refine wp_region_till (S := (fun W => Below V1.heap.size V1 W)) [11] (by kernel_rfl) ((Below.refl _ _).drew) (fun hHeld => ?_)
  refine wpTill_take (i := 0) (v := ?_) rfl (by kernel_rfl) (by kernel_rfl) (by kernel_rfl) (by kernel_rfl) (fun _ _ _ h => h) (Or.inl ⟨by rfl, ?_⟩) (by assumption) ?_
  rotate_left
  · (intro w hSw; (try dsimp only at hSw); go_simp; (try with_reducible rfl))
  simp only [Act.put, List.getElem_toArray, List.getElem_cons_zero, List.setIfInBounds_toArray, List.set_cons_zero, List.set_cons_succ]
  refine wpTill_take (i := 1) (v := ?_) rfl (by kernel_rfl) (by kernel_rfl) (by kernel_rfl) (by kernel_rfl) (fun _ _ _ h => h) (Or.inl ⟨by rfl, ?_⟩) (by assumption) ?_
  rotate_left
  · (intro w hSw; (try dsimp only at hSw); obtain ⟨c0, c1, c2, c3, c4, c5, c6⟩ := (OpBlk.below HO1.out hSw).cells; go_simp; (try with_reducible rfl))
  simp only [Act.put, List.getElem_toArray, List.getElem_cons_zero, List.getElem_cons_succ, List.setIfInBounds_toArray, List.set_cons_zero, List.set_cons_succ]
  refine wpTill_take (i := 4) (v := ?_) rfl (by kernel_rfl) (by kernel_rfl) (by kernel_rfl) (by kernel_rfl) (fun _ _ _ h => h) (Or.inl ⟨by rfl, ?_⟩) (by assumption) ?_
  rotate_left
  · (intro w hSw; (try dsimp only at hSw); go_simp; (try with_reducible rfl))
  simp only [Act.put, List.getElem_toArray, List.getElem_cons_zero, List.getElem_cons_succ, List.setIfInBounds_toArray, List.set_cons_zero, List.set_cons_succ]
  refine wpTill_take (i := 5) (v := ?_) rfl (by kernel_rfl) (by kernel_rfl) (by kernel_rfl) (by kernel_rfl) (fun _ _ _ h => h) (Or.inl ⟨by rfl, ?_⟩) (by assumption) ?_
  rotate_left
  · (intro w hSw; (try dsimp only at hSw); obtain ⟨c0, c1, c2, c3, c4, c5, c6⟩ := (OpBlk.below HO1.out hSw).cells; go_simp; (try with_reducible rfl))
  simp only [Act.put, List.getElem_toArray, List.getElem_cons_zero, List.getElem_cons_succ, List.setIfInBounds_toArray, List.set_cons_zero, List.set_cons_succ]
  refine wpTill_ready (rs := [2]) (by kernel_rfl) (by simp) ?_
  refine AllReadyT.cons rfl (fun K hK => ?_) AllReadyT.nil
  rw [if_pos (by rfl)]
  go_simp
  ((with_reducible refine (qb _ hHeld).mono ?_); rintro e V2 ⟨⟨p, th, hpl, rfl⟩, bq2⟩)
  have HPL := Lib.hid hpl
  clear hpl
  refine hK.out _ _ (bch hHeld bq2) (fun hHeld2 => ?_)
  clear hK K hHeld
  have hHeld := hHeld2; clear hHeld2
  refine wpTill_ready (rs := [3]) (by kernel_rfl) (by simp) ?_
  refine AllReadyT.cons rfl (fun K hK => ?_) AllReadyT.nil
  rw [if_pos (by rfl)]
  go_simp
  ((with_reducible refine (does_any A n cap o p th _).mono ?_); rintro e V3 ⟨b, rfl, hmap, bq3⟩)
  obtain ⟨fv, ps, hlk, hfv⟩ := hmap.lookup (int_keyed Try.underlying3) Try.underlying60 (zeroDoing V3) (fnW_nil _) (keyOf_int_mk Try.underlying3 hkw)
  rw [hat] at hfv
  have hfe := fnW_inv hfv
  subst hfe
  clear hfv hmap
  have qm := hme A n cap p th V3 ⟨HC.out, HT.out.below (bch HBV.out (bch hHeld bq3)), HRT.out, HO.out, HPL.out⟩
  have HH3 := Lib.hid (bch hHeld bq3)
  refine hK.out _ _ (bch hHeld bq3) (fun hHeld2 => ?_)
  clear hK K hHeld
  have hHeld := hHeld2; clear hHeld2
  refine wpTill_ready (rs := [6]) (by kernel_rfl) (by simp) ?_
  refine AllReadyT.cons rfl (fun K hK => ?_) AllReadyT.nil
  rw [if_pos (by rfl)]
  go_simp
  refine hK.out _ _ (hHeld) (fun hHeld2 => ?_)
  clear hK K hHeld
  have hHeld := hHeld2; clear hHeld2
  refine wpTill_ready (rs := [7]) (by kernel_rfl) (by simp) ?_
  refine AllReadyT.cons rfl (fun K hK => ?_) AllReadyT.nil
  rw [if_pos (by rfl)]
  go_simp
  ((with_reducible refine qm.mono ?_); rintro e V4 ⟨v, K, rfl, hpr, bq4⟩)
  obtain ⟨Ak, ck, hK⟩ := own_formK hpr.2
  subst hK
  unfold rpV
  have HPR := Lib.hid hpr
  have HS3 : Hid (V1.heap.size ≤ V3.heap.size) := HH3.out.size
  refine hK.out _ _ (bch hHeld bq4) (fun hHeld2 => ?_)
  clear hK K hHeld
  have hHeld := hHeld2; clear hHeld2
  clear qm hlk hpr
  have hz4 := Blk.below HZ1.out hHeld
  have HB4 := Lib.hid (bch HBV.out hHeld)
  have z0 := Blk.cell hz4 0
  have z1 := Blk.cell hz4 1
  have z2 := Blk.cell hz4 2
  have z3 := Blk.cell hz4 3
  simp only [List.getElem?_toArray, List.getElem?_cons_zero, List.getElem?_cons_succ] at z0 z1 z2 z3
  have f0 := Blk.frozen hz4 0
  have f1 := Blk.frozen hz4 1
  have f2 := Blk.frozen hz4 2
  have f3 := Blk.frozen hz4 3
  refine wpTill_take (i := 8) (v := ?_) rfl (by kernel_rfl) (by kernel_rfl) (by kernel_rfl) (by kernel_rfl) (fun _ _ _ h => h) (Or.inl ⟨by rfl, ?_⟩) (by assumption) ?_
  rotate_left
  · (intro w hSw; (try dsimp only at hSw); go_simp; (try with_reducible rfl))
  simp only [Act.put, List.getElem_toArray, List.getElem_cons_zero, List.getElem_cons_succ, List.setIfInBounds_toArray, List.set_cons_zero, List.set_cons_succ]
  refine wpTill_take (i := 9) (v := ?_) rfl (by kernel_rfl) (by kernel_rfl) (by kernel_rfl) (by kernel_rfl) (fun _ _ _ h => h) (Or.inl ⟨by rfl, ?_⟩) (by assumption) ?_
  rotate_left
  · (intro w hSw; (try dsimp only at hSw); go_simp; (try with_reducible rfl))
  simp only [Act.put, List.getElem_toArray, List.getElem_cons_zero, List.getElem_cons_succ, List.setIfInBounds_toArray, List.set_cons_zero, List.set_cons_succ]
  refine wpTill_take (i := 10) (v := ?_) rfl (by kernel_rfl) (by kernel_rfl) (by kernel_rfl) (by kernel_rfl) (fun _ _ _ h => h) (Or.inl ⟨by rfl, ?_⟩) (by assumption) ?_
  rotate_left
  · (intro w hSw; (try dsimp only at hSw); go_simp; (try with_reducible rfl))
  simp only [Act.put, List.getElem_toArray, List.getElem_cons_zero, List.getElem_cons_succ, List.setIfInBounds_toArray, List.set_cons_zero, List.set_cons_succ]
  refine wpTill_ready (rs := [11]) (by kernel_rfl) (by simp) ?_
  refine AllReadyT.last rfl (by kernel_rfl) (fun K hK => ?_) AllReadyT.nil
  rw [if_pos (by rfl)]
  go_simp
  refine hK.out _ _ (trivial) (fun hHeld2 => ?_)
  clear hK K hHeld
  have hHeld := hHeld2; clear hHeld2
  refine wpTill_done (by kernel_rfl) ?_ _
  refine NoPanic.normal ?_
  have hfin := rp_put hz4 (.int .i64 R.errno) (.int .i64 R.rev) (.string R.value) (.slice Ak R.keys.length ck)
  have e0 := Blk.cell hfin 0
  have e1 := Blk.cell hfin 1
  have e2 := Blk.cell hfin 2
  have e3 := Blk.cell hfin 3
  simp only [List.getElem?_toArray, List.getElem?_cons_zero, List.getElem?_cons_succ] at e0 e1 e2 e3
  have HBF := Lib.hid (below_four (g := (w.heap.size + 1)) HB4.out (Nat.le_succ _) (.int .i64 R.errno) (.int .i64 R.rev) (.string R.value) (.slice Ak R.keys.length ck))
  have HPF := Lib.hid (TabParts.four (w := w) HPR.out hz4 (by decide) (Nat.lt_of_lt_of_le HS2.out HS3.out) (Nat.le_trans HBV.out.size HS3.out) (.int .i64 R.errno) (.int .i64 R.rev) (.string R.value) (.slice Ak R.keys.length ck))
  clear hfin
  go_wp2_with fail
  refine bodyPost_ret (v := .tuple #[v, .agg #[.int .i64 R.errno, .int .i64 R.rev, .string R.value, .slice Ak R.keys.length ck]]) (by simp [results, Try.results16, go_sem, e0, e1, e2, e3]) rfl (MtPost.doPost (r := R) ⟨v, _, rfl, HPF.out, HBF.out⟩ HC.out HT.out HKS.out)
theorem doT_any : DoT := fun t o A n cap w ho hc ht _ => do12_any t o A n cap w ho hc ht
end Go.Proofs.Ytpnkkiokkhmjpaa

