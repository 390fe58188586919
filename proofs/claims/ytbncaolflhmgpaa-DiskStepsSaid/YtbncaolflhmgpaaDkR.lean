import Derived.Test.YtbncaolflhmgpaaDkQ
/-
  The contracts of the generic 'do' of package disk, by ints and by texts, over the contract of the method that it is handed (stage 7).
-/
namespace Go.Proofs.Ytbncaolflhmgpaa
open Go.RowKit
set_option linter.unusedVariables false

theorem run_callFunc_bodyK {P : Program} {f : FuncId} {fn : Func} (hf : P.funcs[f]? = some fn) (hname : (fn.name == "runtime.NumGoroutine") = false) (hb : fn.body.isNone = false) (args : Array Value) (w : World) :
    (callFunc f args).run P w = .ok (.enter f args) w := by
  have h1 : fn.name ≠ "runtime.NumGoroutine" := by simpa using hname
  have h2 : fn.body ≠ none := by intro h; rw [h] at hb; cases hb
  simp [callFunc, hf, h1, h2]

set_option maxRecDepth 100000 in
set_option maxHeartbeats 2000000 in
theorem doS_ok (F : Nat) (cf : ∀ (args : Array Value) (W : World), (callFunc F args).run Try.prog W = .ok (.enter F args) W) (a b c x y z : ByteArray) (s : ByteArray)
    (q : ∀ (g : Nat) (W : World), DvBlk W g a b c → Calls Try.prog F #[.pointer (some ⟨g, 0, none⟩), .string s] W (DvPost g x y z 0 W)) (w : World) :
    Calls Try.prog 23 #[.func (.func F) #[] #[], .agg #[.string a, .string b, .string c], .string s] w fun e w' => e = .returned (.tuple #[.agg #[.string x, .string y, .string z], .int .i64 0]) ∧ Below w.heap.size w w' := by
  have hb0 : Below w.heap.size w ((w.alloc (.cells #[.string a, .string b, .string c] 23)).alloc (.cells #[.string ⟨#[]⟩, .string ⟨#[]⟩, .string ⟨#[]⟩] 23)) := ((Below.refl _ _).alloc (Nat.le_refl _) _).alloc (by simp) _
  have hg : DkBlk ((w.alloc (.cells #[.string a, .string b, .string c] 23)).alloc (.cells #[.string ⟨#[]⟩, .string ⟨#[]⟩, .string ⟨#[]⟩] 23)) w.heap.size a b c := (DkBlk.new w a b c).below ((Below.refl _ _).alloc (Nat.le_refl _) _)
  have hx : DkBlk ((w.alloc (.cells #[.string a, .string b, .string c] 23)).alloc (.cells #[.string ⟨#[]⟩, .string ⟨#[]⟩, .string ⟨#[]⟩] 23)) (w.heap.size + 1) ⟨#[]⟩ ⟨#[]⟩ ⟨#[]⟩ := by
    have h := DkBlk.new (w.alloc (.cells #[.string a, .string b, .string c] 23)) ⟨#[]⟩ ⟨#[]⟩ ⟨#[]⟩
    rw [World.size_alloc] at h
    exact h
  obtain ⟨W0, hW0⟩ : ∃ W, (w.alloc (.cells #[.string a, .string b, .string c] 23)).alloc (.cells #[.string ⟨#[]⟩, .string ⟨#[]⟩, .string ⟨#[]⟩] 23) = W := ⟨_, rfl⟩
  rw [hW0] at hb0 hg hx
  have HB0 := Lib.hid hb0; clear hb0
  have HG := Lib.hid hg; clear hg
  have HX := Lib.hid hx; clear hx
  obtain ⟨c0, c1, c2⟩ := HG.out.cells
  have Q := Lib.hid q; clear q
  go_enter Try.func23, Try.ntmps23
  go_wp2_with fail
  ((with_reducible refine (Q.out _ _ (DvBlk.new W0 a b c)).mono ?_); rintro e W1 ⟨rfl, hd, hb⟩)
  have bt : Below W0.heap.size W0 W1 := ((Below.refl _ _).alloc (Nat.le_refl _) _).trans hb
  have hx1 := HX.out.below bt
  have hg1 := HG.out.below bt
  have hb1 := bch HB0.out bt
  clear c0 c1 c2 bt hb cf
  obtain ⟨c0, c1, c2⟩ := hg1.cells
  obtain ⟨v0, v1, v2⟩ := hd.cells
  obtain ⟨x0, x1, x2⟩ := hx1.cells
  have f0 := hx1.frozen 0
  have f1 := hx1.frozen 1
  have f2 := hx1.frozen 2
  have HX1 := Lib.hid hx1; clear hx1
  have HB1 := Lib.hid hb1; clear hb1 hg1 hd
  go_wp2_with fail
  have hfin := HX1.out.put x y z
  have hbf := ((HB1.out.setCell (p := ⟨w.heap.size + 1, 0, none⟩) (Nat.le_succ _) (.string x)).setCell (p := ⟨w.heap.size + 1, 1, none⟩) (Nat.le_succ _) (.string y)).setCell (p := ⟨w.heap.size + 1, 2, none⟩) (Nat.le_succ _) (.string z)
  obtain ⟨e0, e1, e2⟩ := hfin.cells
  refine bodyPost_ret (v := .tuple #[.agg #[.string x, .string y, .string z], .int .i64 0]) (by simp [results, Try.results23, go_sem, e0, e1, e2]) rfl ⟨rfl, hbf⟩

set_option maxRecDepth 100000 in
set_option maxHeartbeats 2000000 in
theorem doS_no (F : Nat) (cf : ∀ (args : Array Value) (W : World), (callFunc F args).run Try.prog W = .ok (.enter F args) W) (a b c x y z : ByteArray) (s : ByteArray)
    (q : ∀ (g : Nat) (W : World), DvBlk W g a b c → Calls Try.prog F #[.pointer (some ⟨g, 0, none⟩), .string s] W (DvPost g x y z 50 W)) (w : World) :
    Calls Try.prog 23 #[.func (.func F) #[] #[], .agg #[.string a, .string b, .string c], .string s] w fun e w' => e = .returned (.tuple #[.agg #[.string a, .string b, .string c], .int .i64 50]) ∧ Below w.heap.size w w' := by
  have hb0 : Below w.heap.size w ((w.alloc (.cells #[.string a, .string b, .string c] 23)).alloc (.cells #[.string ⟨#[]⟩, .string ⟨#[]⟩, .string ⟨#[]⟩] 23)) := ((Below.refl _ _).alloc (Nat.le_refl _) _).alloc (by simp) _
  have hg : DkBlk ((w.alloc (.cells #[.string a, .string b, .string c] 23)).alloc (.cells #[.string ⟨#[]⟩, .string ⟨#[]⟩, .string ⟨#[]⟩] 23)) w.heap.size a b c := (DkBlk.new w a b c).below ((Below.refl _ _).alloc (Nat.le_refl _) _)
  have hx : DkBlk ((w.alloc (.cells #[.string a, .string b, .string c] 23)).alloc (.cells #[.string ⟨#[]⟩, .string ⟨#[]⟩, .string ⟨#[]⟩] 23)) (w.heap.size + 1) ⟨#[]⟩ ⟨#[]⟩ ⟨#[]⟩ := by
    have h := DkBlk.new (w.alloc (.cells #[.string a, .string b, .string c] 23)) ⟨#[]⟩ ⟨#[]⟩ ⟨#[]⟩
    rw [World.size_alloc] at h
    exact h
  obtain ⟨W0, hW0⟩ : ∃ W, (w.alloc (.cells #[.string a, .string b, .string c] 23)).alloc (.cells #[.string ⟨#[]⟩, .string ⟨#[]⟩, .string ⟨#[]⟩] 23) = W := ⟨_, rfl⟩
  rw [hW0] at hb0 hg hx
  have HB0 := Lib.hid hb0; clear hb0
  have HG := Lib.hid hg; clear hg
  have HX := Lib.hid hx; clear hx
  obtain ⟨c0, c1, c2⟩ := HG.out.cells
  have Q := Lib.hid q; clear q
  go_enter Try.func23, Try.ntmps23
  go_wp2_with fail
  ((with_reducible refine (Q.out _ _ (DvBlk.new W0 a b c)).mono ?_); rintro e W1 ⟨rfl, hd, hb⟩)
  have bt : Below W0.heap.size W0 W1 := ((Below.refl _ _).alloc (Nat.le_refl _) _).trans hb
  have hx1 := HX.out.below bt
  have hg1 := HG.out.below bt
  have hb1 := bch HB0.out bt
  clear c0 c1 c2 bt hb cf
  obtain ⟨c0, c1, c2⟩ := hg1.cells
  obtain ⟨v0, v1, v2⟩ := hd.cells
  obtain ⟨x0, x1, x2⟩ := hx1.cells
  have f0 := hx1.frozen 0
  have f1 := hx1.frozen 1
  have f2 := hx1.frozen 2
  have HX1 := Lib.hid hx1; clear hx1
  have HB1 := Lib.hid hb1; clear hb1 hg1 hd
  go_wp2_with fail
  have hfin := HX1.out.put a b c
  have hbf := ((HB1.out.setCell (p := ⟨w.heap.size + 1, 0, none⟩) (Nat.le_succ _) (.string a)).setCell (p := ⟨w.heap.size + 1, 1, none⟩) (Nat.le_succ _) (.string b)).setCell (p := ⟨w.heap.size + 1, 2, none⟩) (Nat.le_succ _) (.string c)
  obtain ⟨e0, e1, e2⟩ := hfin.cells
  refine bodyPost_ret (v := .tuple #[.agg #[.string a, .string b, .string c], .int .i64 50]) (by simp [results, Try.results23, go_sem, e0, e1, e2]) rfl ⟨rfl, hbf⟩

set_option maxRecDepth 100000 in
set_option maxHeartbeats 2000000 in
theorem doI_ok (F : Nat) (cf : ∀ (args : Array Value) (W : World), (callFunc F args).run Try.prog W = .ok (.enter F args) W) (a b c x y z : ByteArray) (k : Int)
    (q : ∀ (g : Nat) (W : World), DvBlk W g a b c → Calls Try.prog F #[.pointer (some ⟨g, 0, none⟩), .int .i64 k] W (DvPost g x y z 0 W)) (w : World) :
    Calls Try.prog 21 #[.func (.func F) #[] #[], .agg #[.string a, .string b, .string c], .int .i64 k] w fun e w' => e = .returned (.tuple #[.agg #[.string x, .string y, .string z], .int .i64 0]) ∧ Below w.heap.size w w' := by
  have hb0 : Below w.heap.size w ((w.alloc (.cells #[.string a, .string b, .string c] 23)).alloc (.cells #[.string ⟨#[]⟩, .string ⟨#[]⟩, .string ⟨#[]⟩] 23)) := ((Below.refl _ _).alloc (Nat.le_refl _) _).alloc (by simp) _
  have hg : DkBlk ((w.alloc (.cells #[.string a, .string b, .string c] 23)).alloc (.cells #[.string ⟨#[]⟩, .string ⟨#[]⟩, .string ⟨#[]⟩] 23)) w.heap.size a b c := (DkBlk.new w a b c).below ((Below.refl _ _).alloc (Nat.le_refl _) _)
  have hx : DkBlk ((w.alloc (.cells #[.string a, .string b, .string c] 23)).alloc (.cells #[.string ⟨#[]⟩, .string ⟨#[]⟩, .string ⟨#[]⟩] 23)) (w.heap.size + 1) ⟨#[]⟩ ⟨#[]⟩ ⟨#[]⟩ := by
    have h := DkBlk.new (w.alloc (.cells #[.string a, .string b, .string c] 23)) ⟨#[]⟩ ⟨#[]⟩ ⟨#[]⟩
    rw [World.size_alloc] at h
    exact h
  obtain ⟨W0, hW0⟩ : ∃ W, (w.alloc (.cells #[.string a, .string b, .string c] 23)).alloc (.cells #[.string ⟨#[]⟩, .string ⟨#[]⟩, .string ⟨#[]⟩] 23) = W := ⟨_, rfl⟩
  rw [hW0] at hb0 hg hx
  have HB0 := Lib.hid hb0; clear hb0
  have HG := Lib.hid hg; clear hg
  have HX := Lib.hid hx; clear hx
  obtain ⟨c0, c1, c2⟩ := HG.out.cells
  have Q := Lib.hid q; clear q
  go_enter Try.func21, Try.ntmps21
  go_wp2_with fail
  ((with_reducible refine (Q.out _ _ (DvBlk.new W0 a b c)).mono ?_); rintro e W1 ⟨rfl, hd, hb⟩)
  have bt : Below W0.heap.size W0 W1 := ((Below.refl _ _).alloc (Nat.le_refl _) _).trans hb
  have hx1 := HX.out.below bt
  have hg1 := HG.out.below bt
  have hb1 := bch HB0.out bt
  clear c0 c1 c2 bt hb cf
  obtain ⟨c0, c1, c2⟩ := hg1.cells
  obtain ⟨v0, v1, v2⟩ := hd.cells
  obtain ⟨x0, x1, x2⟩ := hx1.cells
  have f0 := hx1.frozen 0
  have f1 := hx1.frozen 1
  have f2 := hx1.frozen 2
  have HX1 := Lib.hid hx1; clear hx1
  have HB1 := Lib.hid hb1; clear hb1 hg1 hd
  go_wp2_with fail
  have hfin := HX1.out.put x y z
  have hbf := ((HB1.out.setCell (p := ⟨w.heap.size + 1, 0, none⟩) (Nat.le_succ _) (.string x)).setCell (p := ⟨w.heap.size + 1, 1, none⟩) (Nat.le_succ _) (.string y)).setCell (p := ⟨w.heap.size + 1, 2, none⟩) (Nat.le_succ _) (.string z)
  obtain ⟨e0, e1, e2⟩ := hfin.cells
  refine bodyPost_ret (v := .tuple #[.agg #[.string x, .string y, .string z], .int .i64 0]) (by simp [results, Try.results21, go_sem, e0, e1, e2]) rfl ⟨rfl, hbf⟩
theorem cfSet (args : Array Value) (w : World) : (callFunc 22 args).run Try.prog w = .ok (.enter 22 args) w := run_callFunc_bodyK Try.func22 (by kernel_rfl) (by kernel_rfl) args w
theorem cfExt (args : Array Value) (w : World) : (callFunc 24 args).run Try.prog w = .ok (.enter 24 args) w := run_callFunc_bodyK Try.func24 (by kernel_rfl) (by kernel_rfl) args w
theorem cfRen (args : Array Value) (w : World) : (callFunc 25 args).run Try.prog w = .ok (.enter 25 args) w := run_callFunc_bodyK Try.func25 (by kernel_rfl) (by kernel_rfl) args w
end Go.Proofs.Ytbncaolflhmgpaa
