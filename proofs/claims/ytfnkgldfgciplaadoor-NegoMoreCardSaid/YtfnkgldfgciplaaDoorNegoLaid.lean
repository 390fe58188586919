import Derived.Test.YtfnkgldfgciplaaDoorNego
import Derived.Test.YtfnkgldfgciplaaDoorOpenHl
import Derived.ProofKit
import Derived.LaidMore
import Derived.OpenShut
import Derived.LaidLaws
import Derived.LaidHandle
import Derived.MakeChecks
/-
  What the condition on the program's table of what binaries know gives the walks (stage 9); and that a heap meets it.
-/
namespace Go.Proofs.YtfnkgldfgciplaaDoor
open Go.ChangeShapes Go.WideShapes Go.ChangeAt Go.RowKit
set_option linter.unusedVariables false

theorem trod_hello {H : Type} {enc : TypeId × Value → H} {w : World} {base fuel : Nat} {sp : Nat → Bool} {held : Bool} {cs : List Value} {x : DataW H × List MemPlace}
    (h : DataW.trod enc Tryd.prog w base sp held fuel 23 cs = some x) :
    ∃ l u f : Int, cs = [.int .i64 l, .int .i64 u, .int .i64 f] ∧ x.1 = .agg [.lit (.int .i64 l), .lit (.int .i64 u), .lit (.int .i64 f)] := by
  obtain ⟨f0, f1, f2, hu, ⟨o0, k0⟩, ⟨o1, k1⟩, ⟨o2, k2⟩⟩ := fieldsHl
  obtain ⟨xs, m, _, hx0, hlen, hxl, hel⟩ := DataW.trod_struct hu h
  rw [cellsHl] at hlen
  have hx3 : xs.length = 3 := by simpa using hxl
  have h0 := hel 0 f0 rfl
  have h1 := hel 1 f1 rfl
  have h2 := hel 2 f2 rfl
  obtain ⟨c0, c1, c2, rfl⟩ : ∃ c0 c1 c2, cs = [c0, c1, c2] := match cs, hlen with | [c0, c1, c2], _ => ⟨_, _, _, rfl⟩
  obtain ⟨x0, x1, x2, rfl⟩ : ∃ c0 c1 c2, xs = [c0, c1, c2] := match xs, hx3 with | [c0, c1, c2], _ => ⟨_, _, _, rfl⟩
  rw [o0, k0, cellsInt9] at h0
  rw [o1, k1, cellsInt9] at h1
  rw [o2, k2, cellsInt9] at h2
  obtain ⟨i0, z0, e0, w0⟩ := DataW.trod_int Tryd.underlying3 (show DataW.trod enc Tryd.prog w base sp held m 3 [c0] = some x0 from h0)
  obtain ⟨i1, z1, e1, w1⟩ := DataW.trod_int Tryd.underlying3 (show DataW.trod enc Tryd.prog w base sp held m 3 [c1] = some x1 from h1)
  obtain ⟨i2, z2, e2, w2⟩ := DataW.trod_int Tryd.underlying3 (show DataW.trod enc Tryd.prog w base sp held m 3 [c2] = some x2 from h2)
  simp only [List.cons.injEq, and_true] at z0 z1 z2
  subst z0 z1 z2 e0 e1 e2
  exact ⟨i0, i1, i2, rfl, by rw [hx0]; rfl⟩

theorem tKnw : (Tryd.prog.globals[0]?).map (·.type) = some 43 := by kernel_rfl
theorem cells3Hl : Tryd.prog.cellsOf 43 = 9 := by kernel_rfl
theorem knw_of {W : World} (h : laidMetH Tryd.prog [("careen/nego.known", Rows.laid_careen_nego_known)] W) : Knw W := by
  rw [MakeChecks.laidMetH_plain _ _ _ (by kernel_rfl)] at h
  obtain ⟨ps, ⟨g0, t0, cs0, f0, p0, q0, hg0, ht0, hv0, hd0, _⟩, _, _⟩ := h
  obtain rfl := Option.some.inj (knw_named.symm.trans hg0)
  obtain rfl := Option.some.inj (tKnw.symm.trans ht0)
  obtain ⟨xs, m, _, hx, hlen, hxl, hel⟩ := DataW.trod_array Tryd.underlying43 hd0
  rw [cells3Hl] at hlen
  simp only [cellsHl] at hel
  have e0 := hel 0 (by decide)
  have e1 := hel 1 (by decide)
  have e2 := hel 2 (by decide)
  obtain ⟨x0, x1, x2, rfl⟩ : ∃ c0 c1 c2, xs = [c0, c1, c2] := match xs, hxl with | [c0, c1, c2], _ => ⟨_, _, _, rfl⟩
  obtain ⟨l0, u0, f0, y0, z0⟩ := trod_hello (show DataW.trod _ Tryd.prog W 0 _ false m 23 _ = some x0 from e0)
  obtain ⟨l1, u1, f1, y1, z1⟩ := trod_hello (show DataW.trod _ Tryd.prog W 0 _ false m 23 _ = some x1 from e1)
  obtain ⟨l2, u2, f2, y2, z2⟩ := trod_hello (show DataW.trod _ Tryd.prog W 0 _ false m 23 _ = some x2 from e2)
  obtain ⟨l⟩ := cs0
  have hl : l.length = 9 := by simpa using hlen
  have hs : l = (l.drop 0).take 3 ++ ((l.drop 3).take 3 ++ (l.drop 6).take 3) := by
    match l, hl with
    | [a, b, c, d, e, f, g, h, i], _ => rfl
  have y0' : (l.drop 0).take 3 = _ := y0
  have y1' : (l.drop 3).take 3 = _ := y1
  have y2' : (l.drop 6).take 3 = _ := y2
  rw [y0', y1', y2'] at hs
  have hd := (Prod.mk.inj hx).1
  simp only [List.map_cons, List.map_nil, z0, z1, z2, Rows.laid_careen_nego_known, DataW.agg.injEq, List.cons.injEq, and_true, DataW.lit.injEq, Lit.int.injEq, true_and] at hd
  obtain ⟨⟨rfl, rfl, rfl⟩, ⟨rfl, rfl, rfl⟩, rfl, rfl, rfl⟩ := hd
  unfold Knw
  rw [hv0, hs]
  rfl
/-- The door's own heap meets the condition. -/
theorem door_met (os : Os) (args : Array Value) : laidMetH Tryd.prog [("careen/nego.known", Rows.laid_careen_nego_known)] ((World.doorLaid Tryd.prog 400 os).forCall (fun _ _ => 0) ⟨#[], args, []⟩).memory :=
  laidMetH_of_parts3 (fuel := 8) (laidMet_of_run' 8 (by kernel_rfl) (by kernel_rfl)) (by kernel_rfl) (by kernel_rfl)
end Go.Proofs.YtfnkgldfgciplaaDoor
