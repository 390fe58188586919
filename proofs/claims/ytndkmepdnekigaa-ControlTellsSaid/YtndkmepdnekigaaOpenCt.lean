import Derived.Test.YtndkmepdnekigaaCt
import Derived.Test.YtndkmepdnekigaaOpen
import Derived.SizedLaws
/-
  A controller that came in, opened to cells (stage 18).
-/
namespace Go.Proofs.Ytndkmepdnekigaa
open Go.RowKit Go.ChangeShapes Go.WideShapes
set_option linter.unusedVariables false

theorem cellsInt18 : Try.prog.cellsOf 3 = 1 := by kernel_rfl
theorem cellsMs18 : Try.prog.cellsOf 23 = 1 := by kernel_rfl
theorem cellsPs18 : Try.prog.cellsOf 24 = 1 := by kernel_rfl
theorem cellsCt18 : Try.prog.cellsOf 26 = 3 := by kernel_rfl
theorem cell_form18 {w : World} {x : Addr} {j : Nat} {u : Value} (h : w.cell? (x.add j) = some u) (hs : x.spot = none) : w.cell? ⟨x.block, x.off + j, none⟩ = some u := by
  obtain ⟨b, off, spot⟩ := x
  simp only at hs
  subst hs
  by_cases h0 : j = 0
  · subst h0; simpa [Addr.add] using h
  · simpa [Addr.add, h0] using h
section
variable {H : Type} {enc : TypeId × Value → H} {w : World}
theorem cellsMb18 : Try.prog.cellsOf 45 = 2 := by kernel_rfl
theorem bytesMb18 : Try.prog.bytesOf 45 = 16 := by kernel_rfl
theorem fieldsMb18 : ∃ f0 f1, Try.prog.underlying 45 = some (.struct #[f0, f1]) ∧ (f0.offset = 0 ∧ f0.type = 3) ∧ (f1.offset = 1 ∧ f1.type = 3) := ⟨_, _, Try.underlying45, ⟨rfl, rfl⟩, ⟨rfl, rfl⟩⟩
theorem trodMb18 {fuel : Nat} {cs : List Value} {x : DataW H × List MemPlace}
    (h : DataW.trod enc Try.prog w 0 (fun _ => true) true fuel 45 cs = some x) :
    ∃ m : MbR, cs = [.int .i64 m.1, .int .i64 m.2] ∧ (Lit.int .i64 m.1).wf = true ∧ (Lit.int .i64 m.2).wf = true := by
  obtain ⟨f0, f1, hu, ⟨o0, k0⟩, ⟨o1, k1⟩⟩ := fieldsMb18
  obtain ⟨xs, m, _, hx0, hlen, hxl, hel⟩ := DataW.trod_struct hu h
  rw [cellsMb18] at hlen
  have hx3 : xs.length = 2 := by simpa using hxl
  have h0 := hel 0 f0 rfl
  have h1 := hel 1 f1 rfl
  clear hel
  obtain ⟨c0, c1, rfl⟩ : ∃ c0 c1, cs = [c0, c1] := match cs, hlen with | [c0, c1], _ => ⟨_, _, rfl⟩
  obtain ⟨x0, x1, rfl⟩ : ∃ x0 x1, xs = [x0, x1] := match xs, hx3 with | [x0, x1], _ => ⟨_, _, rfl⟩
  rw [o0, k0, cellsInt18] at h0
  obtain ⟨i0, z0, e0, w0⟩ := DataW.trod_int Try.underlying3 (show DataW.trod enc Try.prog w 0 (fun _ => true) true m 3 [c0] = some x0 from h0)
  rw [o1, k1, cellsInt18] at h1
  obtain ⟨i1, z1, e1, w1⟩ := DataW.trod_int Try.underlying3 (show DataW.trod enc Try.prog w 0 (fun _ => true) true m 3 [c1] = some x1 from h1)
  simp only [List.cons.injEq, and_true] at z0 z1
  subst z0 z1
  exact ⟨(i0, i1), rfl, w0, w1⟩
theorem openMb18_c {fuel : Nat} {cs : List Value} {x0 : DataW H × List MemPlace}
    (hf : DataW.trod enc Try.prog w 0 (fun _ => true) true fuel 23 cs = some x0)
    (hwt : ∀ n ∈ x0.1.weights Try.prog 23, n ≤ reachBytes) : ∃ A n cap l, cs = [.slice A n cap] ∧ (IsG s2 w A n l ∧ MbW l) ∧ n ≤ cap ∧ n * 16 ≤ 140737488351232 := by
  rcases Go.Deep.open_slice Try.underlying23 hf with ⟨hcs, _⟩ | ⟨x, n, c, m, q, D, Pl, hcs, _, hl, hm, hmm, hx, hrow⟩
  · exact ⟨none, 0, 0, [], hcs, ⟨isG_nil _ _, fun f hf => absurd hf (List.not_mem_nil)⟩, Nat.le_refl _, by omega⟩
  · simp only [if_true] at hmm
    subst hmm
    have hd := congrArg Prod.fst hx
    simp only at hd
    rw [hd] at hwt
    have hw0 := hwt ((((List.range n).map D).length + ((List.range (m - n)).map fun j => D (n + j)).length) * Try.prog.bytesOf 45) (by simp [DataW.weights, Try.underlying23])
    rw [bytesMb18] at hw0
    simp only [List.length_map, List.length_range] at hw0
    have hrb : reachBytes = 140737488351232 := by decide
    have key : ∀ i, i < n → ∃ t : MbR, (w.cell? (x.add (i * 2)) = some (.int .i64 t.1) ∧ w.cell? (x.add (i * 2 + 1)) = some (.int .i64 t.2)) ∧ (Lit.int .i64 t.1).wf = true ∧ (Lit.int .i64 t.2).wf = true := by
      intro i hi'
      obtain ⟨cs', hc, ht'⟩ := hrow i (by omega)
      rw [cellsMb18] at hc
      obtain ⟨_, hcl, hat⟩ := World.cells?_some hc
      obtain ⟨t, rfl, hwf⟩ := trodMb18 ht'
      have g0 := hat 0 (by omega)
      have g1 := hat 1 (by omega)
      rw [Go.Deep.add_add] at g0 g1
      exact ⟨t, ⟨by simpa using g0, by simpa using g1⟩, hwf⟩
    obtain ⟨F, hF⟩ : ∃ F : Nat → MbR, ∀ i, i < n → (w.cell? (x.add (i * 2)) = some (.int .i64 (F i).1) ∧ w.cell? (x.add (i * 2 + 1)) = some (.int .i64 (F i).2)) ∧ (Lit.int .i64 (F i).1).wf = true ∧ (Lit.int .i64 (F i).2).wf = true :=
      ⟨fun i => if h : i < n then Classical.choose (key i h) else (0, 0), fun i hi => by simp only [hi, dif_pos]; exact Classical.choose_spec (key i hi)⟩
    have hlen : ((List.range n).map F).length = n := by simp
    refine ⟨_, n, m, (List.range n).map F, hcs, ⟨⟨hlen.symm, Nat.le_trans hl hm, fun hn => ?_⟩, fun f hf => ?_⟩, hl, by omega⟩
    · have z0 := (hF 0 hn).1.1
      have hs : x.spot = none := World.cell?_spot (a := x) (by simpa [Addr.add] using z0)
      refine ⟨x.block, x.off, by cases x; simp_all, lt_of_cell (a := ⟨x.block, _, none⟩) (cell_form18 z0 hs), fun i y hi j v hv => ?_⟩
      have hi2 : i < n := by have := (List.getElem?_eq_some_iff.1 hi).1; rwa [hlen] at this
      obtain rfl : F i = y := by simpa [hi2] using hi
      obtain ⟨⟨e1, e2⟩, _⟩ := hF i hi2
      have hj : j < 2 := by have := (List.getElem?_eq_some_iff.1 hv).1; rwa [s2.len] at this
      rcases (by omega : j = 0 ∨ j = 1) with rfl | rfl
      · obtain rfl := Option.some.inj hv
        exact cell_form18 e1 hs
      · obtain rfl := Option.some.inj hv
        have := cell_form18 e2 hs
        rwa [← Nat.add_assoc] at this
    · obtain ⟨i, hi, rfl⟩ := List.mem_map.1 hf
      exact (hF i (List.mem_range.1 hi)).2
theorem cellsPl18 : Try.prog.cellsOf 48 = 3 := by kernel_rfl
theorem bytesPl18 : Try.prog.bytesOf 48 = 24 := by kernel_rfl
theorem fieldsPl18 : ∃ f0 f1 f2, Try.prog.underlying 48 = some (.struct #[f0, f1, f2]) ∧ (f0.offset = 0 ∧ f0.type = 3) ∧ (f1.offset = 1 ∧ f1.type = 3) ∧ (f2.offset = 2 ∧ f2.type = 3) := ⟨_, _, _, Try.underlying48, ⟨rfl, rfl⟩, ⟨rfl, rfl⟩, ⟨rfl, rfl⟩⟩
theorem trodPl18 {fuel : Nat} {cs : List Value} {x : DataW H × List MemPlace}
    (h : DataW.trod enc Try.prog w 0 (fun _ => true) true fuel 48 cs = some x) :
    ∃ m : PlR, cs = [.int .i64 m.1, .int .i64 m.2.1, .int .i64 m.2.2] ∧ (Lit.int .i64 m.1).wf = true ∧ (Lit.int .i64 m.2.1).wf = true ∧ (Lit.int .i64 m.2.2).wf = true := by
  obtain ⟨f0, f1, f2, hu, ⟨o0, k0⟩, ⟨o1, k1⟩, ⟨o2, k2⟩⟩ := fieldsPl18
  obtain ⟨xs, m, _, hx0, hlen, hxl, hel⟩ := DataW.trod_struct hu h
  rw [cellsPl18] at hlen
  have hx3 : xs.length = 3 := by simpa using hxl
  have h0 := hel 0 f0 rfl
  have h1 := hel 1 f1 rfl
  have h2 := hel 2 f2 rfl
  clear hel
  obtain ⟨c0, c1, c2, rfl⟩ : ∃ c0 c1 c2, cs = [c0, c1, c2] := match cs, hlen with | [c0, c1, c2], _ => ⟨_, _, _, rfl⟩
  obtain ⟨x0, x1, x2, rfl⟩ : ∃ x0 x1 x2, xs = [x0, x1, x2] := match xs, hx3 with | [x0, x1, x2], _ => ⟨_, _, _, rfl⟩
  rw [o0, k0, cellsInt18] at h0
  obtain ⟨i0, z0, e0, w0⟩ := DataW.trod_int Try.underlying3 (show DataW.trod enc Try.prog w 0 (fun _ => true) true m 3 [c0] = some x0 from h0)
  rw [o1, k1, cellsInt18] at h1
  obtain ⟨i1, z1, e1, w1⟩ := DataW.trod_int Try.underlying3 (show DataW.trod enc Try.prog w 0 (fun _ => true) true m 3 [c1] = some x1 from h1)
  rw [o2, k2, cellsInt18] at h2
  obtain ⟨i2, z2, e2, w2⟩ := DataW.trod_int Try.underlying3 (show DataW.trod enc Try.prog w 0 (fun _ => true) true m 3 [c2] = some x2 from h2)
  simp only [List.cons.injEq, and_true] at z0 z1 z2
  subst z0 z1 z2
  exact ⟨(i0, i1, i2), rfl, w0, w1, w2⟩
theorem openPl18_c {fuel : Nat} {cs : List Value} {x0 : DataW H × List MemPlace}
    (hf : DataW.trod enc Try.prog w 0 (fun _ => true) true fuel 24 cs = some x0)
    (hwt : ∀ n ∈ x0.1.weights Try.prog 24, n ≤ reachBytes) : ∃ A n cap l, cs = [.slice A n cap] ∧ (IsG s3 w A n l ∧ PlW l) ∧ n ≤ cap ∧ n * 24 ≤ 140737488351232 := by
  rcases Go.Deep.open_slice Try.underlying24 hf with ⟨hcs, _⟩ | ⟨x, n, c, m, q, D, Pl, hcs, _, hl, hm, hmm, hx, hrow⟩
  · exact ⟨none, 0, 0, [], hcs, ⟨isG_nil _ _, fun f hf => absurd hf (List.not_mem_nil)⟩, Nat.le_refl _, by omega⟩
  · simp only [if_true] at hmm
    subst hmm
    have hd := congrArg Prod.fst hx
    simp only at hd
    rw [hd] at hwt
    have hw0 := hwt ((((List.range n).map D).length + ((List.range (m - n)).map fun j => D (n + j)).length) * Try.prog.bytesOf 48) (by simp [DataW.weights, Try.underlying24])
    rw [bytesPl18] at hw0
    simp only [List.length_map, List.length_range] at hw0
    have hrb : reachBytes = 140737488351232 := by decide
    have key : ∀ i, i < n → ∃ t : PlR, (w.cell? (x.add (i * 3)) = some (.int .i64 t.1) ∧ w.cell? (x.add (i * 3 + 1)) = some (.int .i64 t.2.1) ∧ w.cell? (x.add (i * 3 + 2)) = some (.int .i64 t.2.2)) ∧ (Lit.int .i64 t.1).wf = true ∧ (Lit.int .i64 t.2.1).wf = true ∧ (Lit.int .i64 t.2.2).wf = true := by
      intro i hi'
      obtain ⟨cs', hc, ht'⟩ := hrow i (by omega)
      rw [cellsPl18] at hc
      obtain ⟨_, hcl, hat⟩ := World.cells?_some hc
      obtain ⟨t, rfl, hwf⟩ := trodPl18 ht'
      have g0 := hat 0 (by omega)
      have g1 := hat 1 (by omega)
      have g2 := hat 2 (by omega)
      rw [Go.Deep.add_add] at g0 g1 g2
      exact ⟨t, ⟨by simpa using g0, by simpa using g1, by simpa using g2⟩, hwf⟩
    obtain ⟨F, hF⟩ : ∃ F : Nat → PlR, ∀ i, i < n → (w.cell? (x.add (i * 3)) = some (.int .i64 (F i).1) ∧ w.cell? (x.add (i * 3 + 1)) = some (.int .i64 (F i).2.1) ∧ w.cell? (x.add (i * 3 + 2)) = some (.int .i64 (F i).2.2)) ∧ (Lit.int .i64 (F i).1).wf = true ∧ (Lit.int .i64 (F i).2.1).wf = true ∧ (Lit.int .i64 (F i).2.2).wf = true :=
      ⟨fun i => if h : i < n then Classical.choose (key i h) else (0, 0, 0), fun i hi => by simp only [hi, dif_pos]; exact Classical.choose_spec (key i hi)⟩
    have hlen : ((List.range n).map F).length = n := by simp
    refine ⟨_, n, m, (List.range n).map F, hcs, ⟨⟨hlen.symm, Nat.le_trans hl hm, fun hn => ?_⟩, fun f hf => ?_⟩, hl, by omega⟩
    · have z0 := (hF 0 hn).1.1
      have hs : x.spot = none := World.cell?_spot (a := x) (by simpa [Addr.add] using z0)
      refine ⟨x.block, x.off, by cases x; simp_all, lt_of_cell (a := ⟨x.block, _, none⟩) (cell_form18 z0 hs), fun i y hi j v hv => ?_⟩
      have hi2 : i < n := by have := (List.getElem?_eq_some_iff.1 hi).1; rwa [hlen] at this
      obtain rfl : F i = y := by simpa [hi2] using hi
      obtain ⟨⟨e1, e2, e3⟩, _⟩ := hF i hi2
      have hj : j < 3 := by have := (List.getElem?_eq_some_iff.1 hv).1; rwa [s3.len] at this
      rcases (by omega : j = 0 ∨ j = 1 ∨ j = 2) with rfl | rfl | rfl
      · obtain rfl := Option.some.inj hv
        exact cell_form18 e1 hs
      · obtain rfl := Option.some.inj hv
        have := cell_form18 e2 hs
        rwa [← Nat.add_assoc] at this
      · obtain rfl := Option.some.inj hv
        have := cell_form18 e3 hs
        rwa [← Nat.add_assoc] at this
    · obtain ⟨i, hi, rfl⟩ := List.mem_map.1 hf
      exact (hF i (List.mem_range.1 hi)).2
theorem open_control {v : Value} {d : DataW H} {ps : List MemPlace} {r : Reach} {b0 : Nat}
    (hv : Value.okWide Try.prog w r b0 26 v) (h : DataW.Trod enc Try.prog w 0 (fun _ => true) true 26 v d ps)
    (hwt : ∀ n ∈ d.weights Try.prog 26, n ≤ reachBytes) : ∃ (c : CtR) (A : Option Addr) (n cap : Nat) (B : Option Addr) (m cm : Nat), v = ctV c A n cap B m cm ∧ CtArg w c A n cap B m cm := by
  obtain ⟨f0, f1, f2, hu, ⟨o0, k0⟩, ⟨o1, k1⟩, ⟨o2, k2⟩⟩ : ∃ f0 f1 f2, Try.prog.underlying 26 = some (.struct #[f0, f1, f2]) ∧ (f0.offset = 0 ∧ f0.type = 3) ∧ (f1.offset = 1 ∧ f1.type = 23) ∧ (f2.offset = 2 ∧ f2.type = 24) := ⟨_, _, _, Try.underlying26, ⟨rfl, rfl⟩, ⟨rfl, rfl⟩, ⟨rfl, rfl⟩⟩
  obtain ⟨⟨l⟩, rfl, hs⟩ := okWide_struct hu hv
  rw [cellsCt18] at hs
  obtain ⟨fuel, hf⟩ := h
  obtain ⟨xs, m, _, hx0, hlen, hxl, hel⟩ := DataW.trod_struct hu hf
  have hl3 : l.length = 3 := by simpa using hs
  have hx3 : xs.length = 3 := by simpa using hxl
  have hd : d = .agg (xs.map (·.1)) := by have := congrArg Prod.fst hx0; simpa using this
  have h0 := hel 0 f0 rfl
  have h1 := hel 1 f1 rfl
  have h2 := hel 2 f2 rfl
  clear hel hf hx0 hv hlen hs
  obtain ⟨c0, c1, c2, rfl⟩ : ∃ c0 c1 c2, l = [c0, c1, c2] := match l, hl3 with | [c0, c1, c2], _ => ⟨_, _, _, rfl⟩
  obtain ⟨x0, x1, x2, rfl⟩ : ∃ c0 c1 c2, xs = [c0, c1, c2] := match xs, hx3 with | [c0, c1, c2], _ => ⟨_, _, _, rfl⟩
  simp only [Value.cells] at h0 h1 h2
  rw [o0, k0, cellsInt18] at h0
  rw [o1, k1, cellsMs18] at h1
  rw [o2, k2, cellsPs18] at h2
  obtain ⟨i0, z0, e0, w0⟩ := DataW.trod_int Try.underlying3 (show DataW.trod enc Try.prog w 0 (fun _ => true) true m 3 [c0] = some x0 from h0)
  subst hd
  obtain ⟨A, n, cap, t, y1, g1, le1, z16⟩ := openMb18_c (show DataW.trod enc Try.prog w 0 (fun _ => true) true m 23 [c1] = some x1 from h1) (fun k hk => hwt k (by simp [DataW.weights, DataW.weightsEach, Try.underlying26, hk]))
  obtain ⟨B, n2, cm, u, y2, g2, le2, z24⟩ := openPl18_c (show DataW.trod enc Try.prog w 0 (fun _ => true) true m 24 [c2] = some x2 from h2) (fun k hk => hwt k (by simp [DataW.weights, DataW.weightsEach, Try.underlying26, hk]))
  simp only [List.cons.injEq, and_true] at z0 y1 y2
  subst z0 y1 y2
  exact ⟨⟨i0, t, u⟩, A, n, cap, B, n2, cm, rfl, ⟨g1.1, g2.1⟩, ⟨w0, g1.2, g2.2⟩, le1, le2, z16, z24⟩
end
end Go.Proofs.Ytndkmepdnekigaa
