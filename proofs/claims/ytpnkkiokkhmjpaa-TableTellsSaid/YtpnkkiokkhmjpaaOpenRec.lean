import Derived.Test.YtpnkkiokkhmjpaaOpenArr
import Derived.SizedLaws
/-
  A record that came in, opened to cells.
-/
namespace Go.Proofs.Ytpnkkiokkhmjpaa
open Go.RowKit Go.ChangeShapes Go.WideShapes

section
variable {H : Type} {enc : TypeId × Value → H} {w : World}
theorem open_flds_t {A : Option Addr} {n cap : Nat} {d : DataW H} {ps : List MemPlace}
    (h : DataW.Trod enc Try.prog w 0 (fun _ => true) true 45 (.slice A n cap) d ps) : ∃ A' n' cap' fs, (.slice A n cap : Value) = .slice A' n' cap' ∧ n' ≤ cap' ∧ IsFs w A' n' fs := by
  obtain ⟨fuel, hf⟩ := h
  rcases Go.Deep.open_slice Try.underlying45 hf with ⟨hcs, _⟩ | ⟨x, l, c, m, q, D, Pl, hcs, _, hl, hm, hmm, _, hrow⟩
  · simp [Value.cells] at hcs
    obtain ⟨rfl, rfl, rfl⟩ := hcs
    exact ⟨none, 0, 0, [], rfl, Nat.le_refl _, rfl, by unfold maxLen; omega, fun f h => by simp at h, fun h => by omega⟩
  · simp [Value.cells] at hcs
    obtain ⟨rfl, rfl, rfl⟩ := hcs
    simp at hmm
    obtain ⟨f0, f1, hu, o0, k0, o1, k1⟩ := fieldsFld
    have key : ∀ i, i < n → ∃ z s, w.cell? (x.add (i * 2)) = some (.int .i64 z) ∧ w.cell? (x.add (i * 2 + 1)) = some (.string s) ∧ (Lit.int .i64 z).wf = true ∧ s.size ≤ maxLen := by
      intro i hi'
      obtain ⟨cs', hc, ht'⟩ := hrow i (by omega)
      rw [cellsFld] at hc
      obtain ⟨_, hcl, hat⟩ := World.cells?_some hc
      obtain ⟨xs, m', _, _, hlen, hxl, hel⟩ := DataW.trod_struct hu ht'
      have h0 := hel 0 f0 rfl
      have h1 := hel 1 f1 rfl
      rw [o0, k0, cellsInt, one_of (by omega), List.getElem?_eq_getElem (by rw [hxl]; simp)] at h0
      rw [o1, k1, cellsStr, one_of (by omega), List.getElem?_eq_getElem (by rw [hxl]; simp)] at h1
      obtain ⟨z, hz, _, hwf⟩ := DataW.trod_int Try.underlying3 h0
      obtain ⟨s, hs, _, hsz⟩ := DataW.trod_string Try.underlying9 h1
      have g0 := hat 0 (by omega)
      have g1 := hat 1 (by omega)
      rw [Go.Deep.add_add] at g0 g1
      refine ⟨z, s, ?_, ?_, hwf, hsz⟩
      · rw [Nat.add_zero] at g0; rw [g0, List.getElem?_eq_getElem (by omega)]; simpa using hz
      · rw [g1, List.getElem?_eq_getElem (by omega)]; simpa using hs
    -- the list that is read
    obtain ⟨F, hF⟩ : ∃ F : Nat → Fld, ∀ i, i < n → w.cell? (x.add (i * 2)) = some (.int .i64 (F i).1) ∧ w.cell? (x.add (i * 2 + 1)) = some (.string (F i).2) ∧ (Lit.int .i64 (F i).1).wf = true ∧ (F i).2.size ≤ maxLen := by
      refine ⟨fun i => (intOf ((w.cell? (x.add (i * 2))).getD undef), match w.cell? (x.add (i * 2 + 1)) with | some (.string s) => s | _ => ByteArray.empty), fun i hi => ?_⟩
      obtain ⟨z, s, e1, e2, e3, e4⟩ := key i hi
      simp only [e1, e2, Option.getD_some, intOf]
      exact ⟨trivial, trivial, e3, e4⟩
    have hlen : ((List.range n).map F).length = n := by simp
    have htg : ∀ i, i < n → tg ((List.range n).map F) i = (F i).1 := fun i hi => by rw [tg_at (by rw [hlen]; exact hi)]; simp
    have hdt : ∀ i, i < n → dt ((List.range n).map F) i = (F i).2 := fun i hi => by rw [dt_at (by rw [hlen]; exact hi)]; simp
    refine ⟨_, n, cap, (List.range n).map F, rfl, hl, hlen.symm, Nat.le_trans hl hm, fun f hf => ?_, fun hn => ?_⟩
    · obtain ⟨i, hi, rfl⟩ := List.mem_map.1 hf
      have := hF i (List.mem_range.1 hi)
      exact ⟨this.2.2.1, this.2.2.2⟩
    · have z0 := (hF 0 hn).1
      have hs : x.spot = none := World.cell?_spot (a := x) (by simpa [Addr.add] using z0)
      refine ⟨x.block, x.off, by cases x; simp_all, lt_of_cell (a := ⟨x.block, _, none⟩) (cell_form z0 hs), fun i hi => ?_⟩
      rw [hlen] at hi
      obtain ⟨e1, e2, _⟩ := hF i hi
      rw [htg i hi, hdt i hi]
      have e2' := cell_form e2 hs
      rw [← Nat.add_assoc] at e2'
      exact ⟨cell_form e1 hs, e2'⟩
theorem open_flds_c {fuel : Nat} {cs : List Value} {x : DataW H × List MemPlace} (hl1 : cs.length = 1)
    (hf : DataW.trod enc Try.prog w 0 (fun _ => true) true fuel 45 cs = some x) : ∃ A n cap, cs = [.slice A n cap] ∧ n ≤ cap ∧ ∃ fs, IsFs w A n fs := by
  have hs : ∃ A n cap, cs = [.slice A n cap] := by
    rcases Go.Deep.open_slice Try.underlying45 hf with ⟨hcs, _⟩ | ⟨x, l, c, m, q, D, Pl, hcs, _⟩
    · exact ⟨none, 0, 0, hcs⟩
    · exact ⟨some x, l, c, hcs⟩
  obtain ⟨A, n, cap, rfl⟩ := hs
  have hT : DataW.Trod enc Try.prog w 0 (fun _ => true) true 45 (.slice A n cap) x.1 x.2 := ⟨fuel, hf⟩
  obtain ⟨A', n', cap', fs, hv, h1, h2⟩ := open_flds_t hT
  cases hv
  exact ⟨A, n, cap, rfl, h1, fs, h2⟩
theorem cellsRec_ : Try.prog.cellsOf 47 = 6 := by kernel_rfl
theorem cellsFlds_ : Try.prog.cellsOf 45 = 1 := by kernel_rfl
theorem fieldsRec_ : ∃ f0 f1 f2 f3 f4 f5, Try.prog.underlying 47 = some (.struct #[f0, f1, f2, f3, f4, f5]) ∧ (f0.offset = 0 ∧ f0.type = 9) ∧ (f1.offset = 1 ∧ f1.type = 9) ∧ (f2.offset = 2 ∧ f2.type = 3) ∧ (f3.offset = 3 ∧ f3.type = 3) ∧ (f4.offset = 4 ∧ f4.type = 9) ∧ (f5.offset = 5 ∧ f5.type = 45) := ⟨_, _, _, _, _, _, Try.underlying47, ⟨rfl, rfl⟩, ⟨rfl, rfl⟩, ⟨rfl, rfl⟩, ⟨rfl, rfl⟩, ⟨rfl, rfl⟩, ⟨rfl, rfl⟩⟩
theorem open_rec {v : Value} {d : DataW H} {ps : List MemPlace} {r : Reach} {b0 : Nat}
    (hv : Value.okWide Try.prog w r b0 47 v) (h : DataW.Trod enc Try.prog w 0 (fun _ => true) true 47 v d ps)
    (hwt : ∀ n ∈ d.weights Try.prog 47, n ≤ reachBytes) :
    ∃ (rc : Rcd) (A : Option Addr) (n cap : Nat), v = rcV rc (.slice A n cap) ∧ IsFs w A n rc.extra ∧ n ≤ cap ∧ RcWf rc ∧ (Lit.int .i64 rc.rev).wf = true ∧ (Lit.int .i64 rc.life).wf = true := by
  obtain ⟨f0, f1, f2, f3, f4, f5, hu, ⟨o0, k0⟩, ⟨o1, k1⟩, ⟨o2, k2⟩, ⟨o3, k3⟩, ⟨o4, k4⟩, ⟨o5, k5⟩⟩ := fieldsRec_
  obtain ⟨⟨l⟩, rfl, hs⟩ := okWide_struct hu hv
  rw [cellsRec_] at hs
  obtain ⟨fuel, hf⟩ := h
  obtain ⟨xs, m, _, hx0, hlen, hxl, hel⟩ := DataW.trod_struct hu hf
  have hl6 : l.length = 6 := by simpa using hs
  have hx6 : xs.length = 6 := by simpa using hxl
  have hd : d = .agg (xs.map (·.1)) := by have := congrArg Prod.fst hx0; simpa using this
  have h0 := hel 0 f0 rfl
  have h1 := hel 1 f1 rfl
  have h2 := hel 2 f2 rfl
  have h3 := hel 3 f3 rfl
  have h4 := hel 4 f4 rfl
  have h5 := hel 5 f5 rfl
  clear hel hf hx0 hv hlen hs
  obtain ⟨c0, c1, c2, c3, c4, c5, rfl⟩ : ∃ c0 c1 c2 c3 c4 c5, l = [c0, c1, c2, c3, c4, c5] := match l, hl6 with | [c0, c1, c2, c3, c4, c5], _ => ⟨_, _, _, _, _, _, rfl⟩
  obtain ⟨x0, x1, x2, x3, x4, x5, rfl⟩ : ∃ c0 c1 c2 c3 c4 c5, xs = [c0, c1, c2, c3, c4, c5] := match xs, hx6 with | [c0, c1, c2, c3, c4, c5], _ => ⟨_, _, _, _, _, _, rfl⟩
  ·
    simp only [Value.cells] at h0 h1 h2 h3 h4 h5
    rw [o0, k0, cellsStr] at h0
    rw [o1, k1, cellsStr] at h1
    rw [o2, k2, cellsInt] at h2
    rw [o3, k3, cellsInt] at h3
    rw [o4, k4, cellsStr] at h4
    rw [o5, k5, cellsFlds_] at h5
    obtain ⟨s0, z0, e0, _⟩ := DataW.trod_string Try.underlying9 (show DataW.trod enc Try.prog w 0 (fun _ => true) true m 9 [c0] = some x0 from h0)
    obtain ⟨s1, z1, e1, _⟩ := DataW.trod_string Try.underlying9 (show DataW.trod enc Try.prog w 0 (fun _ => true) true m 9 [c1] = some x1 from h1)
    obtain ⟨i2, z2, e2, w2⟩ := DataW.trod_int Try.underlying3 (show DataW.trod enc Try.prog w 0 (fun _ => true) true m 3 [c2] = some x2 from h2)
    obtain ⟨i3, z3, e3, w3⟩ := DataW.trod_int Try.underlying3 (show DataW.trod enc Try.prog w 0 (fun _ => true) true m 3 [c3] = some x3 from h3)
    obtain ⟨s4, z4, e4, _⟩ := DataW.trod_string Try.underlying9 (show DataW.trod enc Try.prog w 0 (fun _ => true) true m 9 [c4] = some x4 from h4)
    obtain ⟨A, n, cap, hA, hn, hF⟩ := open_flds_c rfl (show DataW.trod enc Try.prog w 0 (fun _ => true) true m 45 [c5] = some x5 from h5)
    obtain ⟨fs, hF⟩ := hF
    simp only [List.cons.injEq, and_true] at z0 z1 z2 z3 z4 hA
    subst z0 z1 z2 z3 z4 hA
    subst e0 e1 e2 e3 e4
    subst hd
    have key : ∀ s : ByteArray, s.data.toList.length ≤ reachBytes → s.size ≤ 140737488365000 := fun s hs => by
      have : s.size = s.data.toList.length := by rw [Array.length_toList]; rfl
      have := reachBytes_lt
      omega
    refine ⟨⟨s0, s1, i2, i3, s4, fs⟩, A, n, cap, rfl, hF, hn, ⟨key _ (hwt _ ?_), key _ (hwt _ ?_), key _ (hwt _ ?_)⟩, w2, w3⟩ <;> simp [DataW.weights, DataW.weightsEach, Try.underlying47]
end
end Go.Proofs.Ytpnkkiokkhmjpaa
