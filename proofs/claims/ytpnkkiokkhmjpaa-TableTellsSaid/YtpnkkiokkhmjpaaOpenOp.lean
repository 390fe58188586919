import Derived.Test.YtpnkkiokkhmjpaaOpenRec
import Derived.Test.YtpnkkiokkhmjpaaTabs
/-
  An op, and a slice of records, that came in, opened to cells.
-/
namespace Go.Proofs.Ytpnkkiokkhmjpaa
open Go.RowKit Go.ChangeShapes Go.WideShapes

section
variable {H : Type} {enc : TypeId × Value → H} {w : World}
theorem cellsOp_ : Try.prog.cellsOf 26 = 7 := by kernel_rfl
theorem fieldsOp_ : ∃ f0 f1 f2 f3 f4 f5 f6, Try.prog.underlying 26 = some (.struct #[f0, f1, f2, f3, f4, f5, f6]) ∧ (f0.offset = 0 ∧ f0.type = 3) ∧ (f1.offset = 1 ∧ f1.type = 9) ∧ (f2.offset = 2 ∧ f2.type = 9) ∧ (f3.offset = 3 ∧ f3.type = 3) ∧ (f4.offset = 4 ∧ f4.type = 9) ∧ (f5.offset = 5 ∧ f5.type = 3) ∧ (f6.offset = 6 ∧ f6.type = 9) :=
  ⟨_, _, _, _, _, _, _, Try.underlying26, ⟨rfl, rfl⟩, ⟨rfl, rfl⟩, ⟨rfl, rfl⟩, ⟨rfl, rfl⟩, ⟨rfl, rfl⟩, ⟨rfl, rfl⟩, ⟨rfl, rfl⟩⟩
theorem size_reach {s : ByteArray} (h : s.data.toList.length ≤ reachBytes) : s.size ≤ 140737488365000 := by
  have : s.size = s.data.toList.length := by rw [Array.length_toList]; rfl
  have := reachBytes_lt
  omega
theorem open_op {v : Value} {d : DataW H} {ps : List MemPlace} {r : Reach} {b0 : Nat}
    (hv : Value.okWide Try.prog w r b0 26 v) (h : DataW.Trod enc Try.prog w 0 (fun _ => true) true 26 v d ps)
    (hwt : ∀ n ∈ d.weights Try.prog 26, n ≤ reachBytes) : ∃ o : OpR, v = opV o ∧ OpWf o := by
  obtain ⟨f0, f1, f2, f3, f4, f5, f6, hu, ⟨o0, k0⟩, ⟨o1, k1⟩, ⟨o2, k2⟩, ⟨o3, k3⟩, ⟨o4, k4⟩, ⟨o5, k5⟩, ⟨o6, k6⟩⟩ := fieldsOp_
  obtain ⟨⟨l⟩, rfl, hs⟩ := okWide_struct hu hv
  rw [cellsOp_] at hs
  obtain ⟨fuel, hf⟩ := h
  obtain ⟨xs, m, _, hx0, hlen, hxl, hel⟩ := DataW.trod_struct hu hf
  have hl7 : l.length = 7 := by simpa using hs
  have hx7 : xs.length = 7 := by simpa using hxl
  have hd : d = .agg (xs.map (·.1)) := by have := congrArg Prod.fst hx0; simpa using this
  have h0 := hel 0 f0 rfl
  have h1 := hel 1 f1 rfl
  have h2 := hel 2 f2 rfl
  have h3 := hel 3 f3 rfl
  have h4 := hel 4 f4 rfl
  have h5 := hel 5 f5 rfl
  have h6 := hel 6 f6 rfl
  clear hel hf hx0 hv hlen hs
  obtain ⟨c0, c1, c2, c3, c4, c5, c6, rfl⟩ : ∃ c0 c1 c2 c3 c4 c5 c6, l = [c0, c1, c2, c3, c4, c5, c6] := match l, hl7 with | [c0, c1, c2, c3, c4, c5, c6], _ => ⟨_, _, _, _, _, _, _, rfl⟩
  obtain ⟨x0, x1, x2, x3, x4, x5, x6, rfl⟩ : ∃ c0 c1 c2 c3 c4 c5 c6, xs = [c0, c1, c2, c3, c4, c5, c6] := match xs, hx7 with | [c0, c1, c2, c3, c4, c5, c6], _ => ⟨_, _, _, _, _, _, _, rfl⟩
  simp only [Value.cells] at h0 h1 h2 h3 h4 h5 h6
  rw [o0, k0, cellsInt] at h0
  rw [o1, k1, cellsStr] at h1
  rw [o2, k2, cellsStr] at h2
  rw [o3, k3, cellsInt] at h3
  rw [o4, k4, cellsStr] at h4
  rw [o5, k5, cellsInt] at h5
  rw [o6, k6, cellsStr] at h6
  obtain ⟨i0, z0, e0, w0⟩ := DataW.trod_int Try.underlying3 (show DataW.trod enc Try.prog w 0 (fun _ => true) true m 3 [c0] = some x0 from h0)
  obtain ⟨s1, z1, e1, _⟩ := DataW.trod_string Try.underlying9 (show DataW.trod enc Try.prog w 0 (fun _ => true) true m 9 [c1] = some x1 from h1)
  obtain ⟨s2, z2, e2, _⟩ := DataW.trod_string Try.underlying9 (show DataW.trod enc Try.prog w 0 (fun _ => true) true m 9 [c2] = some x2 from h2)
  obtain ⟨i3, z3, e3, w3⟩ := DataW.trod_int Try.underlying3 (show DataW.trod enc Try.prog w 0 (fun _ => true) true m 3 [c3] = some x3 from h3)
  obtain ⟨s4, z4, e4, _⟩ := DataW.trod_string Try.underlying9 (show DataW.trod enc Try.prog w 0 (fun _ => true) true m 9 [c4] = some x4 from h4)
  obtain ⟨i5, z5, e5, w5⟩ := DataW.trod_int Try.underlying3 (show DataW.trod enc Try.prog w 0 (fun _ => true) true m 3 [c5] = some x5 from h5)
  obtain ⟨s6, z6, e6, _⟩ := DataW.trod_string Try.underlying9 (show DataW.trod enc Try.prog w 0 (fun _ => true) true m 9 [c6] = some x6 from h6)
  simp only [List.cons.injEq, and_true] at z0 z1 z2 z3 z4 z5 z6
  subst z0 z1 z2 z3 z4 z5 z6
  subst e0 e1 e2 e3 e4 e5 e6
  subst hd
  refine ⟨⟨i0, s1, s2, i3, s4, i5, s6⟩, rfl, w0, size_reach (hwt _ ?_), size_reach (hwt _ ?_), w3, size_reach (hwt _ ?_), w5, size_reach (hwt _ ?_)⟩ <;> simp [DataW.weights, DataW.weightsEach, Try.underlying26]
theorem weights_in12 {P : Program} {e : TypeId} : ∀ (ds : List (DataW H)) (d : DataW H), d ∈ ds → ∀ n ∈ d.weights P e, n ∈ DataW.weightsAll P e ds
  | [], _, h, _, _ => by cases h
  | x :: r, d, h, n, hn => by
    unfold DataW.weightsAll
    rw [List.mem_append]
    rcases List.mem_cons.1 h with rfl | h
    · exact .inl hn
    · exact .inr (weights_in12 r d h n hn)
theorem bytesFld12 : Try.prog.bytesOf 57 = 24 := by kernel_rfl
theorem bytesRec12 : Try.prog.bytesOf 47 = 88 := by kernel_rfl
theorem open_flds_w {fuel : Nat} {cs : List Value} {x : DataW H × List MemPlace} (hl1 : cs.length = 1)
    (hf : DataW.trod enc Try.prog w 0 (fun _ => true) true fuel 45 cs = some x) (hwt : ∀ n ∈ x.1.weights Try.prog 45, n ≤ reachBytes) :
    ∃ A n cap, cs = [.slice A n cap] ∧ n ≤ cap ∧ n * 24 ≤ 140737488351232 ∧ ∃ fs, IsFs w A n fs := by
  obtain ⟨A, n, cap, rfl, h1, fs, h2⟩ := open_flds_c hl1 hf
  refine ⟨A, n, cap, rfl, h1, ?_, fs, h2⟩
  rcases Go.Deep.open_slice Try.underlying45 hf with ⟨hcs, _⟩ | ⟨x', l, c, m, q, D, Pl, hcs, _, hl, hm, hmm, hx, hrow⟩
  · simp at hcs
    omega
  · simp at hcs
    obtain ⟨rfl, rfl, rfl⟩ := hcs
    simp only [if_true] at hmm
    subst hmm
    have hd := congrArg Prod.fst hx
    simp only at hd
    rw [hd] at hwt
    have hw0 := hwt ((((List.range n).map D).length + ((List.range (m - n)).map fun j => D (n + j)).length) * Try.prog.bytesOf 57) (by simp [DataW.weights, Try.underlying45])
    rw [bytesFld12] at hw0
    simp only [List.length_map, List.length_range] at hw0
    have hrb : reachBytes = 140737488351232 := by decide
    omega
theorem trod_rec12 {fuel : Nat} {cs : List Value} {x : DataW H × List MemPlace}
    (h : DataW.trod enc Try.prog w 0 (fun _ => true) true fuel 47 cs = some x) (hwt : ∀ n ∈ x.1.weights Try.prog 47, n ≤ reachBytes) :
    ∃ (rc : Rcd) (E : Option Addr) (k c : Nat), cs = [.string rc.key, .string rc.value, .int .i64 rc.rev, .int .i64 rc.life, .string rc.note, .slice E k c] ∧ RcW rc ∧ k ≤ c ∧ IsFs w E k rc.extra := by
  obtain ⟨f0, f1, f2, f3, f4, f5, hu, ⟨o0, k0⟩, ⟨o1, k1⟩, ⟨o2, k2⟩, ⟨o3, k3⟩, ⟨o4, k4⟩, ⟨o5, k5⟩⟩ := fieldsRec_
  obtain ⟨xs, m, _, hx0, hlen, hxl, hel⟩ := DataW.trod_struct hu h
  rw [cellsRec_] at hlen
  have hx6 : xs.length = 6 := by simpa using hxl
  have h0 := hel 0 f0 rfl
  have h1 := hel 1 f1 rfl
  have h2 := hel 2 f2 rfl
  have h3 := hel 3 f3 rfl
  have h4 := hel 4 f4 rfl
  have h5 := hel 5 f5 rfl
  clear hel
  obtain ⟨c0, c1, c2, c3, c4, c5, rfl⟩ : ∃ c0 c1 c2 c3 c4 c5, cs = [c0, c1, c2, c3, c4, c5] := match cs, hlen with | [c0, c1, c2, c3, c4, c5], _ => ⟨_, _, _, _, _, _, rfl⟩
  obtain ⟨x0, x1, x2, x3, x4, x5, rfl⟩ : ∃ c0 c1 c2 c3 c4 c5, xs = [c0, c1, c2, c3, c4, c5] := match xs, hx6 with | [c0, c1, c2, c3, c4, c5], _ => ⟨_, _, _, _, _, _, rfl⟩
  rw [o0, k0, cellsStr] at h0
  rw [o1, k1, cellsStr] at h1
  rw [o2, k2, cellsInt] at h2
  rw [o3, k3, cellsInt] at h3
  rw [o4, k4, cellsStr] at h4
  rw [o5, k5, cellsFlds_] at h5
  have hd : x.1 = .agg [x0.1, x1.1, x2.1, x3.1, x4.1, x5.1] := by have := congrArg Prod.fst hx0; simpa using this
  rw [hd] at hwt
  obtain ⟨s0, z0, e0, _⟩ := DataW.trod_string Try.underlying9 (show DataW.trod enc Try.prog w 0 (fun _ => true) true m 9 [c0] = some x0 from h0)
  obtain ⟨s1, z1, e1, _⟩ := DataW.trod_string Try.underlying9 (show DataW.trod enc Try.prog w 0 (fun _ => true) true m 9 [c1] = some x1 from h1)
  obtain ⟨i2, z2, e2, w2⟩ := DataW.trod_int Try.underlying3 (show DataW.trod enc Try.prog w 0 (fun _ => true) true m 3 [c2] = some x2 from h2)
  obtain ⟨i3, z3, e3, w3⟩ := DataW.trod_int Try.underlying3 (show DataW.trod enc Try.prog w 0 (fun _ => true) true m 3 [c3] = some x3 from h3)
  obtain ⟨s4, z4, e4, _⟩ := DataW.trod_string Try.underlying9 (show DataW.trod enc Try.prog w 0 (fun _ => true) true m 9 [c4] = some x4 from h4)
  obtain ⟨A, n, cap, hA, hn, h24, fs, hF⟩ := open_flds_w rfl (show DataW.trod enc Try.prog w 0 (fun _ => true) true m 45 [c5] = some x5 from h5) (fun k hk => hwt k (by simp [DataW.weights, DataW.weightsEach, Try.underlying47, hk]))
  simp only [List.cons.injEq, and_true] at z0 z1 z2 z3 z4 hA
  subst z0 z1 z2 z3 z4 hA
  subst e0 e1 e2 e3 e4
  refine ⟨⟨s0, s1, i2, i3, s4, fs⟩, A, n, cap, rfl, ⟨⟨size_reach (hwt _ ?_), size_reach (hwt _ ?_), size_reach (hwt _ ?_)⟩, w2, w3, by have := hF.1; show fs.length * 24 ≤ _; omega⟩, hn, hF⟩ <;> simp [DataW.weights, DataW.weightsEach, Try.underlying47]
theorem open_recs {v : Value} {d : DataW H} {ps : List MemPlace} {r : Reach} {b0 : Nat}
    (hv : Value.okWide Try.prog w r b0 23 v) (h : DataW.Trod enc Try.prog w 0 (fun _ => true) true 23 v d ps)
    (hwt : ∀ n ∈ d.weights Try.prog 23, n ≤ reachBytes) : ∃ A n cap l, v = .slice A n cap ∧ IsTs w A n l ∧ n ≤ cap ∧ n * 88 ≤ 140737488351232 := by
  obtain ⟨A, n, cap, rfl⟩ := okWide_slice Try.underlying23 hv
  obtain ⟨fuel, hf⟩ := h
  rcases Go.Deep.open_slice Try.underlying23 hf with ⟨hcs, _⟩ | ⟨x, l, c, m, q, D, Pl, hcs, _, hl, hm, hmm, hx, hrow⟩
  · simp [Value.cells] at hcs
    obtain ⟨rfl, rfl, rfl⟩ := hcs
    exact ⟨none, 0, 0, [], rfl, isTs_nil _ _, Nat.le_refl _, by omega⟩
  · simp [Value.cells] at hcs
    obtain ⟨rfl, rfl, rfl⟩ := hcs
    simp only [if_true] at hmm
    subst hmm
    have hd := congrArg Prod.fst hx
    simp only at hd
    rw [hd] at hwt
    have hw0 := hwt ((((List.range n).map D).length + ((List.range (m - n)).map fun j => D (n + j)).length) * Try.prog.bytesOf 47) (by simp [DataW.weights, Try.underlying23])
    rw [bytesRec12] at hw0
    simp only [List.length_map, List.length_range] at hw0
    have hrb : reachBytes = 140737488351232 := by decide
    have hel : ∀ i, i < n → ∀ k ∈ (D i).weights Try.prog 47, k ≤ reachBytes := fun i hi k hk => by
      refine hwt k ?_
      simp only [DataW.weights, Try.underlying23]
      exact List.mem_cons_of_mem _ (List.mem_append_left _ (weights_in12 _ (D i) (List.mem_map.2 ⟨i, List.mem_range.2 hi, rfl⟩) k hk))
    have key : ∀ i, i < n → ∃ t : Rcd, (∃ E k c, (w.cell? (x.add (i * 6)) = some (.string t.key) ∧ w.cell? (x.add (i * 6 + 1)) = some (.string t.value) ∧ w.cell? (x.add (i * 6 + 2)) = some (.int .i64 t.rev) ∧ w.cell? (x.add (i * 6 + 3)) = some (.int .i64 t.life) ∧ w.cell? (x.add (i * 6 + 4)) = some (.string t.note) ∧ w.cell? (x.add (i * 6 + 5)) = some (.slice E k c)) ∧ k ≤ c ∧ IsFs w E k t.extra) ∧ RcW t := by
      intro i hi'
      obtain ⟨cs', hc, ht'⟩ := hrow i (by omega)
      rw [cellsRec_] at hc
      obtain ⟨_, hcl, hat⟩ := World.cells?_some hc
      obtain ⟨t, E, k, c, rfl, hwf, hkc, hfs⟩ := trod_rec12 ht' (hel i hi')
      have g0 := hat 0 (by omega)
      have g1 := hat 1 (by omega)
      have g2 := hat 2 (by omega)
      have g3 := hat 3 (by omega)
      have g4 := hat 4 (by omega)
      have g5 := hat 5 (by omega)
      rw [Go.Deep.add_add] at g0 g1 g2 g3 g4 g5
      exact ⟨t, ⟨E, k, c, ⟨by simpa using g0, by simpa using g1, by simpa using g2, by simpa using g3, by simpa using g4, by simpa using g5⟩, hkc, hfs⟩, hwf⟩
    obtain ⟨F, hF⟩ : ∃ F : Nat → Rcd, ∀ i, i < n → (∃ E k c, (w.cell? (x.add (i * 6)) = some (.string (F i).key) ∧ w.cell? (x.add (i * 6 + 1)) = some (.string (F i).value) ∧ w.cell? (x.add (i * 6 + 2)) = some (.int .i64 (F i).rev) ∧ w.cell? (x.add (i * 6 + 3)) = some (.int .i64 (F i).life) ∧ w.cell? (x.add (i * 6 + 4)) = some (.string (F i).note) ∧ w.cell? (x.add (i * 6 + 5)) = some (.slice E k c)) ∧ k ≤ c ∧ IsFs w E k (F i).extra) ∧ RcW (F i) :=
      ⟨fun i => if h : i < n then Classical.choose (key i h) else zeroR, fun i hi => by simp only [hi, dif_pos]; exact Classical.choose_spec (key i hi)⟩
    have hlen : ((List.range n).map F).length = n := by simp
    have hat : ∀ i, i < n → atR ((List.range n).map F) i = F i := fun i hi => by rw [atR_get (by rw [hlen]; exact hi)]; simp
    refine ⟨_, n, m, (List.range n).map F, rfl, ⟨hlen.symm, Nat.le_trans hl hm, fun f hf => ?_, fun hn => ?_⟩, hl, by omega⟩
    · obtain ⟨i, hi, rfl⟩ := List.mem_map.1 hf
      exact (hF i (List.mem_range.1 hi)).2
    · obtain ⟨⟨_, _, _, ⟨z0, _⟩, _⟩, _⟩ := hF 0 hn
      have hs : x.spot = none := World.cell?_spot (a := x) (by simpa [Addr.add] using z0)
      refine ⟨x.block, x.off, by cases x; simp_all, lt_of_cell (a := ⟨x.block, _, none⟩) (cell_form z0 hs), fun i hi => ?_⟩
      rw [hlen] at hi
      obtain ⟨⟨E, k, c, ⟨e0, e1, e2, e3, e4, e5⟩, hkc, hfs⟩, _⟩ := hF i hi
      rw [hat i hi]
      have e1' := cell_form e1 hs
      have e2' := cell_form e2 hs
      have e3' := cell_form e3 hs
      have e4' := cell_form e4 hs
      have e5' := cell_form e5 hs
      rw [← Nat.add_assoc] at e1' e2' e3' e4' e5'
      exact ⟨E, k, c, ⟨cell_form e0 hs, e1', e2', e3', e4', e5'⟩, hkc, hfs⟩
end
end Go.Proofs.Ytpnkkiokkhmjpaa
