import Derived.Test.YtljjbpgbddaekaaOpenLt
/-
  A slice of letters that came in, opened to cells.
-/
namespace Go.Proofs.Ytljjbpgbddaekaa
open Go.RowKit Go.ChangeShapes Go.WideShapes

section
variable {H : Type} {enc : TypeId × Value → H} {w : World}
theorem weights_in {P : Program} {e : TypeId} : ∀ (ds : List (DataW H)) (d : DataW H), d ∈ ds → ∀ n ∈ d.weights P e, n ∈ DataW.weightsAll P e ds
  | [], _, h, _, _ => by cases h
  | x :: r, d, h, n, hn => by
    unfold DataW.weightsAll
    rw [List.mem_append]
    rcases List.mem_cons.1 h with rfl | h
    · exact .inl hn
    · exact .inr (weights_in r d h n hn)
theorem trod_letter {fuel : Nat} {cs : List Value} {x : DataW H × List MemPlace}
    (h : DataW.trod enc Try.prog w 0 (fun _ => true) true fuel 25 cs = some x) (hwt : ∀ n ∈ x.1.weights Try.prog 25, n ≤ reachBytes) :
    ∃ m : Lt, cs = [.int .i64 m.frm, .int .i64 m.to, .string m.bytes] ∧ LtWf m := by
  obtain ⟨f0, f1, f2, hu, ⟨o0, k0⟩, ⟨o1, k1⟩, ⟨o2, k2⟩⟩ := fieldsLt
  obtain ⟨xs, m, _, hx0, hlen, hxl, hel⟩ := DataW.trod_struct hu h
  rw [cellsLt] at hlen
  have hx3 : xs.length = 3 := by simpa using hxl
  have h0 := hel 0 f0 rfl
  have h1 := hel 1 f1 rfl
  have h2 := hel 2 f2 rfl
  clear hel
  obtain ⟨c0, c1, c2, rfl⟩ : ∃ c0 c1 c2, cs = [c0, c1, c2] := match cs, hlen with | [c0, c1, c2], _ => ⟨_, _, _, rfl⟩
  obtain ⟨x0, x1, x2, rfl⟩ : ∃ c0 c1 c2, xs = [c0, c1, c2] := match xs, hx3 with | [c0, c1, c2], _ => ⟨_, _, _, rfl⟩
  rw [o0, k0, cellsInt11] at h0
  rw [o1, k1, cellsInt11] at h1
  rw [o2, k2, cellsStr11] at h2
  obtain ⟨i0, z0, e0, w0⟩ := DataW.trod_int Try.underlying3 (show DataW.trod enc Try.prog w 0 (fun _ => true) true m 3 [c0] = some x0 from h0)
  obtain ⟨i1, z1, e1, w1⟩ := DataW.trod_int Try.underlying3 (show DataW.trod enc Try.prog w 0 (fun _ => true) true m 3 [c1] = some x1 from h1)
  obtain ⟨s2, z2, e2, _⟩ := DataW.trod_string Try.underlying9 (show DataW.trod enc Try.prog w 0 (fun _ => true) true m 9 [c2] = some x2 from h2)
  simp only [List.cons.injEq, and_true] at z0 z1 z2
  subst z0 z1 z2
  subst e0 e1 e2
  have hb : s2.size ≤ 140737488355328 := by
    have h := hwt s2.data.toList.length (by rw [hx0]; simp [DataW.weights, DataW.weightsEach, Try.underlying25])
    have : s2.size = s2.data.toList.length := by rw [Array.length_toList]; rfl
    have := reachBytes_lt
    omega
  exact ⟨⟨i0, i1, s2⟩, rfl, w0, w1, hb⟩
theorem bytesLt : Try.prog.bytesOf 25 = 32 := by kernel_rfl
theorem open_lts {v : Value} {d : DataW H} {ps : List MemPlace} {r : Reach} {b0 : Nat}
    (hv : Value.okWide Try.prog w r b0 23 v) (h : DataW.Trod enc Try.prog w 0 (fun _ => true) true 23 v d ps)
    (hwt : ∀ n ∈ d.weights Try.prog 23, n ≤ reachBytes) : ∃ A n cap l, v = .slice A n cap ∧ IsLs w A n l ∧ n ≤ cap ∧ n * 32 ≤ 140737488351232 := by
  obtain ⟨A, n, cap, rfl⟩ := okWide_slice Try.underlying23 hv
  obtain ⟨fuel, hf⟩ := h
  rcases Go.Deep.open_slice Try.underlying23 hf with ⟨hcs, _⟩ | ⟨x, l, c, m, q, D, Pl, hcs, _, hl, hm, hmm, hx, hrow⟩
  · simp [Value.cells] at hcs
    obtain ⟨rfl, rfl, rfl⟩ := hcs
    exact ⟨none, 0, 0, [], rfl, isLs_nil _ _, Nat.le_refl _, by omega⟩
  · simp [Value.cells] at hcs
    obtain ⟨rfl, rfl, rfl⟩ := hcs
    simp only [if_true] at hmm
    subst hmm
    have hd := congrArg Prod.fst hx
    simp only at hd
    rw [hd] at hwt
    have hw0 := hwt ((((List.range n).map D).length + ((List.range (m - n)).map fun j => D (n + j)).length) * Try.prog.bytesOf 25) (by simp [DataW.weights, Try.underlying23])
    rw [bytesLt] at hw0
    simp only [List.length_map, List.length_range] at hw0
    have hrb : reachBytes = 140737488351232 := by decide
    have hel : ∀ i, i < n → ∀ k ∈ (D i).weights Try.prog 25, k ≤ reachBytes := fun i hi k hk => by
      refine hwt k ?_
      simp only [DataW.weights, Try.underlying23]
      exact List.mem_cons_of_mem _ (List.mem_append_left _ (weights_in _ (D i) (List.mem_map.2 ⟨i, List.mem_range.2 hi, rfl⟩) k hk))
    have key : ∀ i, i < n → ∃ t : Lt, (w.cell? (x.add (i * 3)) = some (.int .i64 t.frm) ∧ w.cell? (x.add (i * 3 + 1)) = some (.int .i64 t.to) ∧ w.cell? (x.add (i * 3 + 2)) = some (.string t.bytes)) ∧ LtWf t := by
      intro i hi'
      obtain ⟨cs', hc, ht'⟩ := hrow i (by omega)
      rw [cellsLt] at hc
      obtain ⟨_, hcl, hat⟩ := World.cells?_some hc
      obtain ⟨t, rfl, hwf⟩ := trod_letter ht' (hel i hi')
      have g0 := hat 0 (by omega)
      have g1 := hat 1 (by omega)
      have g2 := hat 2 (by omega)
      rw [Go.Deep.add_add] at g0 g1 g2
      exact ⟨t, ⟨by simpa using g0, by simpa using g1, by simpa using g2⟩, hwf⟩
    obtain ⟨F, hF⟩ : ∃ F : Nat → Lt, ∀ i, i < n → (w.cell? (x.add (i * 3)) = some (.int .i64 (F i).frm) ∧ w.cell? (x.add (i * 3 + 1)) = some (.int .i64 (F i).to) ∧ w.cell? (x.add (i * 3 + 2)) = some (.string (F i).bytes)) ∧ LtWf (F i) :=
      ⟨fun i => if h : i < n then Classical.choose (key i h) else zeroL, fun i hi => by simp only [hi, dif_pos]; exact Classical.choose_spec (key i hi)⟩
    have hlen : ((List.range n).map F).length = n := by simp
    have hat : ∀ i, i < n → atL ((List.range n).map F) i = F i := fun i hi => by rw [atL_get (by rw [hlen]; exact hi)]; simp
    refine ⟨_, n, m, (List.range n).map F, rfl, ⟨hlen.symm, Nat.le_trans hl hm, fun f hf => ?_, fun hn => ?_⟩, hl, by omega⟩
    · obtain ⟨i, hi, rfl⟩ := List.mem_map.1 hf
      exact (hF i (List.mem_range.1 hi)).2
    · have z0 := (hF 0 hn).1.1
      have hs : x.spot = none := World.cell?_spot (a := x) (by simpa [Addr.add] using z0)
      refine ⟨x.block, x.off, by cases x; simp_all, lt_of_cell (a := ⟨x.block, _, none⟩) (cell_form z0 hs), fun i hi => ?_⟩
      rw [hlen] at hi
      obtain ⟨⟨e1, e2, e3⟩, _⟩ := hF i hi
      rw [hat i hi]
      have e2' := cell_form e2 hs
      have e3' := cell_form e3 hs
      rw [← Nat.add_assoc] at e2' e3'
      exact ⟨cell_form e1 hs, e2', e3'⟩
end
end Go.Proofs.Ytljjbpgbddaekaa
