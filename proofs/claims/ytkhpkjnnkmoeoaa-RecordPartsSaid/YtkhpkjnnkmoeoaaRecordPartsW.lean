/-
  The walk of the law RecordParts.
-/
import Derived.Test.YtkhpkjnnkmoeoaaRecLaw
namespace Go.Proofs.Ytkhpkjnnkmoeoaa
open Go.RowKit
set_option linter.unusedVariables false
set_option linter.unusedSimpArgs false

def fo (o : Option ByteArray) : ByteArray × Bool := match o with | some d => (d, true) | none => (ByteArray.empty, false)
theorem find_parts {o1 o2 o3 o4 o5 : Option ByteArray} {E : List Fld} (hE : ∀ f ∈ E, 5 < f.1) :
    findR (parts o1 o2 o3 o4 o5 E) 1 = fo o1 ∧ findR (parts o1 o2 o3 o4 o5 E) 2 = fo o2 ∧ findR (parts o1 o2 o3 o4 o5 E) 3 = fo o3 ∧ findR (parts o1 o2 o3 o4 o5 E) 4 = fo o4 ∧ findR (parts o1 o2 o3 o4 o5 E) 5 = fo o5 := by
  have hn : ∀ t : Int, t ≤ 5 → E.find? (fun f => f.1 == t) = none := by
    intro t ht
    rw [List.find?_eq_none]
    intro f hf
    have := hE f hf
    simp; omega
  have n1 := hn 1 (by omega)
  have n2 := hn 2 (by omega)
  have n3 := hn 3 (by omega)
  have n4 := hn 4 (by omega)
  have n5 := hn 5 (by omega)
  cases o1 <;> cases o2 <;> cases o3 <;> cases o4 <;> cases o5 <;> simp [parts, opt, findR, fo, n1, n2, n3, n4, n5]
theorem fo_ob (d : ByteArray) : fo (ob d) = (d, !(d.toList.isEmpty)) := by
  by_cases h : d.size = 0
  · have e := (toList_size d).2 h
    unfold ob; rw [if_pos h, e, empty_of h]; rfl
  · have e := toList_ne0 h
    unfold ob; rw [if_neg h, e]; rfl
theorem fo_num {n : Int} (h : 0 ≤ n) : (fo (ob (numD n))).2 = decide (0 < n) := by
  by_cases h0 : n = 0
  · subst h0; rfl
  · have h1 : (numD n).size ≠ 0 := fun h2 => h0 (numD_zero.1 h2)
    unfold ob; rw [if_neg h1]
    have : decide (0 < n) = true := by simp; omega
    rw [this]; rfl
theorem find_fields {r : Rcd} (hp : RightP 2 r) : findR (fieldsR r) 1 = (r.key, true) ∧ findR (fieldsR r) 2 = (r.value, !(r.value.toList.isEmpty)) ∧ (findR (fieldsR r) 3).2 = decide (0 < r.rev) ∧ (findR (fieldsR r) 4).2 = decide (0 < r.life) ∧ findR (fieldsR r) 5 = (r.note, !(r.note.toList.isEmpty)) ∧ 1 + r.extra.length ≤ (fieldsR r).length := by
  have hc := chain_up (extraB_iff.1 hp.2.2.2.2.2).1 (extraB_iff.1 hp.2.2.2.2.2).2.2
  have hE : ∀ f ∈ r.extra, 5 < f.1 := fun f hf => (chain_unknown (Int.le_refl _) hc f hf).2
  have hl := life_bd hp
  obtain ⟨f1, f2, f3, f4, f5⟩ := find_parts (o1 := ob r.key) (o2 := ob r.value) (o3 := ob (numD r.rev)) (o4 := ob (numD r.life)) (o5 := ob r.note) hE
  rw [fieldsR_parts]
  refine ⟨?_, by rw [f2, fo_ob], by rw [f3, fo_num hp.2.2.2.1.1], by rw [f4, fo_num hl.1], by rw [f5, fo_ob], ?_⟩
  · rw [f1, fo_ob, toList_ne0 (by have := hp.2.1; omega)]; rfl
  · have hk : ob r.key = some r.key := by unfold ob; rw [if_neg (by have := hp.2.1; omega)]
    unfold parts
    rw [hk]
    simp only [List.length_append, opt, List.length_singleton]
    omega

set_option maxRecDepth 100000 in
set_option maxHeartbeats 8000000 in
theorem recordParts_walk (x0 x1 x2 x3 x4 : Int) (A : Option Addr) (n cap : Nat) (f : Nat → Nat → Int) (B : Option Addr) (m cap2 : Nat) (g : Nat → ByteArray) (w : World) (h0 : (Lit.int .i64 x0).wf = true) (h1 : (Lit.int .i64 x1).wf = true) (h2 : (Lit.int .i64 x2).wf = true) (h3 : (Lit.int .i64 x3).wf = true) (h4 : (Lit.int .i64 x4).wf = true) (hra : IsRaw w A n 2 f) (hst : IsStrs w B m g) :
    Calls Try.prog 8 #[.agg #[.int .i64 x0, .int .i64 x1, .int .i64 x2, .int .i64 x3, .int .i64 x4], .slice A n cap, .slice B m cap2] w fun e w' => e = .returned (.bool true) ∧ Below w.heap.size w w' := by
  have hb0 : Below w.heap.size w (w.alloc (.cells #[.int .i64 x0, .int .i64 x1, .int .i64 x2, .int .i64 x3, .int .i64 x4] 25)) := (Below.refl _ _).alloc (Nat.le_refl _) _
  have harr : Arr5 (w.alloc (.cells #[.int .i64 x0, .int .i64 x1, .int .i64 x2, .int .i64 x3, .int .i64 x4] 25)) w.heap.size x0 x1 x2 x3 x4 := World.alloc_heap_new w _
  go_enter Try.func8, Try.ntmps8
  go_wp2_with fail
  ((with_reducible refine (awake3_any _).mono ?_); rintro e w1 ⟨rfl, b1⟩)
  have ha1 := harr.below b1
  have hb1 := bch hb0 b1
  clear harr hb0 b1
  have p1 := record_any 2 (.inr rfl) x0 x1 x2 x3 x4 h0 h1 h2 h3 h4 A n cap f B m cap2 g w1 (hra.below hb1) (hst.below hb1)
  obtain ⟨c0, c1, c2, c3, c4⟩ := ha1.cells
  clear ha1
  go_wp2_with fail
  ((with_reducible refine p1.mono ?_); rintro e w2 ⟨A1, n1, cap1, r, rfl, hc1, hf1, hN, b2⟩)
  clear p1 c0 c1 c2 c3 c4
  have hr2 := rcBlk_mk w2 r (.slice A1 n1 cap1)
  have bb2 : Below w2.heap.size w2 (w2.alloc (.cells #[.string r.key, .string r.value, .int .i64 r.rev, .int .i64 r.life, .string r.note, .slice A1 n1 cap1] 24)) := (Below.refl _ _).alloc (Nat.le_refl _) _
  have hf2 := hf1.below bb2
  have hb2 := bch (bch hb1 b2) bb2
  have p2 := rEncode_any 2 r A1 n1 cap1 _ hN.wf hf2
  rw [hN.recE] at p2
  have p3 := decode_any (bs (encL (fieldsR r))) (by rw [bs_size]; have := hN.enc; omega)
  rw [bs_data, dec_enc (right_fields hN.1).1 hN.enc] at p3
  obtain ⟨q1, q2, q3, q4, q5, q6⟩ := find_fields hN.1
  have hn1 : n1 = r.extra.length := hf1.1
  have hfl : (fieldsR r).length ≤ 15 := (right_fields hN.1).2
  clear hf1 bb2 b2 hN
  generalize bs (encL (fieldsR r)) = S at p2 p3
  generalize hfs : fieldsR r = fs at *
  clear hfs
  obtain ⟨y0, y1, y2, y3, y4, y5⟩ := hr2.cells
  have HR2 := Lib.hid hr2
  have Q1 := Lib.hid q1
  have Q2 := Lib.hid q2
  have Q3 := Lib.hid q3
  have Q4 := Lib.hid q4
  have Q5 := Lib.hid q5
  have Q6 := Lib.hid q6
  have HN1 := Lib.hid hn1
  clear hr2 q1 q2 q3 q4 q5 q6 hn1 hf2
  go_wp2_with fail
  ((with_reducible refine p2.mono ?_); rintro e w3 ⟨rfl, b3⟩)
  clear y0 y1 y2 y3 y4 y5 p2
  go_wp2_with fail
  ((with_reducible refine (p3 _).mono ?_); rintro e w4 ⟨A4, n4, cap4, rfl, hc4, hf4, b4⟩)
  have hf4' : IsFs w4 A4 n4 fs := hf4
  have hn4 : n4 = fs.length := hf4.1
  have HR4 := Lib.hid ((HR2.out.below b3).below b4)
  have hb4 := bch (bch hb2 b3) b4
  clear hf4 hb2 b3 b4 p3 HR2
  have F1 := find_any A4 n4 cap4 fs 1 w4 hf4'
  rw [Q1.out] at F1
  have HN4 := Lib.hid hn4
  have hsub : 1 + n1 ≤ n4 := by have := Q6.out; have := HN1.out; omega
  have hn4b : n4 ≤ 15 := by omega
  clear hn4 hfl
  go_wp2_with fail
  ((with_reducible refine F1.mono ?_); rintro e w5 ⟨rfl, b5⟩)
  have f5 := hf4'.below b5
  have F2 := find_any A4 n4 cap4 fs 2 w5 f5
  rw [Q2.out] at F2
  clear F1
  go_wp2_with fail
  ((with_reducible refine F2.mono ?_); rintro e w6 ⟨rfl, b6⟩)
  have f6 := f5.below b6
  have F3 := find_any A4 n4 cap4 fs 5 w6 f6
  rw [Q5.out] at F3
  clear F2
  go_wp2_with fail
  ((with_reducible refine F3.mono ?_); rintro e w7 ⟨rfl, b7⟩)
  have f7 := f6.below b7
  have F4 := find_any A4 n4 cap4 fs 3 w7 f7
  rw [Q3.out] at F4
  generalize (findR fs 3).1 = d3 at F4
  clear F3
  go_wp2_with fail
  ((with_reducible refine F4.mono ?_); rintro e w8 ⟨rfl, b8⟩)
  have f8 := f7.below b8
  have F5 := find_any A4 n4 cap4 fs 4 w8 f8
  rw [Q4.out] at F5
  generalize (findR fs 4).1 = d4 at F5
  clear F4
  go_wp2_with fail
  ((with_reducible refine F5.mono ?_); rintro e w9 ⟨rfl, b9⟩)
  have hr9 := (((((HR4.out.below b5).below b6).below b7).below b8).below b9)
  obtain ⟨y0, y1, y2, y3, y4, y5⟩ := hr9.cells
  have hb9 := bch (bch (bch (bch (bch hb4 b5) b6) b7) b8) b9
  clear hr9 f5 f6 f7 f8 hf4' hb4 b5 b6 b7 b8 b9 F5 hb1
  have hsubD : decide (1 + (n1 : Int) ≤ (n4 : Int)) = true := by simp; omega
  have cV : r.value.toList = [] ∨ r.value.toList.isEmpty = false := by cases h : r.value.toList with | nil => exact .inl rfl | cons a b => exact .inr rfl
  have cN : r.note.toList = [] ∨ r.note.toList.isEmpty = false := by cases h : r.note.toList with | nil => exact .inl rfl | cons a b => exact .inr rfl
  have cR : decide (0 < r.rev) = true ∨ decide (0 < r.rev) = false := by cases decide (0 < r.rev); exact .inr rfl; exact .inl rfl
  have cL : decide (0 < r.life) = true ∨ decide (0 < r.life) = false := by cases decide (0 < r.life); exact .inr rfl; exact .inl rfl
  rcases cV with cV | cV <;> rcases cN with cN | cN <;> rcases cR with cR | cR <;> rcases cL with cL | cL <;> (go_wp2_with fail; go_ret; exact ⟨rfl, hb9⟩)
end Go.Proofs.Ytkhpkjnnkmoeoaa
