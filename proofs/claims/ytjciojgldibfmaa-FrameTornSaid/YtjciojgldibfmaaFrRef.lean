import Derived.Test.YtjciojgldibfmaaFrs
import Derived.Test.YtjciojgldibfmaaSumFour
import Derived.Test.YtjciojgldibfmaaRefTake
import Derived.Deep.RegionHeld3
import Derived.IntWalk
/-
  The contracts of the document's own Right, head and Encode (stage 6).
-/
namespace Go.Proofs.Ytjciojgldibfmaa
open Go.RowKit

theorem frBlk (w : World) (f : Frm) : (w.alloc (.cells #[.int .i64 f.kind, .int .i64 f.flags, .string f.data] 23)).cell? ⟨w.heap.size, 0, none⟩ = some (.int .i64 f.kind) ∧ (w.alloc (.cells #[.int .i64 f.kind, .int .i64 f.flags, .string f.data] 23)).cell? ⟨w.heap.size, 1, none⟩ = some (.int .i64 f.flags) ∧ (w.alloc (.cells #[.int .i64 f.kind, .int .i64 f.flags, .string f.data] 23)).cell? ⟨w.heap.size, 2, none⟩ = some (.string f.data) := by
  have hx := World.alloc_heap_new w (.cells #[.int .i64 f.kind, .int .i64 f.flags, .string f.data] 23)
  exact ⟨cell_blk hx 0, cell_blk hx 1, cell_blk hx 2⟩

set_option maxRecDepth 100000 in
set_option maxHeartbeats 4000000 in
theorem refright_any (v : Int) (f : Frm) (w : World) :
    Calls Try.prog 15 #[.int .i64 v, .agg #[.int .i64 f.kind, .int .i64 f.flags, .string f.data]] w fun e w' => e = .returned (.bool (okF v f)) ∧ Below w.heap.size w w' := by
  obtain ⟨k, g, d⟩ := f
  have hb0 : Below w.heap.size w (w.alloc (.cells #[.int .i64 k, .int .i64 g, .string d] 23)) := (Below.refl _ _).alloc (Nat.le_refl _) _
  have hno : ∀ (P : Prop), (okF v ⟨k, g, d⟩ = true → ¬ P) → P → Hid (okF v ⟨k, g, d⟩ = false) := fun P h hp => by
    show okF v ⟨k, g, d⟩ = false
    cases hr : okF v ⟨k, g, d⟩ with
    | false => rfl
    | true => exact absurd hp (h hr)
  by_cases h1 : k < 1
  · have E := hno (k < 1) (fun h => by have := okF_iff.1 h; simp only at this; omega) h1
    clear hno
    go_enter Try.func15, Try.ntmps15
    go_wp2_with fail
    go_ret
    exact ⟨ret_bool E.out.symm, hb0⟩
  by_cases h2 : 255 < k
  · have E := hno (255 < k) (fun h => by have := okF_iff.1 h; simp only at this; omega) h2
    clear hno
    go_enter Try.func15, Try.ntmps15
    go_wp2_with fail
    go_ret
    exact ⟨ret_bool E.out.symm, hb0⟩
  by_cases h3 : g < 0
  · have E := hno (g < 0) (fun h => by have := okF_iff.1 h; simp only at this; omega) h3
    clear hno
    go_enter Try.func15, Try.ntmps15
    go_wp2_with fail
    go_ret
    exact ⟨ret_bool E.out.symm, hb0⟩
  by_cases h4 : 255 < g
  · have E := hno (255 < g) (fun h => by have := okF_iff.1 h; simp only at this; omega) h4
    clear hno
    go_enter Try.func15, Try.ntmps15
    go_wp2_with fail
    go_ret
    exact ⟨ret_bool E.out.symm, hb0⟩
  by_cases h5 : 4000 < d.size
  · have E := hno (4000 < d.size) (fun h => by have := okF_iff.1 h; simp only at this; omega) h5
    clear hno
    go_enter Try.func15, Try.ntmps15
    go_wp2_with fail
    go_ret
    exact ⟨ret_bool E.out.symm, hb0⟩
  have hsz : d.size ≤ 4000 := by omega
  by_cases h6 : v = 2
  · have E : Hid (okF v ⟨k, g, d⟩ = true) := by show _ = _; rw [okF_iff]; simp only; omega
    subst h6
    clear hno
    go_enter Try.func15, Try.ntmps15
    go_wp2_with fail
    go_ret
    exact ⟨ret_bool E.out.symm, hb0⟩
  have h6' : (v == 2) = false := by simpa using h6
  by_cases h7 : v = 1
  · by_cases h8 : k ≤ 9
    · by_cases h9 : g = 0
      · have E : Hid (okF v ⟨k, g, d⟩ = true) := by show _ = _; rw [okF_iff]; simp only; omega
        subst h7
        subst h9
        clear hno h6 h6'
        go_enter Try.func15, Try.ntmps15
        go_wp2_with fail
        go_ret
        exact ⟨ret_bool E.out.symm, hb0⟩
      · have E := hno (¬ g = 0) (fun h => by have := okF_iff.1 h; simp only at this; omega) h9
        have h9' : (g == 0) = false := by simpa using h9
        subst h7
        clear hno h6 h6' h9
        go_enter Try.func15, Try.ntmps15
        go_wp2_with fail
        go_ret
        exact ⟨ret_bool E.out.symm, hb0⟩
    · have E := hno (¬ k ≤ 9) (fun h => by have := okF_iff.1 h; simp only at this; omega) h8
      subst h7
      clear hno h6 h6'
      go_enter Try.func15, Try.ntmps15
      go_wp2_with fail
      go_ret
      exact ⟨ret_bool E.out.symm, hb0⟩
  · have E := hno (¬ v = 1) (fun h => by have := okF_v h; omega) h7
    have h7' : (v == 1) = false := by simpa using h7
    clear hno h6 h7
    go_enter Try.func15, Try.ntmps15
    go_wp2_with fail
    go_ret
    exact ⟨ret_bool E.out.symm, hb0⟩

/-- A new row of bytes, as a text. -/
theorem conv_new (W : World) (l : List UInt8) : (convert 43 9 (.slice (some ⟨W.heap.size, 0, none⟩) l.length l.length)).run Try.prog (W.alloc (.cells (l.map fun c => Value.int .u8 c.toNat).toArray 5)) = .ok (.string (bs l)) (W.alloc (.cells (l.map fun c => Value.int .u8 c.toNat).toArray 5)) := by
  have hx := World.alloc_heap_new W (.cells (l.map fun c => Value.int .u8 c.toNat).toArray 5)
  refine run_convert_bytes_back _ _ _ 5 ⟨W.heap.size, 0, none⟩ l.length l Try.underlying43 Try.underlying5 Try.underlying9 (fun j hj => ?_)
  rw [show (⟨W.heap.size, 0, none⟩ : Addr).add j = ⟨W.heap.size, j, none⟩ from by by_cases hz : j = 0 <;> simp [Addr.add, hz], cell_blk hx]
  simp [hj]

set_option maxRecDepth 100000 in
set_option maxHeartbeats 4000000 in
theorem refhead_any (v : Int) (f : Frm) (hok : okF v f = true) (w : World) :
    Calls Try.prog 26 #[.int .i64 v, .agg #[.int .i64 f.kind, .int .i64 f.flags, .string f.data]] w fun e w' => e = .returned (.string (bs (headF v f))) ∧ Below w.heap.size w w' := by
  have ho := okF_iff.1 hok
  have hb0 : Below w.heap.size w (w.alloc (.cells #[.int .i64 f.kind, .int .i64 f.flags, .string f.data] 23)) := (Below.refl _ _).alloc (Nat.le_refl _) _
  have hbx := frBlk w f
  obtain ⟨W0, hW0⟩ : ∃ W, w.alloc (.cells #[.int .i64 f.kind, .int .i64 f.flags, .string f.data] 23) = W := ⟨_, rfl⟩
  rw [hW0] at hb0 hbx
  obtain ⟨k, g, d⟩ := f
  simp only at ho hbx
  obtain ⟨c0, c1, c2⟩ := hbx
  have e1 : (((u8 k).toNat : Nat) : Int) = k := u8_nat (by omega) (by omega)
  have e2 : (((u8 g).toNat : Nat) : Int) = g := u8_nat (by omega) (by omega)
  have hd4 : d.size ≤ 4000 := by omega
  rcases okF_v hok with rfl | rfl
  · have e3 : (((UInt8.ofNat (d.size / 256)).toNat : Nat) : Int) = (d.size : Int) / 256 := by rw [toNat_ofNat_lt (by omega)]; omega
    have e4 : (((UInt8.ofNat (d.size % 256)).toNat : Nat) : Int) = (d.size : Int) % 256 := by rw [toNat_ofNat_lt (by omega)]; omega
    have hcv : ∀ W : World, (convert 43 9 (.slice (some ⟨W.heap.size, 0, none⟩) 4 4)).run Try.prog (W.alloc (.cells #[.int .u8 97, .int .u8 k, .int .u8 ((d.size : Int) / 256), .int .u8 ((d.size : Int) % 256)] 5)) = .ok (.string (bs (headF 1 ⟨k, g, d⟩))) (W.alloc (.cells #[.int .u8 97, .int .u8 k, .int .u8 ((d.size : Int) / 256), .int .u8 ((d.size : Int) % 256)] 5)) := fun W => by
      have h := conv_new W (headF 1 ⟨k, g, d⟩)
      have e : ((headF 1 ⟨k, g, d⟩).map fun c => Value.int .u8 c.toNat).toArray = #[.int .u8 97, .int .u8 k, .int .u8 ((d.size : Int) / 256), .int .u8 ((d.size : Int) % 256)] := by
        show #[Value.int .u8 97, .int .u8 (((u8 k).toNat : Nat) : Int), .int .u8 (((UInt8.ofNat (d.size / 256)).toNat : Nat) : Int), .int .u8 (((UInt8.ofNat (d.size % 256)).toNat : Nat) : Int)] = _
        rw [e1, e3, e4]
      rw [e] at h
      exact h
    have hk0 : 0 ≤ k := by omega
    have hk1 : k ≤ 255 := by omega
    clear ho hok e1 e2 e3 e4
    go_enter Try.func26, Try.ntmps26
    go_wp2_with fail
    go_ret
    exact ⟨rfl, hb0.alloc hb0.size _⟩
  · have q := refput_ok (d.size : Int) (by omega) (by omega)
    rw [Int.toNat_natCast] at q
    have hcv : ∀ W : World, (convert 43 9 (.slice (some ⟨W.heap.size, 0, none⟩) 3 3)).run Try.prog (W.alloc (.cells #[.int .u8 98, .int .u8 g, .int .u8 k] 5)) = .ok (.string (bs [98, u8 g, u8 k])) (W.alloc (.cells #[.int .u8 98, .int .u8 g, .int .u8 k] 5)) := fun W => by
      have h := conv_new W [98, u8 g, u8 k]
      have e : ([98, u8 g, u8 k].map fun c => Value.int .u8 c.toNat).toArray = #[.int .u8 98, .int .u8 g, .int .u8 k] := by
        show #[Value.int .u8 98, .int .u8 (((u8 g).toNat : Nat) : Int), .int .u8 (((u8 k).toNat : Nat) : Int)] = _
        rw [e1, e2]
      rw [e] at h
      exact h
    have h8 := vb_len8 (n := d.size) (by omega)
    obtain ⟨P, hP⟩ : ∃ P, bs (vb d.size) = P := ⟨_, rfl⟩
    obtain ⟨Q, hQ⟩ : ∃ Q, bs [98, u8 g, u8 k] = Q := ⟨_, rfl⟩
    have hadd : ∀ W : World, (Op.stringOp .add Q P).run Try.prog W = .ok (.string (bs (headF 2 ⟨k, g, d⟩))) W := fun W => by
      rw [← hP, ← hQ, str_add (by rw [bs_size, bs_size]; simp; omega), bs_append]; rfl
    rw [hP] at q
    simp only [hQ] at hcv
    have hk0 : 0 ≤ k := by omega
    have hk1 : k ≤ 255 := by omega
    have hg0 : 0 ≤ g := by omega
    have hg1 : g ≤ 255 := by omega
    have hlt : w.heap.size < W0.heap.size := by rw [← hW0]; simp
    have HL := Lib.hid hlt
    clear ho hok e1 e2 h8 hP hQ hlt
    generalize bs (headF 2 ⟨k, g, d⟩) = R at *
    go_enter Try.func26, Try.ntmps26
    go_wp2_with fail
    ((with_reducible refine (q _).mono ?_); rintro e W1 ⟨rfl, b1⟩)
    have c3 := (b1.cell (p := ⟨w.heap.size, 0, none⟩) HL.out).trans c0
    have c4 := (b1.cell (p := ⟨w.heap.size, 1, none⟩) HL.out).trans c1
    have hb1 := bch hb0 b1
    clear c0 c1 c2 hb0 hW0 b1
    go_wp2_with fail
    go_ret
    exact ⟨rfl, hb1.alloc hb1.size _⟩

theorem fr_keep {x : Nat} {w0 W W' : World} {v0 v1 v2 : Value}
    (h : W.cell? ⟨x, 0, none⟩ = some v0 ∧ W.cell? ⟨x, 1, none⟩ = some v1 ∧ W.cell? ⟨x, 2, none⟩ = some v2 ∧ Below w0.heap.size w0 W) (b : Below W.heap.size W W') :
    W'.cell? ⟨x, 0, none⟩ = some v0 ∧ W'.cell? ⟨x, 1, none⟩ = some v1 ∧ W'.cell? ⟨x, 2, none⟩ = some v2 ∧ Below w0.heap.size w0 W' := by
  obtain ⟨h0, h1, h2, h6⟩ := h
  have hlt := lt_of_cell (a := ⟨x, 0, none⟩) h0
  exact ⟨(b.cell (p := ⟨x, 0, none⟩) hlt).trans h0, (b.cell (p := ⟨x, 1, none⟩) hlt).trans h1, (b.cell (p := ⟨x, 2, none⟩) hlt).trans h2, bch h6 b⟩
theorem refof_list {S : ByteArray} {l : List UInt8} {u : Nat} (h : S.data.toList = l) (hu : sumR l = u) (hs : S.size ≤ 140737488355328) (w : World) :
    Calls Try.prog 28 #[.string S] w fun e w' => e = .returned (.int .i64 u) ∧ w = w' := by
  have := refof_any S hs w
  rwa [h, hu] at this
theorem refbytes_at {n : Nat} {S : ByteArray} (h : n < 4294967296) (hS : bs (le4 n) = S) (w : World) :
    Calls Try.prog 27 #[.int .i64 n] w fun e w' => e = .returned (.string S) ∧ Below w.heap.size w w' := by
  have := refbytes_ok n h w
  rwa [hS] at this
theorem head_le {v : Int} {f : Frm} (h : okF v f = true) : (headF v f).length ≤ 11 := by
  have ho := okF_iff.1 h
  have h8 := vb_len8 (n := f.data.size) (by omega)
  rcases okF_v h with rfl | rfl
  · rw [head_len1]; omega
  · rw [head_len2]; omega
/-- What Encode answers. -/
def encA (v : Int) (f : Frm) : List UInt8 := if okF v f = true then encF v f else []
def encE (v : Int) (f : Frm) : Int := if okF v f = true then 0 else 1

set_option maxRecDepth 100000 in
set_option maxHeartbeats 4000000 in
theorem refencode_any (v : Int) (f : Frm) (w : World) :
    Calls Try.prog 13 #[.int .i64 v, .agg #[.int .i64 f.kind, .int .i64 f.flags, .string f.data]] w fun e w' => e = .returned (.tuple #[.string (bs (encA v f)), .int .i64 (encE v f)]) ∧ Below w.heap.size w w' := by
  have hb0 : Below w.heap.size w (w.alloc (.cells #[.int .i64 f.kind, .int .i64 f.flags, .string f.data] 23)) := (Below.refl _ _).alloc (Nat.le_refl _) _
  have hbx := frBlk w f
  obtain ⟨W0, hW0⟩ : ∃ W, w.alloc (.cells #[.int .i64 f.kind, .int .i64 f.flags, .string f.data] 23) = W := ⟨_, rfl⟩
  have hlt : w.heap.size < W0.heap.size := by rw [← hW0]; simp
  have HL := Lib.hid hlt; clear hlt
  rw [hW0] at hb0 hbx
  obtain ⟨c0, c1, c2⟩ := hbx
  have q := fun W => refright_any v f W
  cases hok : okF v f with
  | false =>
    rw [hok] at q
    have E : Hid (encA v f = [] ∧ encE v f = 1) := by
      show _ ∧ _
      unfold encA encE; rw [hok]; exact ⟨rfl, rfl⟩
    clear hok
    go_enter Try.func13, Try.ntmps13
    go_wp2_with fail
    ((with_reducible refine (q _).mono ?_); rintro e W1 ⟨rfl, b1⟩)
    go_wp2_with fail
    go_ret2
    exact ⟨by rw [E.out.1, E.out.2]; rfl, bch hb0 b1⟩
  | true =>
    rw [hok] at q
    have q2 := fun W => refhead_any v f hok W
    have E : Hid (encA v f = encF v f ∧ encE v f = 0) := by
      show _ ∧ _
      unfold encA encE; rw [hok]; exact ⟨rfl, rfl⟩
    have hl := head_le hok
    have ho := okF_iff.1 hok
    obtain ⟨H, hH⟩ : ∃ H, bs (headF v f) = H := ⟨_, rfl⟩
    have zH : H.size ≤ 11 := by rw [← hH, bs_size]; exact hl
    obtain ⟨B, hB⟩ : ∃ B, H ++ f.data = B := ⟨_, rfl⟩
    have zB : B.size = H.size + f.data.size := by rw [← hB]; exact ByteArray.size_append
    have dB : B.data.toList = bodyF v f := by rw [← hB, add_data, ← hH, bs_data]; rfl
    obtain ⟨u, hu⟩ : ∃ u, sumR (bodyF v f) = u := ⟨_, rfl⟩
    have o1 := refof_list dB hu (by omega)
    have lu : u < 4294967296 := by rw [← hu]; exact sumR_lt _
    obtain ⟨S, hS⟩ : ∃ S, bs (le4 u) = S := ⟨_, rfl⟩
    have zS : S.size = 4 := by rw [← hS, bs_size]; rfl
    have y1 := refbytes_at lu hS
    have ha1 : ∀ W : World, (Op.stringOp .add H f.data).run Try.prog W = .ok (.string B) W := fun W => by rw [← hB]; exact str_add (by omega) W
    have ha2 : ∀ W : World, (Op.stringOp .add B S).run Try.prog W = .ok (.string (bs (encF v f))) W := fun W => by
      rw [str_add (by omega) W, ← hS]
      have : B ++ bs (le4 u) = bs (encF v f) := by rw [bs_of B, dB, bs_append, ← hu]; rfl
      rw [this]
    rw [hH] at q2
    clear hok hl ho hH zH hB zB dB hu lu hS zS
    obtain ⟨R, hR⟩ : ∃ R, bs (encF v f) = R := ⟨_, rfl⟩
    simp only [hR] at ha2
    have HR : Hid (bs (encA v f) = R ∧ encE v f = 0) := by
      have := E.out
      exact ⟨by rw [this.1, hR], this.2⟩
    clear hR E
    go_enter Try.func13, Try.ntmps13
    go_wp2_with fail
    ((with_reducible refine (q _).mono ?_); rintro e W1 ⟨rfl, b1⟩)
    have hS1 : ∀ W, W = W1.drew → (W.cell? ⟨w.heap.size, 0, none⟩ = some (.int .i64 f.kind) ∧ W.cell? ⟨w.heap.size, 1, none⟩ = some (.int .i64 f.flags) ∧ W.cell? ⟨w.heap.size, 2, none⟩ = some (.string f.data) ∧ Below w.heap.size w W) := by
      rintro W rfl
      have := fr_keep ⟨c0, c1, c2, hb0⟩ b1
      exact ⟨this.1, this.2.1, this.2.2.1, this.2.2.2.drew⟩
    have HS := Lib.hid hS1; clear hS1 hb0 b1 hW0 c0 c1 c2
    go_wp2_with fail
    go_region_held3 (fun W => W.cell? ⟨w.heap.size, 0, none⟩ = some (.int .i64 f.kind) ∧ W.cell? ⟨w.heap.size, 1, none⟩ = some (.int .i64 f.flags) ∧ W.cell? ⟨w.heap.size, 2, none⟩ = some (.string f.data) ∧ Below w.heap.size w W) (first | exact HS.out _ rfl | exact fr_keep (by assumption) (by assumption)) (first | ((with_reducible refine (q2 _).mono ?_); rintro e w' ⟨rfl, bq⟩))
    rename_i hH
    have hb2 := hH.2.2.2
    clear HS hH
    go_wp2_with fail
    ((with_reducible refine (o1 _).mono ?_); rintro e W ⟨rfl, rfl⟩)
    go_wp2_with fail
    ((with_reducible refine (y1 _).mono ?_); rintro e W3 ⟨rfl, b3⟩)
    go_wp2_with fail
    go_ret2
    exact ⟨by rw [HR.out.1, HR.out.2]; rfl, bch hb2 b3⟩
end Go.Proofs.Ytjciojgldibfmaa
