import Derived.Test.YtjdpihppniibjaaFTake
import Derived.Test.YtjdpihppniibjaaGMath
import Derived.Test.YtjdpihppniibjaaBuild
import Derived.Maps.AppendAt
import Derived.OwnWalk
import Derived.WalkMore
/-
  The contract of field.Decode: what decR says, in new memory; nothing that was in memory changes.
-/
namespace Go.Proofs.Ytjdpihppniibjaa
open Go.RowKit

/-- Fields' cells in memory. -/
def cellsF (fs : List Fld) : List Value := fs.flatMap fun f => [Value.int .i64 f.1, .string f.2]
theorem cellsF_append (a b : List Fld) : cellsF (a ++ b) = cellsF a ++ cellsF b := by simp [cellsF]
theorem cellsF_len (fs : List Fld) : (cellsF fs).length = fs.length * 2 := by
  induction fs with
  | nil => rfl
  | cons f fs ih => rw [show cellsF (f :: fs) = [Value.int .i64 f.1, .string f.2] ++ cellsF fs from rfl, List.length_append, ih]; simp; omega
theorem cellsF_at (fs : List Fld) : ∀ i, i < fs.length → (cellsF fs)[i * 2]? = some (.int .i64 (tg fs i)) ∧ (cellsF fs)[i * 2 + 1]? = some (.string (dt fs i)) := by
  induction fs with
  | nil => intro i hi; simp at hi
  | cons f fs ih =>
    intro i hi
    rw [show cellsF (f :: fs) = Value.int .i64 f.1 :: .string f.2 :: cellsF fs from rfl]
    cases i with
    | zero => exact ⟨rfl, rfl⟩
    | succ i =>
      have := ih i (by simpa using hi)
      rw [show (i + 1) * 2 = i * 2 + 1 + 1 by omega]
      exact ⟨by simpa [tg] using this.1, by simpa [dt] using this.2⟩

/-- An owned row of fields reads as these fields. -/
theorem isFs_own {w : World} {base n : Nat} {v : Value} {fs : List Fld} (h : w.ownsRow base 47 2 v n (cellsF fs)) (hwf : FsWf fs) :
    ∃ A cap, v = .slice A n cap ∧ n ≤ cap ∧ IsFs w A n fs := by
  have hn : n = fs.length := by have := h.1; rw [cellsF_len] at this; omega
  rcases h.2 with ⟨rfl, rfl⟩ | ⟨g, cap, cur, rfl, hg, hh, hnc, hcm, hcs, htk⟩
  · exact ⟨none, 0, rfl, Nat.le_refl _, hn, by unfold maxLen; omega, hwf, fun h => by omega⟩
  · refine ⟨_, cap, rfl, hnc, hn, Nat.le_trans hnc hcm, hwf, fun _ => ⟨g, 0, rfl, lt_of_blk hh, fun i hi => ?_⟩⟩
    obtain ⟨e1, e2⟩ := cellsF_at fs i hi
    have c1 := h.cellAt (i * 2) (by omega)
    have c2 := h.cellAt (i * 2 + 1) (by omega)
    rw [e1] at c1
    rw [e2] at c2
    rw [Nat.zero_add]
    exact ⟨c1, c2⟩

theorem infoFld : (Try.prog.info? 47).map (fun i => (i.zero, i.size, i.bytes)) = some (some (.agg #[.int .i64 0, .string ⟨#[]⟩]), 2, 24) := by kernel_rfl
theorem cell_two_new (w : World) (x y : Value) (t : TypeId) : ∀ j u, [x, y][j]? = some u → (w.alloc (.cells #[x, y] t)).cell? ((⟨w.heap.size, 0, none⟩ : Addr).add j) = some u := by
  intro j u h
  have hx := World.alloc_heap_new w (.cells #[x, y] t)
  rcases j with _ | _ | j
  · simp at h; subst h; exact cell_blk hx 0
  · simp at h; subst h; exact cell_blk hx 1
  · simp at h

/-- A text's length (a loop's measure). -/
def lenOf : Value → Nat | .string S => S.size | _ => 0
/-- What Decode leaves. -/
def DecPost (w : World) (r : List Fld × Nat) (e : Ending) (w' : World) : Prop :=
  ∃ A n cap, e = .returned (.tuple #[.slice A n cap, .int .i64 r.2]) ∧ n ≤ cap ∧ IsFs w' A n r.1 ∧ Below w.heap.size w w'

theorem isFs_nil (w : World) (A : Option Addr) : IsFs w A 0 [] := ⟨rfl, by unfold maxLen; omega, fun f h => by simp at h, fun h => by omega⟩
theorem wf_of {t : Nat} (h : t ≤ 1000000) : (Lit.int .i64 (t : Int)).wf = true := by
  rw [show (Lit.int .i64 (t : Int)).wf = (decide (-9223372036854775808 ≤ (t : Int)) && decide ((t : Int) ≤ 9223372036854775807)) from rfl]
  simp; omega

set_option maxRecDepth 100000 in
set_option maxHeartbeats 4000000 in
theorem decode_any (s : ByteArray) (hs : s.size ≤ 281474976710656) (w : World) :
    Calls Try.prog 25 #[.string s] w (DecPost w (decR s.data.toList)) := by
  have hsl : s.data.toList.length = s.size := by simp
  by_cases hlong : 10000 < s.size
  · have HE : Hid (decR s.data.toList = ([], 12)) := decR_long (by omega)
    clear hsl
    go_enter Try.func25, Try.ntmps25
    go_wp2_with fail
    go_step3
    go_wp2_with fail
    rw [Exit.noGoto_ret]
    go_ret2
    exact ⟨none, 0, 0, by rw [HE.out]; rfl, Nat.le_refl _, by rw [HE.out]; exact isFs_nil _ _, Below.refl _ _⟩
  · have HC : Hid (decR s.data.toList = comb [] (decF s.data.toList.length s.data.toList 0 0)) := decR_comb (by omega)
    obtain ⟨R, hR⟩ : ∃ R, decR s.data.toList = R := ⟨_, rfl⟩
    rw [hR] at HC ⊢
    clear hR
    have HSL := Lib.hid hsl; clear hsl
    obtain ⟨i0, hi, hz0, hz1, hz2⟩ := info_parts infoFld
    go_enter Try.func25, Try.ntmps25
    go_wp2_with fail
    go_step3
    go_wp2_with fail
    go_step3
    go_wp2_with fail
    go_loopw [0, 4, 5, 6] (fun s l a f wr => ∃ (S : ByteArray) (pre : List Fld) (t : Nat), s = .string S ∧ a = .int .i64 t ∧ f = .int .i64 0 ∧ S.size ≤ 10000 ∧ pre.length ≤ 64 ∧ wr.ownsRow w.heap.size 47 2 l pre.length (cellsF pre) ∧ FsWf pre ∧ Hid (R = comb pre (decF S.data.toList.length S.data.toList t pre.length)) ∧ Below w.heap.size w wr) (fun s _ _ _ _ => lenOf s)
    case atStart => exact ⟨s, [], 0, rfl, rfl, rfl, by omega, by simp, World.ownsRow_nil _ _ _ _, fun f h => by simp at h, HC.out, Below.refl _ _⟩
    case round =>
      obtain ⟨S, pre, t, rfl, rfl, rfl, hS, hp, hown, hwf, hR, hbw⟩ := hrel
      have hL := bs_toList S.data.toList
      rw [← bs_of] at hL
      by_cases he : S.data.toList = []
      · have hE : Hid (R = (pre, 0)) := by
          have := hR.out
          rw [he, comb_nil] at this
          exact this
        rw [he] at hL
        clear he
        obtain ⟨A, cap, hv, hcap, hfs⟩ := isFs_own hown hwf
        subst hv
        go_wp2_with fail
        rw [Exit.noGoto_ret]
        go_ret2
        exact ⟨A, _, cap, by rw [hE.out]; rfl, hcap, by rw [hE.out]; exact hfs, hbw⟩
      · have hL2 : S.toList.isEmpty = false := by rw [hL]; simpa using he
        clear hL
        have ht := ftake_any S t (by omega)
        have hne := takeF_err (l := S.data.toList) (a := t)
        have hbs := fun (d : List UInt8) => bs_size d
        have hsl : S.data.toList.length = S.size := by simp
        have HE := Lib.hid he; clear he
        generalize hT : takeF S.data.toList t = T at ht hne
        obtain ⟨n, d, k, e⟩ := T
        simp only at ht hne
        rcases hne with rfl | hne
        · have hok := takeF_ok hT
          rw [hsl] at hok
          by_cases h64 : pre.length = 64
          · have hE : Hid (R = ([], 11)) := by
              have := hR.out
              rw [h64] at this
              rw [comb_many pre HE.out (Nat.le_refl _) (by rw [hT])] at this
              exact this
            have HT := Lib.hid hT
            clear hT hok hbs hsl
            have h64' : ((pre.length : Int) == 64) = true := by simp; omega
            obtain ⟨A, cap, hv, hcap, hfs⟩ := isFs_own hown hwf
            subst hv
            have H64 := Lib.hid h64
            clear h64
            go_wp2_with fail
            refine (ht _).mono ?_; rintro e V1 ⟨rfl, d1⟩
            go_wp2_with fail
            rw [Exit.noGoto_ret]
            go_ret2
            exact ⟨none, 0, 0, by rw [hE.out]; rfl, Nat.le_refl _, by rw [hE.out]; exact isFs_nil _ _, (bch hbw d1).alloc (bch hbw d1).size _⟩
          · have hE : Hid (R = comb (pre ++ [((n : Int), bs d)]) (decF (S.extract k S.size).data.toList.length (S.extract k S.size).data.toList n (pre ++ [((n : Int), bs d)]).length)) := by
              show R = _
              rw [data_from, List.length_append]
              exact hR.out.trans (comb_step pre HE.out (Nat.le_refl _) hT h64)
            have HW : Hid (FsWf (pre ++ [((n : Int), bs d)])) := by
              intro f hf
              rcases List.mem_append.1 hf with h | h
              · exact hwf f h
              · rw [List.mem_singleton] at h
                subst h
                exact ⟨wf_of hok.2.2.2.1, by rw [bs_size]; omega⟩
            have HK : Hid (2 ≤ k ∧ k ≤ S.size) := ⟨hok.1, hok.2.1⟩
            have hS2 := fun W => slice_from (T := S) (k := k) rfl hok.2.1 W
            have hk0 : (0 : Int) ≤ (k : Int) := by omega
            have hk1 : (k : Int) ≤ (S.size : Int) := by omega
            have HO := Lib.hid hok
            clear hT hok hbs hsl
            have h64' : ((pre.length : Int) == 64) = false := by simp; omega
            obtain ⟨A, cap, hv, hcap, hfs⟩ := isFs_own hown hwf
            subst hv
            have H64 := Lib.hid h64
            clear h64
            generalize hD : bs d = D at *
            have HD := Lib.hid hD; clear hD
            generalize hS3 : S.extract k S.size = S3 at *
            have HS3 := Lib.hid hS3; clear hS3
            go_wp2_with fail
            refine (ht _).mono ?_; rintro e V1 ⟨rfl, d1⟩
            have hown1 : ((V1.alloc (.cells #[.int .i64 n, .string D] 47)).alloc (.cells #[.int .i64 n, .string D] 47)).ownsRow w.heap.size 47 2 (.slice A pre.length cap) pre.length (cellsF pre) := ((own_below hown d1).alloc _).alloc _
            have hol : ∀ g, (Value.slice A pre.length cap).ownBlock = some g → g < V1.heap.size := fun g hg => ((own_below hown d1).lt g hg).2
            have hbs1 := d1.size
            have hbs2 := hbw.size
            go_wp2_with (at_builtin; refine wpList_append_own_at _ rfl _ _ 42 rfl w.heap.size 47 i0 (.agg #[.int .i64 0, .string ⟨#[]⟩]) 2 24 Try.underlying42 hi hz0 hz1 hz2 rfl (by decide) _ _ _ rfl hown1 ⟨V1.heap.size + 1, 0, none⟩ 1 1 [.int .i64 n, .string D] rfl rfl ?c1 ?c2 ?c3 ?c4 ?c5 ?_)
            case c1 => intro j u hu; have := cell_two_new (V1.alloc (.cells #[.int .i64 n, .string D] 47)) (.int .i64 n) (.string D) 47 j u hu; simpa using this
            case c2 => intro u hu; simp at hu; rcases hu with rfl | rfl <;> rfl
            case c3 => unfold maxLen; omega
            case c4 => omega
            case c5 => simp; omega
            intro v' V2 hown2 hgrow _ hat
            have hx : V2.heap[V1.heap.size]? = some (.cells #[.int .i64 n, .string D] 47 (0, 0)) := by
              rw [hgrow.block V1.heap.size (by simp; omega) (fun e => by have := hol _ e.symm; omega)]
              exact (Below.heap_alloc _ _ _ (by simp)).trans (World.alloc_heap_new V1 _)
            have c6 : V2.cell? ⟨V1.heap.size, 0, none⟩ = some (.int .i64 n) := cell_blk hx 0
            have c7 : V2.cell? ⟨V1.heap.size, 1, none⟩ = some (.string D) := cell_blk hx 1
            have hb2 : Below w.heap.size w V2 := (((hbw.trans (d1.mono hbw.size)).alloc (by omega) _).alloc (by simp; omega) _).grown hgrow (by simp; omega) (fun g hg => (hown1.lt g hg).1)
            have HX := Lib.hid hx; clear hx
            go_wp2_with fail
            go_quiet (fail)
            go_wp2_with fail
            go_roundw
            case rel =>
              refine ⟨S3, pre ++ [((n : Int), D)], n, rfl, rfl, rfl, ?_, ?_, ?_, HW.out, hE.out, bdn hb2 _⟩
              · have := HK.out; rw [← HS3.out, ByteArray.size_extract]; omega
              · have := H64.out; simp; omega
              · rw [cellsF_append, List.length_append]; exact hown2
            case measure => have := HK.out; simp only [lenOf]; rw [← HS3.out, ByteArray.size_extract]; omega
        · have hE : Hid (R = ([], e)) := hR.out.trans (comb_err pre HE.out (Nat.le_refl _) (by rw [hT]) (by omega))
          clear hT hbs hsl
          rcases hne with rfl | rfl | rfl
          all_goals
            go_wp2_with fail
            refine (ht _).mono ?_; rintro e V1 ⟨rfl, d1⟩
            go_wp2_with fail
            rw [Exit.noGoto_ret]
            go_ret2
            exact ⟨none, 0, 0, by rw [hE.out]; rfl, Nat.le_refl _, by rw [hE.out]; exact isFs_nil _ _, (bch hbw d1).alloc (bch hbw d1).size _⟩
end Go.Proofs.Ytjdpihppniibjaa
