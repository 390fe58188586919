import Derived.Test.YtjdpihppniibjaaDecode
import Derived.Test.YtjdpihppniibjaaRefTake
/-
  The contract of the document's own Decode: what decR says, in new memory; nothing that was in memory changes.
-/
namespace Go.Proofs.Ytjdpihppniibjaa
open Go.RowKit

set_option maxRecDepth 100000 in
set_option maxHeartbeats 4000000 in
theorem refdecode_any (s : ByteArray) (hs : s.size ≤ 281474976710656) (w : World) :
    Calls Try.prog 27 #[.string s] w (DecPost w (decR s.data.toList)) := by
  have hsl : s.data.toList.length = s.size := by simp
  by_cases hlong : 10000 < s.size
  · have HE : Hid (decR s.data.toList = ([], 12)) := decR_long (by omega)
    clear hsl
    go_enter Try.func27, Try.ntmps27
    go_wp2_with fail
    go_ret2
    exact ⟨none, 0, 0, by rw [HE.out]; rfl, Nat.le_refl _, by rw [HE.out]; exact isFs_nil _ _, Below.refl _ _⟩
  · have HC : Hid (decR s.data.toList = comb [] (decF s.data.toList.length s.data.toList 0 0)) := decR_comb (by omega)
    obtain ⟨R, hR⟩ : ∃ R, decR s.data.toList = R := ⟨_, rfl⟩
    rw [hR] at HC ⊢
    clear hR
    have HSL := Lib.hid hsl; clear hsl
    obtain ⟨i0, hi, hz0, hz1, hz2⟩ := info_parts infoFld
    go_enter Try.func27, Try.ntmps27
    go_wp2_with fail
    go_loopw [0, 4, 5] (fun s l a wr => ∃ (S : ByteArray) (pre : List Fld) (t : Nat), s = .string S ∧ a = .int .i64 t ∧ S.size ≤ 10000 ∧ pre.length ≤ 64 ∧ wr.ownsRow w.heap.size 47 2 l pre.length (cellsF pre) ∧ FsWf pre ∧ Hid (R = comb pre (decF S.data.toList.length S.data.toList t pre.length)) ∧ Below w.heap.size w wr) (fun s _ _ _ => lenOf s)
    case atStart => exact ⟨s, [], 0, rfl, rfl, by omega, by simp, World.ownsRow_nil _ _ _ _, fun f h => by simp at h, HC.out, Below.refl _ _⟩
    case round =>
      obtain ⟨S, pre, t, rfl, rfl, hS, hp, hown, hwf, hR, hbw⟩ := hrel
      have hL := bs_toList S.data.toList
      rw [← bs_of] at hL
      by_cases he : S.data.toList = []
      · have hE : Hid (R = (pre, 0)) := by
          have := hR.out
          rw [he, comb_nil] at this
          exact this
        rw [he] at hL
        clear he
        obtain ⟨A, cap, hv, hcap, hfs⟩ := isFs_own hown hwf
        subst hv
        go_wp2_with fail
        go_ret2
        exact ⟨A, _, cap, by rw [hE.out]; rfl, hcap, by rw [hE.out]; exact hfs, hbw⟩
      · have hL2 : S.toList.isEmpty = false := by rw [hL]; simpa using he
        clear hL
        have hsl : S.data.toList.length = S.size := by simp
        have HE := Lib.hid he; clear he
        have t1 := reftake_any S (by unfold maxLen; omega)
        have hk1 := takeR_snd_le S.data.toList
        have hf1 := takeR_fst_le S.data.toList
        obtain ⟨T, hT⟩ : ∃ T, takeF S.data.toList t = T := ⟨_, rfl⟩
        have hT' := hT
        unfold takeF at hT'
        have t2 := reftake_any (S.extract (takeR S.data.toList).2.1 S.size) (by unfold maxLen; rw [ByteArray.size_extract]; omega)
        rw [data_from] at t2
        have hk2 := takeR_snd_le (S.data.toList.drop (takeR S.data.toList).2.1)
        have hf2 := takeR_fst_le (S.data.toList.drop (takeR S.data.toList).2.1)
        have he2 := takeR_err (S.data.toList.drop (takeR S.data.toList).2.1)
        have he1 := takeR_err S.data.toList
        rw [List.length_drop] at hk2
        generalize (takeR (S.data.toList.drop (takeR S.data.toList).2.1)).1 = n2 at *
        generalize (takeR (S.data.toList.drop (takeR S.data.toList).2.1)).2.1 = k2 at *
        generalize (takeR (S.data.toList.drop (takeR S.data.toList).2.1)).2.2 = e2 at *
        generalize (takeR S.data.toList).1 = n1 at *
        generalize (takeR S.data.toList).2.1 = k1 at *
        generalize (takeR S.data.toList).2.2 = e1 at *
        rw [hsl] at hT' hk1 hk2
        clear hsl
        have HT := Lib.hid hT; clear hT
        have HT1 := Lib.hid hT'.symm; clear hT'
        have hErr : ∀ e : Nat, T.2.2.2 = e → e ≠ 0 → Hid (R = ([], e)) := fun e h1 h2 => hR.out.trans (comb_err pre HE.out (Nat.le_refl _) (by rw [HT.out]; exact h1) h2)
        have HErr := Lib.hid hErr; clear hErr
        rcases he1 with rfl | rfl | rfl
        · cases hM : mayB (n1 : Int) (t : Int) with
          | false =>
            rw [hM] at HT1
            have hE := HErr.out 13 (by rw [HT1.out]; rfl) (by decide)
            have hm := mayB_no.1 hM
            clear HT1 hM hk2 hf2 he2 t2
            by_cases h1 : (n1 : Int) < 1
            · go_wp2_with fail
              refine (t1 _).mono ?_; rintro e V1 ⟨rfl, rfl⟩
              go_wp2_with fail
              go_ret2
              exact ⟨none, 0, 0, by rw [hE.out]; rfl, Nat.le_refl _, by rw [hE.out]; exact isFs_nil _ _, hbw⟩
            · by_cases h2 : 1000000 < (n1 : Int)
              · go_wp2_with fail
                refine (t1 _).mono ?_; rintro e V1 ⟨rfl, rfl⟩
                go_wp2_with fail
                go_ret2
                exact ⟨none, 0, 0, by rw [hE.out]; rfl, Nat.le_refl _, by rw [hE.out]; exact isFs_nil _ _, hbw⟩
              · have h3 : n1 ≤ t := by omega
                clear hm
                go_wp2_with fail
                refine (t1 _).mono ?_; rintro e V1 ⟨rfl, rfl⟩
                go_wp2_with fail
                go_ret2
                exact ⟨none, 0, 0, by rw [hE.out]; rfl, Nat.le_refl _, by rw [hE.out]; exact isFs_nil _ _, hbw⟩
          | true =>
            rw [hM] at HT1
            have hm := mayB_iff.1 hM
            clear hM
            have hm1 : 1 ≤ (n1 : Int) := by omega
            have hm2 : (n1 : Int) ≤ 1000000 := hm.2
            have hm3 : (t : Int) < (n1 : Int) := hm.1
            have hm4 : t < n1 := by omega
            clear hm
            have HT2 : Hid (T = if e2 ≠ 0 then (0, [], 0, e2) else if 1000 < n2 then (0, [], 0, 11) else if S.size < k1 + k2 + n2 then (0, [], 0, 10) else (n1, (S.data.toList.drop (k1 + k2)).take n2, k1 + k2 + n2, 0)) := by
              have := HT1.out
              rw [if_neg (by decide), if_neg (by decide)] at this
              exact this
            clear HT1
            have hS2 := fun W => slice_from (T := S) (k := k1) rfl hk1.1 W
            have z2 : (S.extract k1 S.size).size = S.size - k1 := by rw [ByteArray.size_extract]; omega
            have d2 := data_from S k1
            generalize S.extract k1 S.size = S2 at hS2 t2 z2 d2
            have hS3 := fun W => slice_from (T := S2) (k := k2) rfl (by omega) W
            have z3 : (S2.extract k2 S2.size).size = S.size - (k1 + k2) := by rw [ByteArray.size_extract]; omega
            have d3 := data_from S2 k2
            rw [d2, List.drop_drop] at d3
            generalize S2.extract k2 S2.size = S3 at hS3 z3 d3
            have hkk : k1 + k2 ≤ S.size := by omega
            have hk28 := hk2.2
            have D3 := Lib.hid d3; clear d3 d2
            have Z3 := Lib.hid z3
            have z3' : (S3.size : Int) ≤ 10000 := by omega
            clear hk1 hk2 z2 z3
            rcases he2 with rfl | rfl | rfl
            · by_cases h1000 : 1000 < n2
              · have hE : Hid (R = ([], 11)) := HErr.out 11 (by rw [HT2.out, if_neg (by decide), if_pos h1000]) (by decide)
                have h1000' : (1000 : Int) < (n2 : Int) := by omega
                clear hm4 h1000
                go_wp2_with fail
                refine (t1 _).mono ?_; rintro e V1 ⟨rfl, rfl⟩
                go_wp2_with fail
                refine (t2 _).mono ?_; rintro e V2 ⟨rfl, rfl⟩
                go_wp2_with fail
                go_ret2
                exact ⟨none, 0, 0, by rw [hE.out]; rfl, Nat.le_refl _, by rw [hE.out]; exact isFs_nil _ _, hbw⟩
              · by_cases hcut : S.size < k1 + k2 + n2
                · have hE : Hid (R = ([], 10)) := HErr.out 10 (by rw [HT2.out, if_neg (by decide), if_neg h1000, if_pos hcut]) (by decide)
                  have hcut' : (S3.size : Int) < (n2 : Int) := by have := Z3.out; omega
                  have h1000' : (n2 : Int) ≤ 1000 := by omega
                  clear hm4 h1000 hcut
                  go_wp2_with fail
                  refine (t1 _).mono ?_; rintro e V1 ⟨rfl, rfl⟩
                  go_wp2_with fail
                  refine (t2 _).mono ?_; rintro e V2 ⟨rfl, rfl⟩
                  go_wp2_with fail
                  go_ret2
                  exact ⟨none, 0, 0, by rw [hE.out]; rfl, Nat.le_refl _, by rw [hE.out]; exact isFs_nil _ _, hbw⟩
                · have HT3 : Hid (T = (n1, (S.data.toList.drop (k1 + k2)).take n2, k1 + k2 + n2, 0)) := by
                    have := HT2.out
                    rw [if_neg (by decide), if_neg h1000, if_neg hcut] at this
                    exact this
                  have hn3 : n2 ≤ S3.size := by have := Z3.out; omega
                  have hcut' : (n2 : Int) ≤ (S3.size : Int) := by omega
                  have h1000' : (n2 : Int) ≤ 1000 := by omega
                  obtain ⟨A, cap, hv, hcap, hfs⟩ := isFs_own hown hwf
                  subst hv
                  by_cases h64 : pre.length = 64
                  · have hE : Hid (R = ([], 11)) := by
                      have := hR.out
                      rw [h64] at this
                      rw [comb_many pre HE.out (Nat.le_refl _) (by rw [HT.out, HT3.out])] at this
                      exact this
                    have h64' : ((pre.length : Int) == 64) = true := by simp; omega
                    have H64 := Lib.hid h64
                    clear h64 hm4 h1000 hcut hn3
                    go_wp2_with fail
                    refine (t1 _).mono ?_; rintro e V1 ⟨rfl, rfl⟩
                    go_wp2_with fail
                    refine (t2 _).mono ?_; rintro e V2 ⟨rfl, rfl⟩
                    go_wp2_with fail
                    go_ret2
                    exact ⟨none, 0, 0, by rw [hE.out]; rfl, Nat.le_refl _, by rw [hE.out]; exact isFs_nil _ _, hbw⟩
                  · have hS4 := fun W => slice_to (T := S3) (k := n2) rfl hn3 W
                    have hS5 := fun W => slice_from (T := S3) (k := n2) rfl hn3 W
                    have hk := (takeF_ok (HT.out.trans HT3.out)).1
                    have e4 : (S3.extract n2 S3.size).data.toList = S.data.toList.drop (k1 + k2 + n2) := by rw [data_from, D3.out, List.drop_drop]
                    have e5 : S3.extract 0 n2 = bs ((S.data.toList.drop (k1 + k2)).take n2) := by
                      rw [bs_of (S3.extract 0 n2), data_extract, D3.out, List.drop_zero, Nat.sub_zero]
                    have hE : Hid (R = comb (pre ++ [((n1 : Int), S3.extract 0 n2)]) (decF (S3.extract n2 S3.size).data.toList.length (S3.extract n2 S3.size).data.toList n1 (pre ++ [((n1 : Int), S3.extract 0 n2)]).length)) := by
                      show R = _
                      rw [e4, e5, List.length_append]
                      exact hR.out.trans (comb_step pre HE.out (Nat.le_refl _) (HT.out.trans HT3.out) h64)
                    have HW : Hid (FsWf (pre ++ [((n1 : Int), S3.extract 0 n2)])) := by
                      intro f hf
                      rcases List.mem_append.1 hf with h | h
                      · exact hwf f h
                      · rw [List.mem_singleton] at h
                        subst h
                        exact ⟨wf_of (by omega), by show (S3.extract 0 n2).size ≤ _; rw [ByteArray.size_extract]; omega⟩
                    have z6 : (S3.extract n2 S3.size).size = S.size - (k1 + k2 + n2) := by rw [ByteArray.size_extract]; have := Z3.out; omega
                    clear e4 e5
                    have Z6 := Lib.hid z6; clear z6
                    have HK : Hid (2 ≤ k1 + k2 + n2 ∧ k1 + k2 + n2 ≤ S.size) := ⟨hk, by omega⟩
                    clear hk
                    generalize S3.extract 0 n2 = D at *
                    generalize S3.extract n2 S3.size = S6 at *
                    have h64' : ((pre.length : Int) == 64) = false := by simp; omega
                    have H64 := Lib.hid h64
                    clear h64 h1000 hcut
                    have hown1 : (wr.alloc (.cells #[.int .i64 n1, .string D] 47)).ownsRow w.heap.size 47 2 (.slice A pre.length cap) pre.length (cellsF pre) := hown.alloc _
                    have hbs2 := hbw.size
                    go_wp2_with fail
                    refine (t1 _).mono ?_; rintro e V1 ⟨rfl, rfl⟩
                    go_wp2_with fail
                    refine (t2 _).mono ?_; rintro e V2 ⟨rfl, rfl⟩
                    go_wp2_with (at_builtin; refine wpList_append_own_at _ rfl _ _ 42 rfl w.heap.size 47 i0 (.agg #[.int .i64 0, .string ⟨#[]⟩]) 2 24 Try.underlying42 hi hz0 hz1 hz2 rfl (by decide) _ _ _ rfl hown1 ⟨wr.heap.size, 0, none⟩ 1 1 [.int .i64 n1, .string D] rfl rfl ?c1 ?c2 ?c3 ?c4 ?c5 ?_)
                    case c1 => exact cell_two_new wr (.int .i64 n1) (.string D) 47
                    case c2 => intro u hu; simp at hu; rcases hu with rfl | rfl <;> rfl
                    case c3 => unfold maxLen; omega
                    case c4 => omega
                    case c5 => simp; omega
                    intro v' V3 hown2 hgrow _ hat
                    have hb2 : Below w.heap.size w V3 := (hbw.alloc (by omega) _).grown hgrow (by simp; omega) (fun g hg => (hown1.lt g hg).1)
                    go_wp2_with fail
                    go_roundw
                    case rel =>
                      refine ⟨S6, pre ++ [((n1 : Int), D)], n1, rfl, rfl, ?_, ?_, ?_, HW.out, hE.out, hb2⟩
                      · have := Z6.out; omega
                      · have := H64.out; simp; omega
                      · rw [cellsF_append, List.length_append]; exact hown2
                    case measure => have := Z6.out; have := HK.out; simp only [lenOf]; omega
            all_goals
              have hE : Hid (R = ([], T.2.2.2)) := HErr.out _ rfl (by rw [HT2.out, if_pos (by decide)]; decide)
              clear hm4
              go_wp2_with fail
              refine (t1 _).mono ?_; rintro e V1 ⟨rfl, rfl⟩
              go_wp2_with fail
              refine (t2 _).mono ?_; rintro e V2 ⟨rfl, rfl⟩
              go_wp2_with fail
              go_ret2
              exact ⟨none, 0, 0, by rw [hE.out, HT2.out]; rfl, Nat.le_refl _, by rw [hE.out]; exact isFs_nil _ _, hbw⟩
        all_goals
          have hE : Hid (R = ([], T.2.2.2)) := HErr.out _ rfl (by rw [HT1.out, if_pos (by decide)]; decide)
          clear hk2 hf2 he2 t2
          go_wp2_with fail
          refine (t1 _).mono ?_; rintro e V1 ⟨rfl, rfl⟩
          go_wp2_with fail
          go_ret2
          exact ⟨none, 0, 0, by rw [hE.out, HT1.out]; rfl, Nat.le_refl _, by rw [hE.out]; exact isFs_nil _ _, hbw⟩
end Go.Proofs.Ytjdpihppniibjaa
