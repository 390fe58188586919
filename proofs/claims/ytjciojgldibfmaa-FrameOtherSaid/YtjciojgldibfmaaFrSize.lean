import Derived.Test.YtjciojgldibfmaaFrRef
import Derived.BigRegion
import Derived.BigQuiet
/-
  The contracts of the document's own size and one (stage 6).
-/
namespace Go.Proofs.Ytjciojgldibfmaa
open Go.RowKit

theorem results_tmp4 {fn : Func} {t u v x : Tmp} (h : fn.results = #[.tmp t, .tmp u, .tmp v, .tmp x]) (tmps : Array Value) (P : Program) (w : World) :
    (results fn tmps).run P w = .ok (.tuple #[tmps.getD t undef, tmps.getD u undef, tmps.getD v undef, tmps.getD x undef]) w := by
  simp [results, h]
theorem ret4 {a b : Int} {a' b' : Nat} {c c' d d' : Bool} (h1 : a = a') (h2 : b = b') (h3 : c = c') (h4 : d = d') : Ending.returned (.tuple #[.int .i64 a, .int .i64 b, .bool c, .bool d]) = .returned (.tuple #[.int .i64 a', .int .i64 b', .bool c', .bool d']) := by rw [h1, h2, h3, h4]
theorem from_data (s : ByteArray) (i : Nat) : (s.extract i s.size).data.toList = s.data.toList.drop i := by
  have h := bs_drop s.data.toList i
  rw [← bs_of] at h
  rw [h, bs_data]
theorem at_byte (s : ByteArray) (i : Nat) (h : i < s.size) : at_ s.data.toList i = s[i].toNat := by
  unfold at_
  rw [List.getD_eq_getElem?_getD, List.getElem?_eq_getElem (by simpa using h)]
  rfl

set_option maxRecDepth 100000 in
set_option maxHeartbeats 4000000 in
theorem refsize_any (v : Int) (s : ByteArray) (hs : s.size ≤ 140737488355328) (w : World) :
    Calls Try.prog 39 #[.int .i64 v, .string s] w fun e w' => e = .returned (.tuple #[.int .i64 (sizeR v s.data.toList).1, .int .i64 (sizeR v s.data.toList).2.1, .bool (sizeR v s.data.toList).2.2.1, .bool (sizeR v s.data.toList).2.2.2]) ∧ Below w.heap.size w w' := by
  have hsl : s.data.toList.length = s.size := by simp
  obtain ⟨z, hz⟩ : ∃ z, sizeR v s.data.toList = z := ⟨_, rfl⟩
  rw [hz]
  by_cases hv : v = 1
  · subst hv
    by_cases h4 : s.size < 4
    · have HZ : Hid (z = (0, 0, true, false)) := by
        show _ = _
        rw [← hz]; unfold sizeR; rw [if_pos rfl, if_pos (by rw [hsl]; exact h4)]
      clear hz hsl
      go_enter Try.func39, Try.ntmps39
      go_wp2_with fail
      ((try simp only [Exit.inBlock, Exit.then]); refine bodyPost_ret (results_tmp4 rfl _ _ _) rfl ?_)
      exact ⟨by rw [HZ.out]; rfl, Below.refl _ _⟩
    · have i2 : 2 < s.size := by omega
      have i3 : 3 < s.size := by omega
      have HZ : Hid (z = (4, s[2].toNat * 256 + s[3].toNat, false, decide (4000 < s[2].toNat * 256 + s[3].toNat))) := by
        show _ = _
        rw [← hz]; unfold sizeR; rw [if_pos rfl, if_neg (by rw [hsl]; exact h4), at_byte s 2 i2, at_byte s 3 i3]
      have b2 : s[2].toNat < 256 := s[2].toNat_lt
      have b3 : s[3].toNat < 256 := s[3].toNat_lt
      have j2 : (2 : Int) < (s.size : Int) := by omega
      have j3 : (3 : Int) < (s.size : Int) := by omega
      clear hz hsl
      go_enter Try.func39, Try.ntmps39
      go_wp2_with fail
      go_quiet (fail)
      go_wp2_with fail
      ((try simp only [Exit.inBlock, Exit.then]); refine bodyPost_ret (results_tmp4 rfl _ _ _) rfl ?_)
      exact ⟨by rw [HZ.out]; exact ret4 rfl (by dsimp only; omega) rfl (by dsimp only; exact decide_eq_decide.2 (by omega)), bdn (Below.refl _ _) _⟩
  · have hvb : (v == 1) = false := by simpa using hv
    by_cases h3 : s.size < 3
    · have HZ : Hid (z = (0, 0, true, false)) := by
        show _ = _
        rw [← hz]; unfold sizeR; rw [if_neg hv, if_pos (by rw [hsl]; exact h3)]
      clear hz hsl hv
      go_enter Try.func39, Try.ntmps39
      go_wp2_with fail
      ((try simp only [Exit.inBlock, Exit.then]); refine bodyPost_ret (results_tmp4 rfl _ _ _) rfl ?_)
      exact ⟨by rw [HZ.out]; rfl, Below.refl _ _⟩
    · obtain ⟨T, hT⟩ : ∃ T, s.extract 3 s.size = T := ⟨_, rfl⟩
      have dT : T.data.toList = s.data.toList.drop 3 := by rw [← hT]; exact from_data s 3
      have hsT : ∀ W : World, (Instr.slice 9 (.string s) (some (.int .i64 3)) none none).run Try.prog W = .ok (.string T) W := fun W => slice_from hT (by omega) W
      have q := fun W => reftake_any T (by rw [← hT, ByteArray.size_extract]; unfold maxLen; omega) W
      rw [dT] at q
      have h1 := takeR_fst_le (s.data.toList.drop 3)
      have h2 := takeR_snd_le (s.data.toList.drop 3)
      have h5 := takeR_err (s.data.toList.drop 3)
      have hz2 := hz
      unfold sizeR at hz2
      rw [if_neg hv, if_neg (by rw [hsl]; exact h3)] at hz2
      generalize (takeR (s.data.toList.drop 3)).1 = n at *
      generalize (takeR (s.data.toList.drop 3)).2.1 = k at *
      generalize (takeR (s.data.toList.drop 3)).2.2 = e at *
      have hk := h2.2
      have hn : (n : Int) ≤ 9007199254740992 := by omega
      rcases h5 with rfl | rfl | rfl
      · have HZ : Hid (z = (3 + k, n, false, decide (4000 < n))) := by
          show _ = _
          rw [← hz2, if_neg (by omega)]; simp
        clear hz hz2 hsl hv hT dT h1 h2
        go_enter Try.func39, Try.ntmps39
        go_wp2_with fail
        ((with_reducible refine (q _).mono ?_); rintro e W1 ⟨rfl, rfl⟩)
        go_wp2_with fail
        ((try simp only [Exit.inBlock, Exit.then]); refine bodyPost_ret (results_tmp4 rfl _ _ _) rfl ?_)
        exact ⟨by rw [HZ.out]; exact ret4 (by omega) rfl rfl (decide_eq_decide.2 (by omega)), Below.refl _ _⟩
      · have HZ : Hid (z = (0, 0, true, false)) := by
          show _ = _
          rw [← hz2, if_pos rfl]
        clear hz hz2 hsl hv hT dT h1 h2
        go_enter Try.func39, Try.ntmps39
        go_wp2_with fail
        ((with_reducible refine (q _).mono ?_); rintro e W1 ⟨rfl, rfl⟩)
        go_wp2_with fail
        ((try simp only [Exit.inBlock, Exit.then]); refine bodyPost_ret (results_tmp4 rfl _ _ _) rfl ?_)
        exact ⟨by rw [HZ.out]; rfl, Below.refl _ _⟩
      · have HZ : Hid (z = (3 + k, n, false, true)) := by
          show _ = _
          rw [← hz2, if_neg (by omega)]; simp
        clear hz hz2 hsl hv hT dT h1 h2
        go_enter Try.func39, Try.ntmps39
        go_wp2_with fail
        ((with_reducible refine (q _).mono ?_); rintro e W1 ⟨rfl, rfl⟩)
        go_wp2_with fail
        ((try simp only [Exit.inBlock, Exit.then]); refine bodyPost_ret (results_tmp4 rfl _ _ _) rfl ?_)
        exact ⟨by rw [HZ.out]; exact ret4 (by omega) rfl rfl rfl, Below.refl _ _⟩
end Go.Proofs.Ytjciojgldibfmaa
