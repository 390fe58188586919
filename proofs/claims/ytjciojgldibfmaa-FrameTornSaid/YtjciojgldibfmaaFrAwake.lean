import Derived.Test.YtjciojgldibfmaaFrLaw
/-
  The law package's own first calls ('awake') of stage 6: true, whatever the program's Encode, Scan and Right are that do what is asked.
-/
namespace Go.Proofs.Ytjciojgldibfmaa
open Go.RowKit
set_option linter.unusedVariables false

def xyF : ByteArray := ⟨#[120, 121]⟩
def f1F : Frm := ⟨3, 0, xyF⟩
def f2F : Frm := ⟨200, 5, xyF⟩
theorem ok1F : okF 1 f1F = true := by decide
theorem ok2F : okF 2 f2F = true := by decide
theorem no2F : okF 1 f2F = false := by decide
theorem no3F : okF 1 ⟨10, 0, ⟨#[]⟩⟩ = false := by decide
theorem scan1F (S : ByteArray) (hS : bs (encF 1 f1F) = S) : scanV 1 ((S ++ S) ++ (⟨#[97]⟩ : ByteArray)).data.toList = ([f1F, f1F], 20, 0) := by
  have hl : (encF 1 f1F).length = 10 := len_one f1F
  have hd : ((S ++ S) ++ (⟨#[97]⟩ : ByteArray)).data.toList = encFs 1 [f1F, f1F] ++ [97] := by
    rw [add_data, add_data, ← hS, bs_data]; simp [encFs]
  have h1 : oneR 1 [97] = (zeroF, 0, 0) := by simp [oneR, sizeR, at_]
  have h2 : scanR 1 [97] = ([], 0, 0) := by rw [scan_stop (by simp) (by rw [h1]; exact .inr rfl), h1]
  have h3 : (encFs 1 [f1F, f1F]).length = 20 := by simp [encFs, hl]
  unfold scanV
  rw [hd, if_pos (.inl rfl), scan_encs [f1F, f1F] [97] (by intro f hf; simp at hf; subst hf; exact ok1F), h2, h3]
  rfl
theorem len2F : (encF 2 f2F).length = 10 := by decide +kernel
theorem scan2F (T : ByteArray) (hT : bs (encF 2 f2F) = T) : scanV 1 T.data.toList = ([], 0, 22) := by
  have h := scan_other (v := 2) (.inr rfl) [f2F]
  have hd : encFs 2 [f2F] = T.data.toList := by rw [← hT, bs_data]; simp [encFs]
  rw [hd] at h
  unfold scanV
  rw [if_pos (.inl rfl)]
  exact h
theorem scan3F : scanV 2 (ByteArray.mk #[120]).data.toList = ([], 0, 11) := by
  have h1 : oneR 2 [120] = (zeroF, 0, 11) := by simp [oneR, at_]
  unfold scanV
  rw [if_pos (.inr rfl)]
  show scanR 2 [120] = _
  rw [scan_stop (by simp) (by rw [h1]; exact .inl (by simp)), h1]
theorem scan4F (T : ByteArray) (hT : bs (encF 2 f2F) = T) : scanV 2 T.data.toList = ([f2F], 10, 0) := by
  have h := scan_back (v := 2) [f2F] (by intro f hf; simp at hf; subst hf; exact ok2F)
  have hd : encFs 2 [f2F] = T.data.toList := by rw [← hT, bs_data]; simp [encFs]
  have hl : (encFs 2 [f2F]).length = 10 := by simp [encFs, len2F]
  rw [hl, hd] at h
  unfold scanV
  rw [if_pos (.inr rfl)]
  exact h
theorem cut1F (S : ByteArray) (hS : bs (encF 1 f1F) = S) : S.extract 0 6 = ⟨#[97, 3, 0, 2, 120, 121]⟩ := by
  rw [← hS, bs_take]
  have : (encF 1 f1F).take 6 = [97, 3, 0, 2, 120, 121] := by decide +kernel
  rw [this]; rfl
theorem cut2F (T : ByteArray) (hT : bs (encF 2 f2F) = T) : T.extract 0 6 = ⟨#[98, 5, 200, 2, 120, 121]⟩ := by
  rw [← hT, bs_take]
  have : (encF 2 f2F).take 6 = [98, 5, 200, 2, 120, 121] := by decide +kernel
  rw [this]; rfl

set_option maxRecDepth 100000 in
set_option maxHeartbeats 4000000 in
theorem awake6_any (hE : EncC) (hS : ScanC) (hR : RightC) (w : World) : Calls Try.prog 11 #[] w fun e w' => e = .returned (.bool true) ∧ Below w.heap.size w w' := by
  obtain ⟨S, eS⟩ : ∃ S, bs (encF 1 f1F) = S := ⟨_, rfl⟩
  obtain ⟨T, eT⟩ : ∃ S, bs (encF 2 f2F) = S := ⟨_, rfl⟩
  have q1 := fun W => hE.ok ok1F eS W
  have q2 := fun W => hE.ok ok2F eT W
  have q3 := fun W => hE.no no3F (by decide) W
  simp only [f1F, f2F, xyF] at q1 q2 q3
  have zS : S.size = 10 := by rw [← eS, bs_size]; exact len_one f1F
  have zT : T.size = 10 := by rw [← eT, bs_size]; exact len2F
  obtain ⟨SS, hSS⟩ : ∃ X, S ++ S = X := ⟨_, rfl⟩
  obtain ⟨SA, hSA⟩ : ∃ X, SS ++ (⟨#[97]⟩ : ByteArray) = X := ⟨_, rfl⟩
  have zSS : SS.size = S.size + S.size := by rw [← hSS]; exact ByteArray.size_append
  have zSA : SA.size = SS.size + 1 := by rw [← hSA]; exact ByteArray.size_append
  have a1 : ∀ W : World, (Op.stringOp .add S S).run Try.prog W = .ok (.string SS) W := fun W => by rw [str_add (by omega), hSS]
  have a2 : ∀ W : World, (Op.stringOp .add SS ⟨#[97]⟩).run Try.prog W = .ok (.string SA) W := fun W => by rw [str_add (by show SS.size + 1 ≤ _; omega), hSA]
  have k1 := fun W => hS 1 SA (by omega) W
  have k2 := fun W => hS 1 T (by omega) W
  have k3 := fun W => hS 2 (ByteArray.mk #[120]) (by decide) W
  have k4 := fun W => hS 2 T (by omega) W
  rw [← hSA, ← hSS, scan1F S eS] at k1
  rw [hSS, hSA] at k1
  rw [scan2F T eT] at k2
  rw [scan3F] at k3
  rw [scan4F T eT] at k4
  have l1 : ∀ W : World, (Instr.slice 9 (.string S) none (some (.int .i64 6)) none).run Try.prog W = .ok (.string ⟨#[97, 3, 0, 2, 120, 121]⟩) W := fun W => slice_to (cut1F S eS) (by omega) W
  have l2 : ∀ W : World, (Instr.slice 9 (.string T) none (some (.int .i64 6)) none).run Try.prog W = .ok (.string ⟨#[98, 5, 200, 2, 120, 121]⟩) W := fun W => slice_to (cut2F T eT) (by omega) W
  have r1 := fun W => hR 2 f2F (by decide) W
  have r2 := fun W => hR 1 f2F (by decide) W
  rw [ok2F] at r1
  rw [no2F] at r2
  simp only [f2F, xyF] at r1 r2
  clear eS eT hSS hSA zSS zSA hE hS hR
  go_enter Try.func11, Try.ntmps11
  go_wp2_with fail
  ((with_reducible refine (q1 _).mono ?_); rintro e W1 ⟨rfl, b1⟩)
  go_wp2_with fail
  ((with_reducible refine (q2 _).mono ?_); rintro e W2 ⟨rfl, b2⟩)
  replace b2 := bch b1 b2
  clear b1
  go_wp2_with fail
  ((with_reducible refine (q3 _).mono ?_); rintro e W3 ⟨rfl, b3⟩)
  replace b3 := bch b2 b3
  clear b2
  go_wp2_with fail
  ((with_reducible refine (k1 _).mono ?_); rintro e W4 ⟨A1, n1, c1, rfl, _, _, hf1, b4⟩)
  replace b4 := bch b3 b4
  clear b3
  obtain rfl : n1 = 2 := hf1.1
  clear hf1
  go_wp2_with fail
  ((with_reducible refine (k2 _).mono ?_); rintro e W5 ⟨A2, n2, c2, rfl, _, _, hf2, b5⟩)
  replace b5 := bch b4 b5
  clear b4
  obtain rfl : n2 = 0 := hf2.1
  clear hf2
  go_wp2_with fail
  ((with_reducible refine (k3 _).mono ?_); rintro e W6 ⟨A3, n3, c3, rfl, _, _, hf3, b6⟩)
  replace b6 := bch b5 b6
  clear b5
  obtain rfl : n3 = 0 := hf3.1
  clear hf3
  go_wp2_with fail
  ((with_reducible refine (k4 _).mono ?_); rintro e W7 ⟨A4, n4, c4, rfl, _, _, hf4, b7⟩)
  replace b7 := bch b6 b7
  clear b6
  obtain rfl : n4 = 1 := hf4.1
  obtain ⟨b, off, hA, hb, hat⟩ := hf4.2.2.2 (by omega)
  subst hA
  obtain ⟨d0, d1, d2⟩ := hat 0 (by simp)
  simp [kd, fl, da, f2F, xyF] at d0 d1 d2
  clear hat hf4
  go_wp2_with fail
  ((with_reducible refine (r1 _).mono ?_); rintro e W8 ⟨rfl, b8⟩)
  have e0 := (b8.cell (p := ⟨b, off, none⟩) hb).trans d0
  have e1 := (b8.cell (p := ⟨b, off + 1, none⟩) hb).trans d1
  have e2 := (b8.cell (p := ⟨b, off + 2, none⟩) hb).trans d2
  replace b8 := bch b7 b8
  clear b7 d0 d1 d2
  go_wp2_with fail
  ((with_reducible refine (r2 _).mono ?_); rintro e W9 ⟨rfl, b9⟩)
  replace b9 := bch b8 b9
  clear b8
  go_wp2_with fail
  go_ret
  exact ⟨rfl, b9⟩
end Go.Proofs.Ytjciojgldibfmaa
