import Derived.Test.YtpnkkiokkhmjpaaTabRow
import Derived.Test.YtpnkkiokkhmjpaaTabRefB
/-
  The contracts of the document's own 'own', 'fault', 'with' of tables (stage 12).
-/
namespace Go.Proofs.Ytpnkkiokkhmjpaa
open Go.RowKit
set_option linter.unusedVariables false
set_option linter.unusedSimpArgs false

theorem gb_set (w : World) (g j : Nat) (u : Value) : w.grownBy (w.setCell ⟨g, j, none⟩ u) (some g) :=
  ⟨rfl, rfl, rfl, by simp, fun k _ hk => heap_setCell_other w ⟨g, j, none⟩ k u (fun e => hk (by simp [e]))⟩
theorem own_fldT {w : World} {base n cap : Nat} {A : Option Addr} {xs : List Value} (h : w.ownsRow base 57 2 (.slice A n cap) n xs) : FldT w A n := fun hn => by
  rcases h.2 with ⟨h1, h2⟩ | ⟨g, cap2, cur, h1, _, hh, _⟩
  · omega
  · simp only [Value.slice.injEq] at h1
    exact ⟨g, 0, cur, _, h1.1, hh⟩
/-- What 'own' leaves: the same records, in a row of the call's own. -/
def OwnT (w : World) (t : List Rcd) (e : Ending) (w' : World) : Prop :=
  ∃ v l, e = .returned v ∧ RowT w' w.heap.size v l ∧ l.map Prod.fst = t ∧ ExT w' l ∧ Below w.heap.size w w'
theorem below_none {w w' : World} (hg : w.grownBy w' (Value.slice none 0 0).ownBlock) : Below w.heap.size w w' := (Below.refl _ _).grown hg (Nat.le_refl _) (fun g h => by simp [Value.ownBlock] at h)

set_option maxRecDepth 100000 in
set_option maxHeartbeats 8000000 in
theorem refown_any (t : List Rcd) (A : Option Addr) (n cap : Nat) (w : World) (h : IsTs w A n t) (h88 : n * 88 ≤ 140737488351232) :
    Calls Try.prog 32 #[.slice A n cap] w (OwnT w t) := by
  have HN : Hid (n = t.length) := h.1
  have HT := Lib.hid h; clear h
  go_enter Try.func32, Try.ntmps32
  go_wp2_with fail
  go_loopw [3, 4] (fun v i wy => ∃ (k : Nat) (wr : World) (l : List (Rcd × Value)), wr = wy ∧ k ≤ n ∧ i = .int .i64 k ∧ RowT wr w.heap.size v l ∧ l.map Prod.fst = t.take k ∧ ExT wr l ∧ Below w.heap.size w wr) (fun _ i _ => n - (intOf i).toNat)
  case atStart => exact ⟨0, _, [], rfl, by omega, rfl, rowT_nil _ _, by simp, ExT.nil _, Below.refl _ _⟩
  case round =>
    obtain ⟨k, wr, l, rfl, hk, rfl, hrow, hl, hex, hb⟩ := hrel
    have HROW := Lib.hid hrow
    obtain ⟨Av, cv, hv, hcv, hps⟩ := hrow.parts
    have HLL := Lib.hid hl; clear hl
    have HLEN : Hid (l.length = k) := by have := congrArg List.length HLL.out; rw [List.length_map, List.length_take] at this; show _ = _; have := HN.out; omega
    have HEX := Lib.hid hex; clear hex
    have HB := Lib.hid hb; clear hb
    subst hv
    clear hps hrow
    by_cases hlt : k < n
    · have HK : Hid (k < t.length) := by have := HN.out; show k < t.length; omega
      obtain ⟨b, off, hA, hbb⟩ := HT.out.block (by omega)
      subst hA
      have hki : (k : Int) < (n : Int) := by omega
      have hk0 : (0 : Int) ≤ (k : Int) := by omega
      have HTW := Lib.hid (HT.out.below HB.out)
      obtain ⟨E, m, c, hx, hmc, hfs⟩ := HTW.out.at HK.out (Below.refl _ wr)
      have HXW : Hid (RcW (atR t k)) := HTW.out.2.2.1 _ (atR_mem HK.out)
      have HTS : Hid (t.take (k + 1) = t.take k ++ [atR t k]) := take_succR HK.out
      have hbw : Below wr.heap.size wr (wr.alloc (.cells #[.string (atR t k).key, .string (atR t k).value, .int .i64 (atR t k).rev, .int .i64 (atR t k).life, .string (atR t k).note, .slice E m c] 47)) := (Below.refl _ _).alloc (Nat.le_refl _) _
      have hrb := Blk.new wr (.cells #[.string (atR t k).key, .string (atR t k).value, .int .i64 (atR t k).rev, .int .i64 (atR t k).life, .string (atR t k).note, .slice E m c] 47)
      have hsz : (wr.alloc (.cells #[.string (atR t k).key, .string (atR t k).value, .int .i64 (atR t k).rev, .int .i64 (atR t k).life, .string (atR t k).note, .slice E m c] 47)).heap.size = wr.heap.size + 1 := by simp
      generalize atR t k = r at *
      obtain ⟨W1, hW1⟩ : ∃ W, wr.alloc (.cells #[.string r.key, .string r.value, .int .i64 r.rev, .int .i64 r.life, .string r.note, .slice E m c] 47) = W := ⟨_, rfl⟩
      rw [hW1] at hbw hrb hsz
      have hx1 := hx.below hbw
      have HSZ := Lib.hid hsz; clear hsz
      have HB1 := Lib.hid (bch HB.out hbw)
      have hfs1 := hfs.below hbw
      obtain ⟨x0, x1, x2, x3, x4, x5⟩ := hx
      obtain ⟨y0, y1, y2, y3, y4, y5⟩ := hx1
      have HRB := Lib.hid hrb; clear hrb
      have HBW := Lib.hid hbw; clear hbw
      have h24 : m * 24 ≤ 140737488351232 := by have h1 := HXW.out.2.2.2; have h2 := hfs.1; rw [← h2] at h1; exact h1
      have H24 := Lib.hid h24; clear h24 hfs
      go_wp2_with (at_builtin; refine wpList_append_fsB rfl _ _ rfl w.heap.size _ [] rfl (World.ownsRow_nil _ _ _ _) E m c r.extra rfl hfs1 (by have := H24.out; simp; omega) (by first | exact HB1.out.size | exact HB1.out.drew.size) ?_)
      intro v2 W2 hrow2 hgrow2
      obtain ⟨A2, cap2, hv2, hcap2, hfs2⟩ := isFs_own hrow2 hfs1.2.2.1
      subst hv2
      have hft2 := own_fldT hrow2
      have hb2 : Below W1.heap.size W1 W2 := below_none hgrow2
      clear hrow2 hgrow2 x0 x1 x2 x3 x4 x5 y0 y1 y2 y3 y4 y5
      generalize r.extra.length = m2 at *
      have HB2 := Lib.hid (bch HB1.out hb2)
      have HBW2 := Lib.hid (bch HBW.out hb2)
      have hrb2 := Blk.below HRB.out hb2
      have hx2 : ExAt W2 (r, .slice A2 m2 cap2) := ⟨A2, m2, cap2, rfl, hcap2, hfs2, hft2⟩
      have hrb3 := Blk.set hrb2 5 (.slice A2 m2 cap2) #[.string r.key, .string r.value, .int .i64 r.rev, .int .i64 r.life, .string r.note, .slice A2 m2 cap2] rfl
      have hx3 := hx2.kept (gb_set W2 wr.heap.size 5 (.slice A2 m2 cap2)) (fun g hg => by cases hg; exact ⟨_, _, hrb2⟩)
      have HB3 := Lib.hid (HB2.out.setCell (p := ⟨wr.heap.size, 5, none⟩) HB.out.size (.slice A2 m2 cap2))
      have HBW3 := Lib.hid (HBW2.out.setCell (p := ⟨wr.heap.size, 5, none⟩) (Nat.le_refl _) (.slice A2 m2 cap2))
      have y5 := Blk.cell hrb2 5
      have g5 := Blk.frozen hrb2 5
      obtain ⟨W3, hW3⟩ : ∃ W, W2.setCell ⟨wr.heap.size, 5, none⟩ (.slice A2 m2 cap2) = W := ⟨_, rfl⟩
      rw [hW3] at hrb3 hx3 HB3 HBW3
      have z0 := Blk.cell hrb3 0
      have z1 := Blk.cell hrb3 1
      have z2 := Blk.cell hrb3 2
      have z3 := Blk.cell hrb3 3
      have z4 := Blk.cell hrb3 4
      have z5 := Blk.cell hrb3 5
      simp only [List.getElem?_toArray, List.getElem?_cons_zero, List.getElem?_cons_succ] at y5 z0 z1 z2 z3 z4 z5
      have hb4 : Below W3.heap.size W3 (W3.alloc (.cells #[.string r.key, .string r.value, .int .i64 r.rev, .int .i64 r.life, .string r.note, .slice A2 m2 cap2] 47)) := (Below.refl _ _).alloc (Nat.le_refl _) _
      have hp4 := isPs_one W3 (r, .slice A2 m2 cap2)
      simp only at hp4
      have hx4 := hx3.below hb4
      have HB4 := Lib.hid (bch HB3.out hb4)
      have HBW4 := Lib.hid (bch HBW3.out hb4)
      clear hx2 hx3 hrb2 hrb3 hb2 hb4 hfs1 hft2 hfs2
      obtain ⟨W4, hW4⟩ : ∃ W, W3.alloc (.cells #[.string r.key, .string r.value, .int .i64 r.rev, .int .i64 r.life, .string r.note, .slice A2 m2 cap2] 47) = W := ⟨_, rfl⟩
      rw [hW4] at hp4 hx4 HB4 HBW4
      have hrow4 := HROW.out.below HBW4.out
      have HEX4 : Hid (ExT W4 (l ++ [(r, .slice A2 m2 cap2)])) := (HEX.out.below HBW4.out).append (ExT.one HXW.out hx4)
      have HSL : Hid (SlP [(r, Value.slice A2 m2 cap2)]) := fun p hp => by rw [List.mem_singleton] at hp; rw [hp]; exact ⟨_, _, _, rfl⟩
      clear hx4
      go_wp2_with (at_builtin; refine wpList_append_tab rfl _ _ rfl w.heap.size _ l rfl hrow4 (some ⟨W3.heap.size, 0, none⟩) 1 1 [(r, .slice A2 m2 cap2)] rfl hp4 HSL.out (by have := HLEN.out; omega) HB4.out.size ?_)
      intro v5 W5 hrow5 hgrow5
      have HEX5 := Lib.hid (HEX4.out.kept hgrow5 hrow4.block)
      have hlt4 := hrow4.lt
      have HB5 : Hid (Below w.heap.size w W5) := HB4.out.grown hgrow5 HB4.out.size (fun g hg => (hlt4 g hg).1)
      have HR5 := Lib.hid hrow5
      clear hrow5 hgrow5 hrow4 hp4 hlt4
      go_wp2_with fail
      go_roundw
      case rel => exact ⟨k + 1, _, l ++ [(r, .slice A2 m2 cap2)], rfl, by omega, by go_num, HR5.out, by rw [List.map_append, HLL.out, HTS.out]; rfl, HEX5.out, HB5.out⟩
      case measure => simp [intOf]; omega
    · have hke : k = n := by omega
      have HL2 : Hid (l.map Prod.fst = t) := by show _ = _; rw [HLL.out, hke, HN.out, List.take_length]
      have HR := HROW
      have hki : ¬ ((k : Int) < (n : Int)) := by omega
      clear hlt hke
      go_wp2_with fail
      go_ret
      exact ⟨_, l, rfl, HR.out, HL2.out, HEX.out, HB.out⟩
end Go.Proofs.Ytpnkkiokkhmjpaa
