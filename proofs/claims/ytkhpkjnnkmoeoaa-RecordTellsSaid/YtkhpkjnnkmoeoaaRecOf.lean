/-
  The contract of record.recordOf: what recP and accR say, in new memory; nothing that was in memory changes.
-/
import Derived.Test.YtkhpkjnnkmoeoaaRecSet
import Derived.Test.YtkhpkjnnkmoeoaaRecFields
namespace Go.Proofs.Ytkhpkjnnkmoeoaa
open Go.RowKit
open Go.Maps (Keyed int_keyed keyOf_int_mk)

theorem acc_mem (v : Int) : ∀ (l : List Fld) (r : Rcd), (∀ f ∈ (l.foldl (stepR v) r).extra, f ∈ r.extra ∨ f ∈ l) ∧ (l.foldl (stepR v) r).extra.length ≤ r.extra.length + l.length := by
  intro l
  induction l with
  | nil => intro r; exact ⟨fun f hf => .inl hf, by simp⟩
  | cons g l ih =>
    intro r
    rw [List.foldl_cons]
    obtain ⟨h1, h2⟩ := ih (stepR v r g)
    have hs : (stepR v r g).extra = r.extra ∨ (stepR v r g).extra = r.extra ++ [g] := by
      unfold stepR
      cases knowB v g.1 with
      | true =>
        left
        unfold setR
        simp only [if_true]
        split
        · rfl
        · split
          · rfl
          · split
            · rfl
            · split <;> rfl
      | false => right; rfl
    refine ⟨fun f hf => ?_, ?_⟩
    · rcases h1 f hf with h | h
      · rcases hs with hs | hs
        · rw [hs] at h; exact .inl h
        · rw [hs] at h
          rcases List.mem_append.1 h with h | h
          · exact .inl h
          · exact .inr (by rw [List.mem_singleton] at h; rw [h]; exact List.mem_cons_self)
      · exact .inr (List.mem_cons_of_mem _ h)
    · rw [List.length_cons]
      rcases hs with hs | hs <;> rw [hs] at h2
      · omega
      · rw [List.length_append, List.length_singleton] at h2; omega
theorem acc_wf {v : Int} {fs : List Fld} (h : FsWf fs) (k : Nat) : FsWf (accR v (fs.take k)).extra := fun f hf => by
  rcases (acc_mem v (fs.take k) zeroR).1 f hf with h2 | h2
  · cases h2
  · exact h f (List.mem_of_mem_take h2)
theorem acc_len (v : Int) (fs : List Fld) (k : Nat) : (accR v (fs.take k)).extra.length ≤ k := by
  have := (acc_mem v (fs.take k) zeroR).2
  have h2 : (fs.take k).length ≤ k := List.length_take_le _ _
  have h3 : zeroR.extra.length = 0 := rfl
  unfold accR; omega
theorem set_extra (r : Rcd) (t : Int) (d : ByteArray) : (setR r t d).extra = r.extra := by
  unfold setR
  split
  · rfl
  · split
    · rfl
    · split
      · rfl
      · split <;> rfl
theorem step_known {v : Int} {r : Rcd} {t : Int} {d : ByteArray} (h : knowB v t = true) : stepR v r (t, d) = setR r t d := by unfold stepR; rw [if_pos h]
theorem step_other {v : Int} {r : Rcd} {t : Int} {d : ByteArray} (h : knowB v t = false) : stepR v r (t, d) = { r with extra := r.extra ++ [(t, d)] } := by unfold stepR; simp [h]

theorem run_callFunc_body {P : Program} {f : FuncId} {fn : Func} (hf : P.funcs[f]? = some fn) (hname : (fn.name == "runtime.NumGoroutine") = false) (hb : fn.body.isNone = false) (args : Array Value) (w : World) :
    (callFunc f args).run P w = .ok (.enter f args) w := by
  have h1 : fn.name ≠ "runtime.NumGoroutine" := by simpa using hname
  have h2 : fn.body ≠ none := by intro h; rw [h] at hb; cases hb
  simp [callFunc, hf, h1, h2]
theorem cf1 (args : Array Value) (w : World) : (callFunc 59 args).run Try.prog w = .ok (.enter 59 args) w := run_callFunc_body Try.func59 (by kernel_rfl) (by kernel_rfl) args w
theorem cf2 (args : Array Value) (w : World) : (callFunc 61 args).run Try.prog w = .ok (.enter 61 args) w := run_callFunc_body Try.func61 (by kernel_rfl) (by kernel_rfl) args w
theorem cf3 (args : Array Value) (w : World) : (callFunc 62 args).run Try.prog w = .ok (.enter 62 args) w := run_callFunc_body Try.func62 (by kernel_rfl) (by kernel_rfl) args w
theorem cf4 (args : Array Value) (w : World) : (callFunc 64 args).run Try.prog w = .ok (.enter 64 args) w := run_callFunc_body Try.func64 (by kernel_rfl) (by kernel_rfl) args w
theorem cf5 (args : Array Value) (w : World) : (callFunc 65 args).run Try.prog w = .ok (.enter 65 args) w := run_callFunc_body Try.func65 (by kernel_rfl) (by kernel_rfl) args w

theorem bch2 {B : Nat} {a b c : World} (h : Below B a b) (k : Below b.heap.size b c) (hB : B ≤ b.heap.size := by first | assumption | omega) : Below B a c := h.trans (k.mono hB)

theorem slice_addr {A B : Option Addr} {n m c d : Nat} (h : Value.slice A n c = .slice B m d) : A = B := by cases h; rfl
/-- A slice that lies in new memory. -/
def NewAt (B : Nat) (A : Option Addr) : Prop := ∀ b off, A = some ⟨b, off, none⟩ → B ≤ b
theorem newAt_none (B : Nat) : NewAt B none := fun b off h => by cases h
theorem newAt_own {w : World} {base B n cap n' : Nat} {A : Option Addr} {e : TypeId} {xs : List Value} {sz : Nat} (h : w.ownsRow base e sz (.slice A n cap) n' xs) (hB : B ≤ base) : NewAt B A := fun b off hA => by
  subst hA
  exact Nat.le_trans hB (h.lt b rfl).1

/-- What recordOf leaves. -/
def RofPost (w : World) (ok : Bool) (r : Rcd) (e : Ending) (w' : World) : Prop :=
  ∃ A n cap, e = .returned (.tuple #[rcV (if ok then r else zeroR) (.slice A n cap), .bool ok]) ∧ n ≤ cap ∧ IsFs w' A n (if ok then r else zeroR).extra ∧ NewAt w.heap.size A ∧ Below w.heap.size w w'

set_option maxRecDepth 100000 in
set_option maxHeartbeats 8000000 in
theorem recordOf_any (v : Int) (A : Option Addr) (n cap : Nat) (fs : List Fld) (w : World) (h : IsFs w A n fs) (h64 : n ≤ 64) :
    Calls Try.prog 36 #[.int .i64 v, .slice A n cap] w (RofPost w (recP v fs) (accR v fs)) := by
  obtain ⟨hn, hm, hwf, hc⟩ := h
  clear hm
  have HN := Lib.hid hn; clear hn
  have HC := Lib.hid hc; clear hc
  have hbZ : Below w.heap.size w ((w.alloc (.cells #[.string ⟨#[]⟩, .string ⟨#[]⟩, .int .i64 0, .int .i64 0, .string ⟨#[]⟩, .slice none 0 0] 24)).alloc (.cells #[.string ⟨#[]⟩, .string ⟨#[]⟩, .int .i64 0, .int .i64 0, .string ⟨#[]⟩, .slice none 0 0] 24)) := ((Below.refl _ _).alloc (Nat.le_refl _) _).alloc (by simp) _
  have hz0 : RcBlk ((w.alloc (.cells #[.string ⟨#[]⟩, .string ⟨#[]⟩, .int .i64 0, .int .i64 0, .string ⟨#[]⟩, .slice none 0 0] 24)).alloc (.cells #[.string ⟨#[]⟩, .string ⟨#[]⟩, .int .i64 0, .int .i64 0, .string ⟨#[]⟩, .slice none 0 0] 24)) w.heap.size zeroR (.slice none 0 0) := RcBlk.alloc (show RcBlk (w.alloc (.cells #[.string ⟨#[]⟩, .string ⟨#[]⟩, .int .i64 0, .int .i64 0, .string ⟨#[]⟩, .slice none 0 0] 24)) w.heap.size zeroR (.slice none 0 0) from World.alloc_heap_new w _) _
  have hr0 : RcBlk ((w.alloc (.cells #[.string ⟨#[]⟩, .string ⟨#[]⟩, .int .i64 0, .int .i64 0, .string ⟨#[]⟩, .slice none 0 0] 24)).alloc (.cells #[.string ⟨#[]⟩, .string ⟨#[]⟩, .int .i64 0, .int .i64 0, .string ⟨#[]⟩, .slice none 0 0] 24)) (w.heap.size + 1) zeroR (.slice none 0 0) := by
    have hx := World.alloc_heap_new (w.alloc (.cells #[.string ⟨#[]⟩, .string ⟨#[]⟩, .int .i64 0, .int .i64 0, .string ⟨#[]⟩, .slice none 0 0] 24)) (.cells #[.string ⟨#[]⟩, .string ⟨#[]⟩, .int .i64 0, .int .i64 0, .string ⟨#[]⟩, .slice none 0 0] 24)
    rw [show (w.alloc (.cells #[.string ⟨#[]⟩, .string ⟨#[]⟩, .int .i64 0, .int .i64 0, .string ⟨#[]⟩, .slice none 0 0] 24)).heap.size = w.heap.size + 1 from by simp] at hx
    exact hx
  have hsz2 : ((w.alloc (.cells #[.string ⟨#[]⟩, .string ⟨#[]⟩, .int .i64 0, .int .i64 0, .string ⟨#[]⟩, .slice none 0 0] 24)).alloc (.cells #[.string ⟨#[]⟩, .string ⟨#[]⟩, .int .i64 0, .int .i64 0, .string ⟨#[]⟩, .slice none 0 0] 24)).heap.size = w.heap.size + 2 := by simp
  have p0 := becomes_any ((w.alloc (.cells #[.string ⟨#[]⟩, .string ⟨#[]⟩, .int .i64 0, .int .i64 0, .string ⟨#[]⟩, .slice none 0 0] 24)).alloc (.cells #[.string ⟨#[]⟩, .string ⟨#[]⟩, .int .i64 0, .int .i64 0, .string ⟨#[]⟩, .slice none 0 0] 24))
  have HZ0 := Lib.hid hz0
  have HR0 := Lib.hid hr0
  have HS2 := Lib.hid hsz2
  clear hz0 hr0 hsz2
  go_enter Try.func36, Try.ntmps36
  go_wp2_with fail
  ((with_reducible refine p0.mono ?_); rintro e w1 ⟨bm, rfl, hmap, b1, hbm⟩)
  clear p0
  have hs1 : w.heap.size + 2 ≤ w1.heap.size := by have := b1.size; have := HS2.out; omega
  have hbm2 : w.heap.size + 2 ≤ bm := by have := HS2.out; omega
  have hbm3 : bm < w1.heap.size := hmap.lt
  have hz1 := HZ0.out.below b1
  have hr1 := HR0.out.below b1
  have hb1 : Below w.heap.size w w1 := bch hbZ b1
  clear hbZ HZ0 HR0 HS2 b1 hbm
  go_wp2_with fail
  go_loopw [13] (fun i wr => ∃ (k : Nat) (x : Value), k ≤ n ∧ i = .int .i64 k ∧ RcBlk wr (w.heap.size + 1) (accR v (fs.take k)) x ∧ wr.ownsRow w1.heap.size 46 2 x (accR v (fs.take k)).extra.length (cellsF (accR v (fs.take k)).extra) ∧ wr.ownsMap Try.prog 3 fnRd bm 5 becD ∧ RcBlk wr w.heap.size zeroR (.slice none 0 0) ∧ w1.heap.size ≤ wr.heap.size ∧ Hid (∀ j, j < k → knowB v (tg fs j) = true → okD (tg fs j) (dt fs j) = true) ∧ Below w.heap.size w wr) (fun i _ => n - (intOf i).toNat)
  case atStart => exact ⟨0, .slice none 0 0, by omega, rfl, hr1, World.ownsRow_nil _ _ _ _, hmap, hz1, Nat.le_refl _, fun j hj => by omega, hb1⟩
  case round =>
    clear hmap hz1 hr1 hb1
    obtain ⟨k, x, hk, rfl, hrb, hown, hmp, hzb, hsz, hno, hbw⟩ := hrel
    obtain ⟨A1, cap1, hv, hcap, hfs⟩ := isFs_own hown (acc_wf hwf k)
    subst hv
    have hlx := acc_len v fs k
    have hwR := acc_wf (v := v) hwf k
    by_cases hlt : k < n
    · obtain ⟨b, off, hA, hb, hat⟩ := HC.out (by omega)
      subst hA
      have HK : Hid (k < fs.length) := by have := HN.out; show k < fs.length; omega
      obtain ⟨c1, c2⟩ : wr.cell? ⟨b, off + k * 2, none⟩ = some (.int .i64 (tg fs k)) ∧ wr.cell? ⟨b, off + k * 2 + 1, none⟩ = some (.string (dt fs k)) := by
        have h := hat k HK.out
        exact ⟨(hbw.cell (p := ⟨b, off + k * 2, none⟩) hb).trans h.1, (hbw.cell (p := ⟨b, off + k * 2 + 1, none⟩) hb).trans h.2⟩
      clear hat
      have hstep := accR_take (v := v) HK.out
      have hwt := tg_wf hwf HK.out
      have hsd := dt_sz hwf HK.out
      have p1 := knows_any v (tg fs k)
      have HNO : Hid (knowB v (tg fs k) = true → okD (tg fs k) (dt fs k) = false → recP v fs = false) := fun h1 h2 => recP_no (fun h => by have := h.1 k HK.out h1; rw [h2] at this; cases this)
      have HYES : Hid ((knowB v (tg fs k) = true → okD (tg fs k) (dt fs k) = true) → ∀ j, j < k + 1 → knowB v (tg fs j) = true → okD (tg fs j) (dt fs j) = true) := fun h j hj => by
        rcases Nat.lt_or_ge j k with h2 | h2
        · exact hno.out j h2
        · rw [show j = k by omega]; exact h
      clear hno
      generalize tg fs k = t at *
      generalize dt fs k = d at *
      obtain ⟨R, hR⟩ : ∃ R, accR v (fs.take k) = R := ⟨_, rfl⟩
      rw [hR] at hrb hown hfs hlx hstep hcap hwR
      clear hR
      have HSTEP := Lib.hid hstep; clear hstep
      have hrb2 := hrb.alloc (.cells #[.int .i64 t, .string d] 46)
      have hzb2 := hzb.alloc (.cells #[.int .i64 t, .string d] 46)
      have hmp2 := hmp.alloc (.cells #[.int .i64 t, .string d] 46)
      have hown2 := hown.alloc (.cells #[.int .i64 t, .string d] 46)
      have hbw2 := hbw.alloc hbw.size (.cells #[.int .i64 t, .string d] 46)
      have hsz2 : w1.heap.size ≤ (wr.alloc (.cells #[.int .i64 t, .string d] 46)).heap.size := by simp; omega
      cases hK : knowB v t with
      | false =>
        rw [hK] at p1
        have HNX := HYES.out (fun h => by rw [hK] at h; cases h)
        have HR2 : Hid (accR v (fs.take (k + 1)) = { R with extra := R.extra ++ [(t, d)] }) := HSTEP.out.trans (step_other hK)
        clear hK HSTEP hmp hzb hrb
        have hown3 := hown2.alloc (.cells #[.int .i64 t, .string d] 46)
        have hrb3 := hrb2.alloc (.cells #[.int .i64 t, .string d] 46)
        have hzb3 := hzb2.alloc (.cells #[.int .i64 t, .string d] 46)
        have hmp3 := hmp2.alloc (.cells #[.int .i64 t, .string d] 46)
        have hbw3 := hbw2.alloc hbw2.size (.cells #[.int .i64 t, .string d] 46)
        have hone : IsFs ((wr.alloc (.cells #[.int .i64 t, .string d] 46)).alloc (.cells #[.int .i64 t, .string d] 46)) (some ⟨wr.heap.size + 1, 0, none⟩) 1 [(t, d)] := by
          have hx := World.alloc_heap_new (wr.alloc (.cells #[.int .i64 t, .string d] 46)) (.cells #[.int .i64 t, .string d] 46)
          rw [show (wr.alloc (.cells #[.int .i64 t, .string d] 46)).heap.size = wr.heap.size + 1 from by simp] at hx
          exact isFs_one (cell_blk hx 0) (cell_blk hx 1) hwt hsd
        have hsz3 : w1.heap.size ≤ ((wr.alloc (.cells #[.int .i64 t, .string d] 46)).alloc (.cells #[.int .i64 t, .string d] 46)).heap.size := by simp; omega
        have c5 := hrb2.cells.2.2.2.2.2
        have HOWNO := Lib.hid hown3.lt
        have HRB3 := Lib.hid hrb3
        have HZB3 := Lib.hid hzb3
        clear hrb3 hzb3 hrb2 hzb2
        go_wp2_with fail
        ((with_reducible refine (p1 _).mono ?_); rintro e w' ⟨rfl, rfl⟩)
        go_wp2_with (at_builtin; refine wpList_append_fs rfl _ _ rfl w1.heap.size _ R.extra rfl hown3 (some ⟨wr.heap.size + 1, 0, none⟩) 1 1 [(t, d)] rfl hone (by omega) hsz3 ?_)
        intro v' V2 hown4 hgrow
        obtain ⟨A2, cap2, hv, hcap2, _⟩ := isFs_own hown4 (hwR.append (fun f hf => by rw [List.mem_singleton] at hf; subst hf; exact ⟨hwt, hsd⟩))
        subst hv
        have hne1 : ∀ q : Nat, q < w1.heap.size → some q ≠ (Value.slice A1 R.extra.length cap1).ownBlock := fun q hq he => by
          have := (HOWNO.out q he.symm).1; omega
        have hrb4 := HRB3.out.kept hgrow (hne1 _ (by omega))
        have hzb4 := HZB3.out.kept hgrow (hne1 _ (by omega))
        have hmp4 := hmp3.kept hgrow (hne1 _ hbm3)
        have hbw4 := hbw3.grown hgrow (by have := hbw3.size; omega) (fun g hg => by have := (HOWNO.out g hg).1; omega)
        have c5' := hrb4.cells.2.2.2.2.2
        have f5' := hrb4.frozen 5
        have hszz := hgrow.size
        clear hone hown3 hmp3 hbw3 hown2 hmp2 hbw2 hown hbw hfs
        go_wp2_with fail
        go_roundw
        case rel =>
          refine ⟨k + 1, .slice A2 (R.extra.length + 1) cap2, by omega, by go_num, ?_, ?_, ?_, ?_, ?_, HNX, ?_⟩
          · rw [HR2.out]; exact heap_setCell_same V2 (w.heap.size + 1) 5 _ _ _ hrb4
          · rw [HR2.out]; exact ownsRow_setCell_below (a := ⟨w.heap.size + 1, 5, none⟩) (by simpa [List.length_append] using hown4) (by show w.heap.size + 1 < _; omega) _
          · exact hmp4.setCell (a := ⟨w.heap.size + 1, 5, none⟩) (by show bm ≠ w.heap.size + 1; omega) _
          · exact Eq.trans (heap_setCell_other V2 ⟨w.heap.size + 1, 5, none⟩ w.heap.size _ (by show w.heap.size ≠ w.heap.size + 1; omega)) hzb4
          · simp; omega
          · exact hbw4.setCell (p := ⟨w.heap.size + 1, 5, none⟩) (by show w.heap.size ≤ w.heap.size + 1; omega) _
        case measure => simp [intOf]; omega
      | true =>
        rw [hK] at p1
        have hnk := HNO.out hK
        have hnx : okD t d = true → Hid (∀ j, j < k + 1 → knowB v (tg fs j) = true → okD (tg fs j) (dt fs j) = true) := fun h => HYES.out (fun _ => h)
        have HR2 : Hid (accR v (fs.take (k + 1)) = setR R t d) := HSTEP.out.trans (step_known hK)
        have hse := set_extra R t d
        have ht5 : t = 1 ∨ t = 2 ∨ t = 3 ∨ t = 4 ∨ t = 5 := by have := knowB_iff.1 hK; have := topT_le v; omega
        have NK := Lib.hid hnk
        have NX := Lib.hid hnx
        have SE := Lib.hid hse
        clear hK HSTEP hnk hnx hse HNO HYES hmp hzb hrb hown hbw
        obtain ⟨lk, hlk⟩ : ∃ f : Nat, becD.atKey (.int .i64 t) (.lit (.bool false)) = .lit (.int .i64 (f : Int)) ∧ (∀ args W, (callFunc f args).run Try.prog W = .ok (.enter f args) W) ∧ (∀ W x, RcBlk W (w.heap.size + 1) R x → Calls Try.prog f #[.pointer (some ⟨w.heap.size + 1, 0, none⟩), .string d] W (SetPost (w.heap.size + 1) R x t d W)) := by
          rcases ht5 with rfl | rfl | rfl | rfl | rfl
          · exact ⟨_, becD_1, cf1, fun W x h => set1_any _ R x d W hsd h⟩
          · exact ⟨_, becD_2, cf2, fun W x h => set2_any _ R x d W hsd h⟩
          · exact ⟨_, becD_3, cf3, fun W x h => set3_any _ R x d W (by unfold maxLen; omega) h⟩
          · exact ⟨_, becD_4, cf4, fun W x h => set4_any _ R x d W (by unfold maxLen; omega) h⟩
          · exact ⟨_, becD_5, cf5, fun W x h => set5_any _ R x d W hsd h⟩
        clear ht5
        obtain ⟨hat, hcf, pset⟩ := hlk
        have p2 := pset _ _ hrb2
        clear pset
        go_wp2_with fail
        ((with_reducible refine (p1 _).mono ?_); rintro e w' ⟨rfl, rfl⟩)
        go_wp2_with (refine wpList_lookup_fn _ rfl _ _ 78 rfl 3 81 (int_keyed Try.underlying3) Try.underlying78 (zeroBec _) bm 5 becD rfl hmp2 _ (.int .i64 t) rfl (keyOf_int_mk Try.underlying3 hwt) lk hat ?_)
        go_wp2_with fail
        ((with_reducible refine p2.mono ?_); rintro e w2 ⟨rfl, hset, hgrow⟩)
        have hmp4 := hmp2.kept hgrow (by simp; omega)
        have hzb4 := hzb2.kept hgrow (by simp)
        have hown4 := hown2.kept hgrow (by
          right; intro he
          have := (hown2.lt _ he).1; omega)
        have hbw4 := hbw2.grown hgrow hbw2.size (fun g hg => by simp only [Option.some.injEq] at hg; omega)
        have hszz := hgrow.size
        clear p2 hat hcf hmp2 hzb2 hrb2 hown2 hbw2
        cases hO : okD t d with
        | true =>
          have hrb4 := hset hO
          have HNX := NX.out hO
          clear hset
          go_wp2_with fail
          go_roundw
          case rel =>
            refine ⟨k + 1, .slice A1 R.extra.length cap1, by omega, by go_num, ?_, ?_, hmp4, hzb4, by omega, HNX, hbw4⟩
            · rw [HR2.out]; exact hrb4
            · rw [HR2.out, SE.out]; exact hown4
          case measure => simp [intOf]; omega
        | false =>
          have hF := NK.out hO
          have HF := Lib.hid hF
          obtain ⟨z0, z1, z2, z3, z4, z5⟩ := hzb4.cells
          have f0 := hzb4.frozen 0
          have f1 := hzb4.frozen 1
          have f2 := hzb4.frozen 2
          have f3 := hzb4.frozen 3
          have f4 := hzb4.frozen 4
          have f5 := hzb4.frozen 5
          have HBW := Lib.hid hbw4
          simp only [zeroR] at z0 z1 z2 z3 z4
          clear hF hset hO hmp4 hzb4 hown4 hbw4
          go_wp2_with fail
          refine bodyPost_ret (v := .tuple #[.agg #[.string ⟨#[]⟩, .string ⟨#[]⟩, .int .i64 0, .int .i64 0, .string ⟨#[]⟩, .slice none 0 0], .bool false]) (by simp [results, Try.results36, go_sem, z0, z1, z2, z3, z4, z5]) rfl ⟨none, 0, 0, by rw [HF.out]; rfl, Nat.le_refl _, by rw [HF.out]; exact isFs_nil _ _, newAt_none _, ?_⟩
          exact (((((HBW.out.setCell (Nat.le_refl _) _).setCell (Nat.le_refl _) _).setCell (Nat.le_refl _) _).setCell (Nat.le_refl _) _).setCell (Nat.le_refl _) _).setCell (Nat.le_refl _) _
    · have hkn : n = k := by omega
      subst hkn
      have hT : fs.take n = fs := by rw [HN.out, List.take_of_length_le (Nat.le_refl _)]
      rw [hT] at hrb hown hfs hcap hlx hwR
      have HP : Hid (few (accR v fs).extra ≤ 8 → recP v fs = true) := fun h => recP_iff.2 ⟨by have := hno.out; rw [HN.out] at this; exact this, h⟩
      have HQ : Hid (¬ few (accR v fs).extra ≤ 8 → recP v fs = false) := fun h => recP_no (fun h2 => h h2.2)
      clear hT hno
      generalize accR v fs = R at *
      have p1 := fewExtra_any A1 R.extra.length cap1 R.extra wr hfs
      have c5 := hrb.cells.2.2.2.2.2
      have HFS := Lib.hid hfs
      have HOWN := Lib.hid hown
      have HWR := Lib.hid hwR
      have HRB := Lib.hid hrb
      have HZB := Lib.hid hzb
      have hx0 := lt_of_blk hrb
      have hx1 := lt_of_blk hzb
      clear hfs hrb hzb hown hmp hwR
      by_cases h8 : few R.extra ≤ 8
      · have HF := Lib.hid (HP.out h8)
        rw [show decide (few R.extra ≤ 8) = true from by simpa using h8] at p1
        clear h8
        go_wp2_with fail
        ((with_reducible refine p1.mono ?_); rintro e w2 ⟨rfl, b2⟩)
        have hzb4 := HZB.out.below b2
        have hrb4 := HRB.out.below b2
        have HFS2 := Lib.hid (HFS.out.below b2)
        obtain ⟨z0, z1, z2, z3, z4, z5⟩ := hzb4.cells
        obtain ⟨y0, y1, y2, y3, y4, y5⟩ := hrb4.cells
        have f0 := hzb4.frozen 0
        have f1 := hzb4.frozen 1
        have f2 := hzb4.frozen 2
        have f3 := hzb4.frozen 3
        have f4 := hzb4.frozen 4
        have f5 := hzb4.frozen 5
        have HBW := Lib.hid (bch hbw b2)
        simp only [zeroR] at z0 z1 z2 z3 z4
        clear p1 hbw hzb4 hrb4 c5
        go_wp2_with fail
        refine bodyPost_ret (v := .tuple #[rcV R (.slice A1 R.extra.length cap1), .bool true]) (by simp [results, Try.results36, go_sem, z0, z1, z2, z3, z4, z5]) rfl ⟨A1, R.extra.length, cap1, by rw [HF.out]; rfl, hcap, ?_, newAt_own HOWN.out (by omega), ?_⟩
        · rw [HF.out]
          have hl : ∀ j : Nat, (⟨w.heap.size, j, none⟩ : Addr).block < w1.heap.size := fun j => by show w.heap.size < _; omega
          have h0 := own_below HOWN.out b2
          have h1 := ownsRow_setCell_below h0 (hl 0) (.string R.key)
          have h2 := ownsRow_setCell_below h1 (hl 1) (.string R.value)
          have h3 := ownsRow_setCell_below h2 (hl 2) (.int .i64 R.rev)
          have h4 := ownsRow_setCell_below h3 (hl 3) (.int .i64 R.life)
          have h5 := ownsRow_setCell_below h4 (hl 4) (.string R.note)
          have h := ownsRow_setCell_below h5 (hl 5) (.slice A1 R.extra.length cap1)
          obtain ⟨A9, cap9, hv9, _, hf9⟩ := isFs_own h HWR.out
          have e1 := slice_addr hv9
          subst e1
          exact hf9
        · exact (((((HBW.out.setCell (Nat.le_refl _) _).setCell (Nat.le_refl _) _).setCell (Nat.le_refl _) _).setCell (Nat.le_refl _) _).setCell (Nat.le_refl _) _).setCell (Nat.le_refl _) _
      · have HF := Lib.hid (HQ.out h8)
        rw [show decide (few R.extra ≤ 8) = false from by simpa using h8] at p1
        clear h8
        go_wp2_with fail
        ((with_reducible refine p1.mono ?_); rintro e w2 ⟨rfl, b2⟩)
        have hzb4 := HZB.out.below b2
        obtain ⟨z0, z1, z2, z3, z4, z5⟩ := hzb4.cells
        have f0 := hzb4.frozen 0
        have f1 := hzb4.frozen 1
        have f2 := hzb4.frozen 2
        have f3 := hzb4.frozen 3
        have f4 := hzb4.frozen 4
        have f5 := hzb4.frozen 5
        have HBW := Lib.hid (bch hbw b2)
        simp only [zeroR] at z0 z1 z2 z3 z4
        clear p1 hbw hzb4 c5
        go_wp2_with fail
        refine bodyPost_ret (v := .tuple #[.agg #[.string ⟨#[]⟩, .string ⟨#[]⟩, .int .i64 0, .int .i64 0, .string ⟨#[]⟩, .slice none 0 0], .bool false]) (by simp [results, Try.results36, go_sem, z0, z1, z2, z3, z4, z5]) rfl ⟨none, 0, 0, by rw [HF.out]; rfl, Nat.le_refl _, by rw [HF.out]; exact isFs_nil _ _, newAt_none _, ?_⟩
        exact (((((HBW.out.setCell (Nat.le_refl _) _).setCell (Nat.le_refl _) _).setCell (Nat.le_refl _) _).setCell (Nat.le_refl _) _).setCell (Nat.le_refl _) _).setCell (Nat.le_refl _) _
end Go.Proofs.Ytkhpkjnnkmoeoaa
