import Derived.Test.YtjdpihppniibjaaPut
import Derived.RegionIn
import Derived.BigRegionIn
/-
  The contract of varint.Take: for every text what takeR says of its bytes; nothing that was in memory changes. (Its iterator's contract on the way.)
-/
namespace Go.Proofs.Ytjdpihppniibjaa
open Go.RowKit Go.Shelf

attribute [local go_sem] Oper.semAt_some

theorem lead_ge (l : List UInt8) (j : Nat) (h : j < lead l) : ¬ (l[j]?.getD 0).toNat < 128 := by
  induction l generalizing j with
  | nil => simp [lead] at h
  | cons b t ih =>
    unfold lead at h
    split at h
    · omega
    · cases j with
      | zero => rename_i hb; simpa using hb
      | succ j => simpa using ih j (by omega)
theorem lead_at (l : List UInt8) (h : lead l < l.length) : (l[lead l]?.getD 0).toNat < 128 := by
  induction l with
  | nil => simp at h
  | cons b t ih =>
    unfold lead at h ⊢
    split
    · simpa using ‹_›
    · rename_i hb; rw [if_neg hb] at h; simpa using ih (by simpa using h)

/-- How many bytes are looked at. -/
def cntA (s : ByteArray) : Nat := min (lead s.data.toList + 1) (min s.size 8)
/-- A text's byte. -/
def byteA (s : ByteArray) (j : Nat) : UInt8 := s.data.toList[j]?.getD 0
theorem byteA_eq (s : ByteArray) (j : Nat) (h : j < s.size) : byteA s j = s[j] := by
  unfold byteA
  have h' : j < s.data.toList.length := by simpa using h
  rw [List.getElem?_eq_getElem h']; rfl

set_option maxRecDepth 100000 in
set_option maxHeartbeats 1000000 in
theorem bytesAhead1_seq (n Bn : Nat) (s : ByteArray) (w : World) (hb : Boxed w Bn 9 (.string s)) (hs : s.size ≤ maxLen) :
    SeqSt n Try.prog 47 #[.pointer (some ⟨Bn, 0, none⟩)] (fun x : Nat × UInt8 => #[Value.int .i64 x.1, Value.int .u8 x.2.toNat]) (fun _ _ => False) (KpBox Bn) (fun xs => xs.length = cntA s) (fun _ => True)
      (fun pre x => pre.length < cntA s ∧ x = (pre.length, byteA s pre.length)) w := by
  intro l J Jx W hW _ _ hY h0
  unfold maxLen at hs
  have hb0 : Boxed W Bn 9 (.string s) := (hW.block Bn hb.lt).trans hb
  have hc0 := hb0.cell
  refine callsIn_of_wp Try.func47 rfl trivial ?_ rfl
  simp only [Try.ntmps47, List.size_toArray, List.length_cons, List.length_nil, Nat.reduceAdd, Nat.reduceSub, Array.replicate_succ, Array.replicate_zero, List.push_toArray, List.append_toArray, List.nil_append, List.cons_append]
  by_cases h8 : s.size ≤ 8
  all_goals
    gi_wp2
    gi_loopw [7] (fun i wr => ∃ pre : List (Nat × UInt8), i = .int .i64 pre.length ∧ pre.length ≤ lead s.data.toList ∧ pre.length ≤ min s.size 8 ∧ Boxed wr Bn 9 (.string s) ∧ J pre wr) (fun i _ => 8 - (intOf i).toNat)
    case atStart => exact ⟨[], rfl, Nat.zero_le _, Nat.zero_le _, hb0, h0⟩
    case round =>
      obtain ⟨pre, rfl, hld, hmn, hbm, hJm⟩ := hrel
      have hc := hbm.cell
      by_cases hlt : pre.length < min s.size 8
      · have hsz : pre.length < s.size := by omega
        have hx8 : pre.length < 8 := by omega
        obtain ⟨fn, tmps, assign, body, hy, hR⟩ := hY pre (pre.length, byteA s pre.length) wr hJm ⟨by unfold cntA; omega, rfl⟩
        rw [byteA_eq s _ hsz] at hR hy
        dsimp only at hy
        have HL := Lib.hid hld; clear hld
        have HM := Lib.hid hmn; clear hmn
        have HT := Lib.hid hlt; clear hlt
        gi_wp2
        refine ⟨fun h => (by cases h), hR.mono ?_⟩
        rintro e W3 (⟨rfl, hJ3, hk3⟩ | ⟨rfl, hJx3⟩)
        · have hb3 := hk3.boxed hbm
          have hc3 := hb3.cell
          by_cases hbt : s[pre.length].toNat < 128
          · have HE : Hid (lead s.data.toList = pre.length) := by
              have h1 := HL.out
              have h2 := lead_ge s.data.toList pre.length
              have h3 := byteA_eq s _ hsz
              unfold byteA at h3
              rw [h3] at h2
              show lead s.data.toList = pre.length
              omega
            gi_wp2
            refine bodyPost_ret (results_none rfl _ _ _) rfl ?_
            exact ⟨⟨_, rfl⟩, .inl ⟨_, by have := HE.out; have := HT.out; unfold cntA; simp; omega, hJ3⟩⟩
          · have HE : Hid (pre.length + 1 ≤ lead s.data.toList) := by
              have h1 := HL.out
              have h2 := lead_at s.data.toList
              have h3 := byteA_eq s _ hsz
              unfold byteA at h3
              show pre.length + 1 ≤ lead s.data.toList
              rcases Nat.lt_or_ge pre.length (lead s.data.toList) with h | h
              · exact h
              · exfalso
                have e : lead s.data.toList = pre.length := by omega
                rw [e, h3] at h2
                exact hbt (h2 (by simpa using hsz))
            gi_wp2
            go_roundw
            case rel => exact ⟨_, by simp, by have := HE.out; simp; omega, by have := HT.out; simp; omega, hb3, hJ3⟩
            case measure => simp [intOf]; omega
        · gi_wp2
          refine bodyPost_ret (results_none rfl _ _ _) rfl ?_
          exact ⟨⟨_, rfl⟩, .inr ⟨_, trivial, hJx3⟩⟩
      · have hE : pre.length = min s.size 8 := by omega
        have HL := Lib.hid hld; clear hld
        have HM := Lib.hid hmn; clear hmn
        have hge : s.size ≤ pre.length ∨ 8 ≤ pre.length := by omega
        have HE := Lib.hid hE; clear hE
        clear hlt
        first | (have hge' : s.size ≤ pre.length := by omega); clear hge; gi_wp2 | (have hge' : 8 ≤ pre.length := by omega); clear hge; gi_wp2
        go_end0
        exact ⟨⟨_, rfl⟩, .inl ⟨_, by have := HE.out; have := HL.out; unfold cntA; omega, hJm⟩⟩

/-- The byte that was looked at last; 128 before the first. -/
def lastA (s : ByteArray) (j : Nat) : Nat := if j = 0 then 128 else (byteA s (j - 1)).toNat

/-- What a byte is worth at its place. -/
def digA (s : ByteArray) (j : Nat) : Nat := (byteA s j).toNat % 128 * 128 ^ j
theorem shl_dig (s : ByteArray) (j : Nat) (hj : j < 8) (W : World) :
    (Op.shift .shl .i64 (IntKind.i64.wrap (((byteA s j).toNat : Int).tmod 128)) .i64 (IntKind.i64.wrap (7 * (j : Int)))).run Try.prog W = .ok (.int .i64 (digA s j)) W := by
  have hb := (byteA s j).toNat_lt
  unfold digA
  generalize (byteA s j).toNat = b at *
  have e1 : IntKind.i64.wrap (7 * (j : Int)) = 7 * (j : Int) := IntWalk.i64_in _ (by omega)
  have e2 : ((b : Int)).tmod 128 = ((b % 128 : Nat) : Int) := by rw [Int.tmod_eq_emod_of_nonneg (by omega)]; omega
  have e3 : IntKind.i64.wrap ((b % 128 : Nat) : Int) = ((b % 128 : Nat) : Int) := IntWalk.i64_in _ (by omega)
  rw [e1, e2, e3, shift_shl_any _ _ _ _ (by omega)]
  have e4 : ((b % 128 : Nat) : Int) * 2 ^ min (7 * (j : Int)).toNat IntKind.i64.bits = ((b % 128 * 128 ^ j : Nat) : Int) := by
    have : min (7 * (j : Int)).toNat IntKind.i64.bits = 7 * j := by simp [IntKind.bits]; omega
    rw [this, show ((2 : Int) ^ (7 * j)) = ((2 ^ (7 * j) : Nat) : Int) by simp, Nat.pow_mul]
    simp
  have e5 : b % 128 * 128 ^ j < 72057594037927936 := by
    have h1 : b % 128 * 128 ^ j < 128 * 128 ^ j := Nat.mul_lt_mul_of_pos_right (by omega) (Nat.pow_pos (by omega))
    have h2 : 128 ^ (j + 1) ≤ 128 ^ 8 := Nat.pow_le_pow_right (by omega) (by omega)
    rw [Nat.pow_succ] at h2
    have h3 : (128 : Nat) ^ 8 = 72057594037927936 := by decide
    omega
  rw [e4, IntWalk.i64_in _ (by omega)]
  rfl

theorem val_lt (l : List UInt8) : val l < 128 ^ l.length := by
  induction l with
  | nil => simp [val]
  | cons b t ih => simp only [val, List.length_cons, Nat.pow_succ]; omega
theorem val_snoc (l : List UInt8) (b : UInt8) : val (l ++ [b]) = val l + b.toNat % 128 * 128 ^ l.length := by
  induction l with
  | nil => simp [val]
  | cons c t ih => simp only [List.cons_append, val, ih, List.length_cons, Nat.pow_succ, Nat.mul_add]; rw [Nat.add_assoc]; congr 2; rw [Nat.mul_left_comm, Nat.mul_comm 128]
theorem val_step (s : ByteArray) (j : Nat) (h : j < s.size) : val (s.data.toList.take (j + 1)) = val (s.data.toList.take j) + digA s j := by
  have h' : j < s.data.toList.length := by simpa using h
  rw [List.take_succ_eq_append_getElem h', val_snoc, List.length_take, Nat.min_eq_left (by omega)]
  unfold digA byteA
  rw [List.getElem?_eq_getElem h']; rfl
theorem val_take_lt (s : ByteArray) (j : Nat) (h : j ≤ s.size) : val (s.data.toList.take j) < 128 ^ j := by
  have := val_lt (s.data.toList.take j)
  rwa [List.length_take, Nat.min_eq_left (by simpa using h)] at this
theorem or_dig (s : ByteArray) (j : Nat) (h : j < s.size) (h8 : j < 8) : bits .or .i64 (val (s.data.toList.take j)) (digA s j) = (val (s.data.toList.take (j + 1)) : Int) := by
  rw [val_step s j h]
  have h1 := val_take_lt s j (by omega)
  have h2 : digA s j = 2 ^ (7 * j) * ((byteA s j).toNat % 128) := by unfold digA; rw [Nat.pow_mul, Nat.mul_comm]
  have h3 := Nat.two_pow_add_eq_or_of_lt (i := 7 * j) (b := val (s.data.toList.take j)) (by rw [Nat.pow_mul]; exact h1) ((byteA s j).toNat % 128)
  have h4 : 128 ^ (j + 1) ≤ 128 ^ 8 := Nat.pow_le_pow_right (by omega) (by omega)
  have h5 := val_take_lt s (j + 1) (by omega)
  rw [val_step s j h] at h5
  have h6 : (128 : Nat) ^ 8 = 72057594037927936 := by decide
  have h7 : val (s.data.toList.take j) ||| digA s j = val (s.data.toList.take j) + digA s j := by rw [Nat.or_comm, h2, ← h3, Nat.add_comm]
  generalize val (s.data.toList.take j) = a at *
  generalize digA s j = b at *
  show IntKind.i64.wrap ((BitVec.ofInt 64 (a : Int) ||| BitVec.ofInt 64 (b : Int)).toNat : Int) = _
  rw [BitVec.toNat_or, ofInt_u64 a (by omega), ofInt_u64 b (by omega), h7, IntWalk.i64_in _ (by omega)]

/-- What is looked at last decides. -/
theorem take_last (s : ByteArray) :
    (lead s.data.toList < min s.size 8 ∧ cntA s = lead s.data.toList + 1 ∧ lastA s (cntA s) = (s.data.toList[lead s.data.toList]?.getD 0).toNat ∧ lastA s (cntA s) < 128) ∨
    (¬ lead s.data.toList < min s.size 8 ∧ cntA s = min s.size 8 ∧ 128 ≤ lastA s (cntA s)) := by
  by_cases h : lead s.data.toList < min s.size 8
  · have e : cntA s = lead s.data.toList + 1 := by unfold cntA; omega
    refine .inl ⟨h, e, ?_, ?_⟩
    · rw [e]; unfold lastA; rw [if_neg (by omega)]; rfl
    · rw [e]; unfold lastA; rw [if_neg (by omega)]; exact lead_at _ (by have : s.data.toList.length = s.size := by simp
                                                                        omega)
  · have e : cntA s = min s.size 8 := by unfold cntA; omega
    refine .inr ⟨h, e, ?_⟩
    rw [e]; unfold lastA
    split
    · omega
    · have := lead_ge s.data.toList (min s.size 8 - 1) (by omega)
      unfold byteA; omega

theorem bytesAhead_any (n : Nat) (s : ByteArray) (w : World) :
    CallsIn Fence.wide n Try.prog 45 #[.string s] w fun e w' => e = .returned (.func (.func 47) #[] #[.pointer (some ⟨w.heap.size, 0, none⟩)]) ∧ w' = w.alloc (.cells #[.string s] 9) := by
  refine callsIn_of_wp Try.func45 rfl trivial ?_ rfl
  simp only [Try.ntmps45, List.size_toArray, List.length_cons, List.length_nil, Nat.reduceAdd, Nat.reduceSub, Array.replicate_succ, Array.replicate_zero, List.push_toArray, List.append_toArray, List.nil_append, List.cons_append]
  gi_wp2
  go_ret
  exact ⟨rfl, rfl⟩

set_option maxRecDepth 100000 in
set_option maxHeartbeats 2000000 in
theorem take_any (s : ByteArray) (hs : s.size ≤ maxLen) (w : World) :
    Calls Try.prog 42 #[.string s] w fun e w' => e = .returned (.tuple #[.int .i64 (takeR s.data.toList).1, .int .i64 (takeR s.data.toList).2.1, .int .i64 (takeR s.data.toList).2.2]) ∧ Below w.heap.size w w' := by
  refine (callsIn_wide (n := 9)).1 ?_
  refine callsIn_of_wp_marks Try.func42 rfl trivial ?_ rfl
  simp only [Try.ntmps42, List.size_toArray, List.length_cons, List.length_nil, Nat.reduceAdd, Nat.reduceSub, Array.replicate_succ, Array.replicate_zero, List.push_toArray, List.append_toArray, List.nil_append, List.cons_append]
  gi_wp2_with (refine ⟨trivial, ?_⟩; gi_at_call 45; refine (bytesAhead_any _ _ _).mono ?_; rintro e w' ⟨rfl, rfl⟩)
  obtain ⟨B, hB⟩ : ∃ B, w.heap.size = B := ⟨_, rfl⟩
  rw [hB]
  obtain ⟨W0, hW0⟩ : ∃ W0, ((((w.alloc (.cells #[.int .i64 0] 3)).alloc (.cells #[.int .i64 0] 3)).alloc (.cells #[.int .u8 128] 5)).alloc (.cells #[.string s] 9)) = W0 := ⟨_, rfl⟩
  have hsz : W0.heap.size = B + 4 := by rw [← hW0]; simp; omega
  have b1 : Boxed W0 B 3 (.int .i64 0) := by rw [← hW0, ← hB]; exact (((Boxed.new w _ _).alloc _).alloc _).alloc _
  have b2 : Boxed W0 (B + 1) 3 (.int .i64 0) := by rw [← hW0, ← hB]; have := (((Boxed.new (w.alloc (.cells #[.int .i64 0] 3)) 3 (.int .i64 0)).alloc (.cells #[.int .u8 128] 5)).alloc (.cells #[.string s] 9)); rwa [World.size_alloc] at this
  have b3 : Boxed W0 (B + 2) 5 (.int .u8 128) := by rw [← hW0, ← hB]; have := ((Boxed.new ((w.alloc (.cells #[.int .i64 0] 3)).alloc (.cells #[.int .i64 0] 3)) 5 (.int .u8 128)).alloc (.cells #[.string s] 9)); rwa [World.size_alloc, World.size_alloc] at this
  have b4 : Boxed W0 (B + 3) 9 (.string s) := by rw [← hW0, ← hB]; have := (Boxed.new (((w.alloc (.cells #[.int .i64 0] 3)).alloc (.cells #[.int .i64 0] 3)).alloc (.cells #[.int .u8 128] 5)) 9 (.string s)); rwa [World.size_alloc, World.size_alloc, World.size_alloc] at this
  have hBe : Below B w W0 := by rw [← hW0, ← hB]; exact ((((Below.refl _ _).alloc (Nat.le_refl _) _).alloc (by simp) _).alloc (by simp; omega) _).alloc (by simp; omega) _
  rw [hW0]
  have b4' : Boxed W0 (B + 1 + 1 + 1) 9 (.string s) := b4
  refine range_law (by decide) (gf := 47) (lb := #[.pointer (some ⟨B + 1 + 1 + 1, 0, none⟩)]) rfl (enters_of Try.func47 (by kernel_rfl) rfl)
    (bytesAhead1_seq _ (B + 1 + 1 + 1) s W0 b4' hs) ?hKt ?hKb ?hSt (fun _ => rfl)
    (fun pre W => Boxed W B 3 (.int .i64 (val (s.data.toList.take pre.length))) ∧ Boxed W (B + 1 + 1 + 1) 9 (.string s) ∧ Boxed W (B + 1) 3 (.int .i64 pre.length) ∧ Boxed W (B + 1 + 1) 5 (.int .u8 (lastA s pre.length)) ∧ Below B w W)
    (fun _ _ _ => False) ?hI (fun _ _ _ _ _ h => h.elim) ?hIs (fun _ _ _ _ h => h.elim) ⟨b1, b4, b2, b3, hBe⟩
    (fun x => { tmps := #[Value.string s, undef, Value.int IntKind.i64 0, Value.int IntKind.i64 0, Value.int IntKind.i64 0,
          Value.pointer (some { block := B, off := 0 }),
          Value.pointer (some { block := B + 1, off := 0 }),
          Value.pointer (some { block := B + 1 + 1, off := 0 }), .int .i64 x.1, .int .u8 x.2.toNat, Value.string s,
          Value.func (Fn.func 47) #[] #[Value.pointer (some { block := B + 1 + 1 + 1, off := 0 })], .int .i64 x.1, .int .u8 x.2.toNat,
          undef, undef, undef, undef, undef, undef, undef, undef, undef, undef, undef, undef,
          undef, undef, undef, undef, undef, undef, undef, undef, undef, undef, undef, undef, undef, undef, undef,
          undef, undef, undef, undef, undef, undef], defers := [] }) ?assign ?body ?done ?stop
  case assign =>
    intro l x W K hK
    gi_wp2
    exact hK
  case hKt => intro A B C h1 h2; exact Eq.trans h2 h1
  case hKb => intro W l o hl; exact World.putObj_heap_other (by omega)
  case hSt => intro A B h; exact h.elim
  case hIs => intro s A B _ h; exact h.elim
  case hI =>
    refine OwnFrom.and (Own.from (boxed_own B 3 _) _) (OwnFrom.and (Own.from (boxed_own (B + 1 + 1 + 1) 9 (fun _ => Value.string s)) _) (OwnFrom.and (Own.from (boxed_own (B + 1) 3 _) _) (OwnFrom.and (Own.from (boxed_own (B + 1 + 1) 5 _) _) (ownFrom_below (by omega) (by omega)))))
  case body =>
    rintro l pre x W ⟨h1, h4, h2, h3, hBw⟩ ⟨hlt, rfl⟩
    have c1 := h1.cell
    have c2 := h2.cell
    have c3 := h3.cell
    have f1 := h1.frozen
    have f2 := h2.frozen
    have f3 := h3.frozen
    have hj8 : pre.length < 8 := by unfold cntA at hlt; omega
    have HT := Lib.hid hlt; clear hlt
    dsimp only
    have hsh : ∀ W' : World, (Op.shift .shl .i64 (IntKind.i64.wrap (((byteA s pre.length).toNat : Int).tmod 128)) .i64 (IntKind.i64.wrap (7 * (pre.length : Int)))).run Try.prog W' = .ok (.int .i64 (digA s pre.length)) W' := fun W' => shl_dig s _ hj8 W'
    gi_wp2
    refine wpIn_mono (Q := fun e a' W' => e = Exit.normal ∧ a' = { tmps := #[Value.string s, undef, Value.int IntKind.i64 0, Value.int IntKind.i64 0, Value.int IntKind.i64 0,
          Value.pointer (some { block := B, off := 0 }), Value.pointer (some { block := B + 1, off := 0 }),
          Value.pointer (some { block := B + 1 + 1, off := 0 }), Value.int IntKind.i64 pre.length,
          Value.int IntKind.u8 (byteA s pre.length).toNat, Value.string s,
          Value.func (Fn.func 47) #[] #[Value.pointer (some { block := B + 1 + 1 + 1, off := 0 })],
          Value.int IntKind.i64 pre.length, Value.int IntKind.u8 (byteA s pre.length).toNat,
          Value.int IntKind.i64 (val (List.take pre.length s.data.toList)),
          Value.int IntKind.u8 (byteA s pre.length).toNat,
          Value.int IntKind.u8 (((byteA s pre.length).toNat : Int).tmod 128),
          Value.int IntKind.i64 (IntKind.i64.wrap (((byteA s pre.length).toNat : Int).tmod 128)),
          Value.int IntKind.i64 pre.length, Value.int IntKind.i64 (IntKind.i64.wrap (7 * (pre.length : Int))),
          Value.int IntKind.i64 (digA s pre.length),
          Value.int IntKind.i64
            (bits BinOp.or IntKind.i64 (val (List.take pre.length s.data.toList)) (digA s pre.length)),
          undef, undef, undef, undef, undef, undef, undef, undef, undef, undef, undef, undef, undef, undef, undef,
          undef, undef, undef, undef, undef, undef, undef, undef, undef, undef], defers := [] } ∧
        W' = (W.setCell { block := B, off := 0 } (Value.int IntKind.i64 (bits BinOp.or IntKind.i64 (val (List.take pre.length s.data.toList)) (digA s pre.length)))).drew) ?_ ?_
    · gi_region
      all_goals exact ⟨rfl, rfl, rfl⟩
    · rintro e a' W' ⟨rfl, rfl, rfl⟩
      have hlt := HT.out
      have hs1 : pre.length < s.size := by unfold cntA at hlt; omega
      rw [or_dig s _ hs1 hj8]
      gi_wp2
      have g1 := ((h1.set (.int .i64 (val (s.data.toList.take (pre.length + 1))))).other (B' := B + 1) (by omega) (.int .i64 ((pre.length : Int) + 1))).other (B' := B + 1 + 1) (by omega) (.int .u8 (byteA s pre.length).toNat)
      have g2 := (((h2.other (B' := B) (by omega) (.int .i64 (val (s.data.toList.take (pre.length + 1)))))).set (.int .i64 ((pre.length : Int) + 1))).other (B' := B + 1 + 1) (by omega) (.int .u8 (byteA s pre.length).toNat)
      have g3 := (((h3.other (B' := B) (by omega) (.int .i64 (val (s.data.toList.take (pre.length + 1)))))).other (B' := B + 1) (by omega) (.int .i64 ((pre.length : Int) + 1))).set (.int .u8 (byteA s pre.length).toNat)
      have g4 := (((h4.other (B' := B) (by omega) (.int .i64 (val (s.data.toList.take (pre.length + 1)))))).other (B' := B + 1) (by omega) (.int .i64 ((pre.length : Int) + 1))).other (B' := B + 1 + 1) (by omega) (.int .u8 (byteA s pre.length).toNat)
      refine ⟨KeepsOthers.from ((((KeepsOthers.setCell _ _ _).trans (KeepsOthers.setCell _ _ _)).trans (KeepsOthers.setCell _ _ _)).trans (KeepsOthers.drew _)) _, Eq.trans g4 (Eq.symm h4), ?_⟩
      have el : (pre ++ [(pre.length, byteA s pre.length)]).length = pre.length + 1 := by simp
      dsimp only
      rw [el]
      exact ⟨g1, g4, g2, by unfold lastA; rw [if_neg (by simp)]; exact g3, (((hBw.setCell (p := ⟨B, 0, none⟩) (Nat.le_refl _) _).setCell (p := ⟨B + 1, 0, none⟩) (by simp) _).setCell (p := ⟨B + 1 + 1, 0, none⟩) (by simp; omega) _).drew⟩
  case done =>
    rintro D xs W hD hxs ⟨h1, h4, h2, h3, hBw⟩ hK
    rw [hxs] at h1 h2 h3
    have c1 := h1.cell
    have c2 := h2.cell
    have c3 := h3.cell
    clear h1 h2 h3 h4
    have hBf : Below B w (W.putObj D (.deferred none)) := by exact hBw.trans (belowK_b (w := W0) (by omega) W D _ _ hD hK rfl rfl)
    have hBg : Below B w (W.drew.putObj D (.deferred none)) := by exact hBw.drew.trans (belowK_b (w := W0) (by omega) W.drew D _ _ hD hK rfl rfl)
    have hV := val_take_lt s (cntA s) (by unfold cntA; omega)
    have hC : cntA s ≤ 8 := by unfold cntA; omega
    have hpw : 128 ^ cntA s ≤ 128 ^ 8 := Nat.pow_le_pow_right (by omega) hC
    have h88 : (128 : Nat) ^ 8 = 72057594037927936 := by decide
    have hV2 : (val (s.data.toList.take (cntA s)) : Int) ≤ 72057594037927936 := by omega
    have hsl : s.data.toList.length = s.size := by simp
    have hL2 : lastA s (cntA s) < 256 := by unfold lastA; split; omega; exact (byteA s _).toNat_lt
    clear hV hpw h88
    have hK' : W.drew.heap[D]? = some (.deferred (some [])) := hK
    rcases take_last s with ⟨t1, t2, t3, t4⟩ | ⟨t1, t2, t3⟩
    · have T1 := Lib.hid t1; clear t1
      have T2 := Lib.hid t2; clear t2
      have T3 := Lib.hid t3; clear t3
      have HS := Lib.hid hsl; clear hsl
      by_cases z : lastA s (cntA s) = 0
      · by_cases o : 1 < cntA s
        · have hspec : Hid (takeR s.data.toList = (0, 0, 11)) := by
            have := T1.out; have := T2.out; have := T3.out; have := HS.out
            show takeR s.data.toList = (0, 0, 11)
            unfold takeR
            rw [if_pos (by omega), if_pos (.inr ⟨by omega, by omega⟩)]
          have z' : ((lastA s (cntA s) : Int) == 0) = true := by simp [z]
          have Z := Lib.hid z; clear z
          gi_wp2
          refine ⟨by simp, .inl ⟨_, _, rfl, run_takeDeferred hK, ?_⟩⟩
          exact ⟨_, results_tmp3 rfl _ _ _, by rw [hspec.out]; rfl, (by first | exact hBf | (rw [hB]; exact hBf))⟩
        · have z' : ((lastA s (cntA s) : Int) == 0) = true := by simp [z]
          have Z := Lib.hid z; clear z
          by_cases m : 9007199254740992 < (val (s.data.toList.take (cntA s)) : Int)
          · have hspec : Hid (takeR s.data.toList = (0, 0, 11)) := by
              have h1 := T1.out; have h2 := T2.out; have h3 := T3.out; have h4 := HS.out
              show takeR s.data.toList = (0, 0, 11)
              unfold takeR
              rw [if_pos (by omega), if_pos (.inl (by rw [← h2]; omega))]
            gi_wp2
            refine ⟨by simp, .inl ⟨_, _, rfl, run_takeDeferred hK, ?_⟩⟩
            exact ⟨_, results_tmp3 rfl _ _ _, by rw [hspec.out]; rfl, (by first | exact hBf | (rw [hB]; exact hBf))⟩
          · have hspec : Hid (takeR s.data.toList = (val (s.data.toList.take (cntA s)), cntA s, 0)) := by
              have h1 := T1.out; have h2 := T2.out; have h3 := T3.out; have h4 := HS.out
              show takeR s.data.toList = _
              unfold takeR
              rw [if_pos (by omega), if_neg (by rw [← h2]; omega), ← h2]
            gi_wp2
            gi_region
            all_goals
              gi_wp2
              refine ⟨by simp, .inl ⟨_, _, rfl, run_takeDeferred hK', ?_⟩⟩
              exact ⟨_, results_tmp3 rfl _ _ _, by rw [hspec.out]; rfl, (by first | exact hBg | (rw [hB]; exact hBg))⟩
      · have z' : ((lastA s (cntA s) : Int) == 0) = false := by simp; omega
        have Z := Lib.hid z; clear z
        by_cases m : 9007199254740992 < (val (s.data.toList.take (cntA s)) : Int)
        · have hspec : Hid (takeR s.data.toList = (0, 0, 11)) := by
            have h1 := T1.out; have h2 := T2.out; have h3 := T3.out; have h4 := HS.out
            show takeR s.data.toList = (0, 0, 11)
            unfold takeR
            rw [if_pos (by omega), if_pos (.inl (by rw [← h2]; omega))]
          gi_wp2
          refine ⟨by simp, .inl ⟨_, _, rfl, run_takeDeferred hK, ?_⟩⟩
          exact ⟨_, results_tmp3 rfl _ _ _, by rw [hspec.out]; rfl, (by first | exact hBf | (rw [hB]; exact hBf))⟩
        · have hspec : Hid (takeR s.data.toList = (val (s.data.toList.take (cntA s)), cntA s, 0)) := by
            have h1 := T1.out; have h2 := T2.out; have h3 := T3.out; have h4 := HS.out; have h5 := Z.out
            show takeR s.data.toList = _
            unfold takeR
            rw [if_pos (by omega), if_neg (by rw [← h2]; omega), ← h2]
          gi_wp2
          gi_region
          all_goals
            gi_wp2
            refine ⟨by simp, .inl ⟨_, _, rfl, run_takeDeferred hK', ?_⟩⟩
            exact ⟨_, results_tmp3 rfl _ _ _, by rw [hspec.out]; rfl, (by first | exact hBg | (rw [hB]; exact hBg))⟩
    · have T1 := Lib.hid t1; clear t1
      have T2 := Lib.hid t2; clear t2
      have HS := Lib.hid hsl; clear hsl
      by_cases o : s.size < 8
      · have hspec : Hid (takeR s.data.toList = (0, 0, 10)) := by
          have := T1.out; have := T2.out; have := HS.out
          show takeR s.data.toList = (0, 0, 10)
          unfold takeR
          rw [if_neg (by omega), if_neg (by omega)]
        have ho : cntA s < 8 := by have := T2.out; omega
        gi_wp2
        refine ⟨by simp, .inl ⟨_, _, rfl, run_takeDeferred hK, ?_⟩⟩
        exact ⟨_, results_tmp3 rfl _ _ _, by rw [hspec.out]; rfl, (by first | exact hBf | (rw [hB]; exact hBf))⟩
      · have hspec : Hid (takeR s.data.toList = (0, 0, 11)) := by
          have := T1.out; have := T2.out; have := HS.out
          show takeR s.data.toList = (0, 0, 11)
          unfold takeR
          rw [if_neg (by omega), if_pos (by omega)]
        have ho : 8 ≤ cntA s := by have := T2.out; omega
        gi_wp2
        refine ⟨by simp, .inl ⟨_, _, rfl, run_takeDeferred hK, ?_⟩⟩
        exact ⟨_, results_tmp3 rfl _ _ _, by rw [hspec.out]; rfl, (by first | exact hBf | (rw [hB]; exact hBf))⟩
  case stop =>
    rintro D c pre W _ _ h _
    exact h.elim
end Go.Proofs.Ytjdpihppniibjaa
