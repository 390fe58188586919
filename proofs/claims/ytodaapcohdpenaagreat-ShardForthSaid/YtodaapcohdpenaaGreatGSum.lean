-- eB
import Derived.Test.YtodaapcohdpenaaGreatGSq
import Derived.Test.YtodaapcohdpenaaGreatGVar
import Derived.Test.YtodaapcohdpenaaGreatGMath
import Derived.Laws.BitsAllLaws
import Derived.Test.YtodaapcohdpenaaGreatGFld
namespace Go.Proofs.YtodaapcohdpenaaGreat
open Go.RowKit
set_option maxHeartbeats 1000000
set_option maxRecDepth 100000
theorem auE (m:Nat) (h:m<4294967296):bits .and .u32 (m:Int) 1=(m:Int) % 2:=by
 have:=u32_and_nat m 1 h (by decide);rw[Nat.and_one_is_mod]at this;simpa using this
theorem ab2 (a b:Nat) (ha:a<4294967296) (hb:b<4294967296):bits .xor .u32 (a:Int) (b:Int)=((a ^^^ b:Nat):Int):=u32_xor_nat a b ha hb
theorem anS {k m:Nat} (h:m % 2=1):Ii (k+1) m=Ii k ((m / 2) ^^^ 3988292384):=by show Ii k (xH m)=_;unfold xH;rw[if_pos h]
theorem anR {k m:Nat} (h:¬m % 2=1):Ii (k+1) m=Ii k (m / 2):=by show Ii k (xH m)=_;unfold xH;rw[if_neg h]
theorem anP (n:Nat) (s:ByteArray) (k:Nat) (h:k<s.size):Ej n (s.data.toList.take (k+1))=MS (Ej n (s.data.toList.take k) ^^^ s[k].toNat):=by
 rw[List.take_succ_eq_append_getElem (by simpa using h),anN];rfl
theorem aqA (n:Nat) (hn:n<4294967296) (w:World):
  Calls Tryz.prog 186 #[.int .u32 n] w fun e w'=>e= .returned (.int .u32 (MS n))∧w=w':=by
 go_enter Tryz.func186,Tryz.ntmps186;go_wp2
 go_loop [0,4] (fun s i=>∃(k m:Nat),k≤8∧i= .int .i64 (8-k:Nat)∧s= .int .u32 m∧m<4294967296∧Ii k m=MS n) (fun _ i=>8-(intOf i).toNat)
 case atStart=>exact⟨8,n,by omega,rfl,rfl,hn,rfl⟩
 case round=>
  obtain⟨k,m,hk,rfl,rfl,hm,hc⟩:=hrel;have hl:=auE m hm
  by_cases hk0:k=0
  ·subst hk0;go_wp2;go_ret;exact⟨Jk (by rw[←hc];rfl),rfl⟩
  ·obtain⟨j,rfl⟩:∃j,k=j+1:=⟨k-1,by omega⟩
   by_cases ho:m % 2=1
   ·have hd:=anS (k:=j) ho;have hp:=ab2 (m / 2) 3988292384 (by omega) (by decide);have hx:m / 2 ^^^ 3988292384<4294967296:=ab_ (by omega) (by decide);have HX:=ah hx;clear hx;have HP:=ah hp;clear hp;have HC:=ah hc;clear hc;have HD:=ah hd;clear hd;go_wp2
    go_round
    case rel=>exact⟨j,m / 2 ^^^ 3988292384,by omega,by congr 1;omega,by rw[←HP.out];rfl,HX.out,by rw[←HD.out];exact HC.out⟩
    case measure=>simp[intOf];omega
   ·have hd:=anR (k:=j) ho;have HC:=ah hc;clear hc;have HD:=ah hd;clear hd;go_wp2
    go_round
    case rel=>exact⟨j,m / 2,by omega,by congr 1;omega,rfl,by omega,by rw[←HD.out];exact HC.out⟩
    case measure=>simp[intOf];omega
theorem aqH {m q:Nat} (h:m<4294967296) (hq:4294967295-m=q):bits .xor .u32 IntKind.u32.max (m:Int)=(q:Int):=by
 subst hq;have h1:=ab2 4294967295 m (by decide) h;have h2:(4294967295:Nat) ^^^ m=4294967295-m:=by
  have e:(4294967295:Nat) ^^^ m=(m ^^^ (4294967295-m)) ^^^ m:=by rw[au7 h]
  rw[e,Nat.xor_comm m,Nat.xor_assoc,Nat.xor_self,Nat.xor_zero]
 rw[h2]at h1;exact h1
def pY (w:World) (b:Nat) (x0 x1 x2 x3:Int):Prop:=w.heap[b]? =some (.cells #[.int .u8 x0,.int .u8 x1,.int .u8 x2,.int .u8 x3] 193 (0,0))
theorem pY.cells {w:World} {b:Nat} {x0 x1 x2 x3:Int} (h:pY w b x0 x1 x2 x3):w.cell? ⟨b,0,none⟩=some (.int .u8 x0)∧w.cell? ⟨b,1,none⟩=some (.int .u8 x1)∧w.cell? ⟨b,2,none⟩=some (.int .u8 x2)∧w.cell? ⟨b,3,none⟩=some (.int .u8 x3):=
 ⟨bJ h 0,bJ h 1,bJ h 2,bJ h 3⟩
theorem pY.frozen {w:World} {b:Nat} {x0 x1 x2 x3:Int} (h:pY w b x0 x1 x2 x3) (j:Nat):w.frozen? ⟨b,j,none⟩=false:=rF h j
def b4 (n k j:Nat):Int:=if j<k then((n / 256 ^ j % 256:Nat):Int)else 0
theorem pY.arC {w:World} {b n:Nat} (h:pY w b (b4 n 0 0) (b4 n 0 1) (b4 n 0 2) (b4 n 0 3)):pY (w.setCell ⟨b,0,none⟩ (.int .u8 ((n:Int) % 256))) b (b4 n 1 0) (b4 n 1 1) (b4 n 1 2) (b4 n 1 3):=by
 have e:b4 n 1 0=(n:Int) % 256:=by unfold b4;rw[if_pos (by omega)];simp
 have h2:pY (w.setCell ⟨b,0,none⟩ (.int .u8 ((n:Int) % 256))) b ((n:Int) % 256) (b4 n 0 1) (b4 n 0 2) (b4 n 0 3):=heap_setCell_same w b 0 _ _ _ h;rw[e];exact h2
theorem pY.arD {w:World} {b n:Nat} (h:pY w b (b4 n 1 0) (b4 n 1 1) (b4 n 1 2) (b4 n 1 3)):pY (w.setCell ⟨b,1,none⟩ (.int .u8 ((n:Int) / 256 % 256))) b (b4 n 2 0) (b4 n 2 1) (b4 n 2 2) (b4 n 2 3):=by
 have e:b4 n 2 1=(n:Int) / 256 % 256:=by unfold b4;rw[if_pos (by omega)];simp
 have h2:pY (w.setCell ⟨b,1,none⟩ (.int .u8 ((n:Int) / 256 % 256))) b (b4 n 1 0) ((n:Int) / 256 % 256) (b4 n 1 2) (b4 n 1 3):=heap_setCell_same w b 1 _ _ _ h;rw[e];exact h2
theorem pY.arF {w:World} {b n:Nat} (h:pY w b (b4 n 2 0) (b4 n 2 1) (b4 n 2 2) (b4 n 2 3)):pY (w.setCell ⟨b,2,none⟩ (.int .u8 ((n:Int) / 65536 % 256))) b (b4 n 3 0) (b4 n 3 1) (b4 n 3 2) (b4 n 3 3):=by
 have e:b4 n 3 2=(n:Int) / 65536 % 256:=by unfold b4;rw[if_pos (by omega)];simp
 have h2:pY (w.setCell ⟨b,2,none⟩ (.int .u8 ((n:Int) / 65536 % 256))) b (b4 n 2 0) (b4 n 2 1) ((n:Int) / 65536 % 256) (b4 n 2 3):=heap_setCell_same w b 2 _ _ _ h;rw[e];exact h2
theorem pY.arG {w:World} {b n:Nat} (hn:n<4294967296) (h:pY w b (b4 n 3 0) (b4 n 3 1) (b4 n 3 2) (b4 n 3 3)):pY (w.setCell ⟨b,3,none⟩ (.int .u8 ((n:Int) / 16777216))) b (b4 n 4 0) (b4 n 4 1) (b4 n 4 2) (b4 n 4 3):=by
 have e:b4 n 4 3=(n:Int) / 16777216:=by unfold b4;rw[if_pos (by omega)];show((n / 16777216 % 256:Nat):Int)=_;rw[Nat.mod_eq_of_lt (by omega)];rfl
 have h2:pY (w.setCell ⟨b,3,none⟩ (.int .u8 ((n:Int) / 16777216))) b (b4 n 3 0) (b4 n 3 1) (b4 n 3 2) ((n:Int) / 16777216):=heap_setCell_same w b 3 _ _ _ h;rw[e];exact h2
theorem anI {W:World} {b n:Nat} (h:pY W b (b4 n 4 0) (b4 n 4 1) (b4 n 4 2) (b4 n 4 3)):
  (convert 126 9 (.slice (some ⟨b,0,none⟩) 4 4)).run Tryz.prog W= .ok (.string (bs (I_ n))) W:=by
 obtain⟨c0,c1,c2,c3⟩:=h.cells;refine run_convert_bytes_back W _ _ 5 ⟨b,0,none⟩ 4 (I_ n) Tryz.underlying126 Tryz.underlying5 Tryz.underlying9 (fun j hj=>?_);have hj4:j<4:=hj;rcases(show j=0∨j=1∨j=2∨j=3 by omega)with rfl|rfl|rfl|rfl
 ·refine(show W.cell? ⟨b,0,none⟩=_ from c0).trans ?_;show _=some (Value.int .u8 (((n % 256).toUInt8.toNat:Nat):Int));rw[Wq];simp[b4]
 ·refine(show W.cell? ⟨b,1,none⟩=_ from c1).trans ?_;show _=some (Value.int .u8 (((n / 256 % 256).toUInt8.toNat:Nat):Int));rw[Wq];simp[b4]
 ·refine(show W.cell? ⟨b,2,none⟩=_ from c2).trans ?_;show _=some (Value.int .u8 (((n / 65536 % 256).toUInt8.toNat:Nat):Int));rw[Wq];simp[b4]
 ·refine(show W.cell? ⟨b,3,none⟩=_ from c3).trans ?_;show _=some (Value.int .u8 (((n / 16777216 % 256).toUInt8.toNat:Nat):Int));rw[Wq];simp[b4]
theorem amM (n:Int) (h:n<0∨4294967295<n) (w:World):
  Calls Tryz.prog 148 #[.int .i64 n] w fun e w'=>e= .returned (.string (bs []))∧w=w':=by
 rcases h with h|h
 ·go_enter Tryz.func148,Tryz.ntmps148;go_wp2;go_ret;exact⟨rfl,rfl⟩
 ·have h':0≤n:=by omega
  go_enter Tryz.func148,Tryz.ntmps148;go_wp2;go_ret;exact⟨rfl,rfl⟩
theorem amN (n:Nat) (hn:n<4294967296) (w:World):
  Calls Tryz.prog 148 #[.int .i64 n] w fun e w'=>e= .returned (.string (bs (I_ n)))∧Below w.heap.size w w':=by
 go_enter Tryz.func148,Tryz.ntmps148;go_wp2;go_loopw [11] (fun i wr=>∃k:Nat,k≤4∧i= .int .i64 k∧pY wr w.heap.size (b4 n k 0) (b4 n k 1) (b4 n k 2) (b4 n k 3)∧Below w.heap.size w wr) (fun i _=>4-(intOf i).toNat)
 case atStart=>exact⟨0,by omega,rfl,World.alloc_heap_new w _,(Below.refl _ _).alloc (Nat.le_refl _) _⟩
 case round=>
  obtain⟨k,hk,rfl,hb,hB⟩:=hrel;obtain⟨c0,c1,c2,c3⟩:=hb.cells;have f0:=hb.frozen 0;have f1:=hb.frozen 1;have f2:=hb.frozen 2;have f3:=hb.frozen 3;rcases(show k=4∨k=0∨k=1∨k=2∨k=3 by omega)with rfl|rfl|rfl|rfl|rfl
  ·have hcv:=anI hb;go_wp2_with fail;go_ret;exact⟨rfl,hB⟩
  ·go_wp2_with fail;go_roundw
   case rel=>exact⟨1,by omega,rfl,hb.arC,hB.setCell (p:=⟨w.heap.size,0,none⟩) (Nat.le_refl _) _⟩
   case measure=>simp[intOf]
  ·go_wp2_with fail;go_roundw
   case rel=>exact⟨2,by omega,rfl,hb.arD,hB.setCell (p:=⟨w.heap.size,1,none⟩) (Nat.le_refl _) _⟩
   case measure=>simp[intOf]
  ·go_wp2_with fail;go_roundw
   case rel=>exact⟨3,by omega,rfl,hb.arF,hB.setCell (p:=⟨w.heap.size,2,none⟩) (Nat.le_refl _) _⟩
   case measure=>simp[intOf]
  ·go_wp2_with fail;go_roundw
   case rel=>exact⟨4,by omega,rfl,hb.arG hn,hB.setCell (p:=⟨w.heap.size,3,none⟩) (Nat.le_refl _) _⟩
   case measure=>simp[intOf]
def MH (n:Int):List UInt8:=if 0≤n∧n≤4294967295 then I_ n.toNat else[]
theorem amL (n:Int) (w:World):
  Calls Tryz.prog 148 #[.int .i64 n] w fun e w'=>e= .returned (.string (bs (MH n)))∧Below w.heap.size w w':=by
 by_cases h:0≤n∧n≤4294967295
 ·have:=amN n.toNat (by omega) w;rw[Int.toNat_of_nonneg h.1]at this;unfold MH;rw[if_pos h];exact this
 ·unfold MH;rw[if_neg h];refine(amM n (by omega) w).mono ?_;rintro e w' ⟨rfl,rfl⟩;exact⟨rfl,Below.refl _ _⟩
end Go.Proofs.YtodaapcohdpenaaGreat
