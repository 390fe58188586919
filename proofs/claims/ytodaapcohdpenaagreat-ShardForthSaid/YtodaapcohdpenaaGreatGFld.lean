-- eB
import Derived.Test.YtodaapcohdpenaaGreatGVar
import Derived.Test.YtodaapcohdpenaaGreatGMath
import Derived.Deep.QuietTactic
import Derived.BigQuiet
import Derived.Maps.AppendAt
import Derived.OwnWalk
import Derived.WalkMore
import Derived.IntWalk
import Derived.Deep.Slices
import Derived.Deep.Fields
import Derived.ChangeSame
import Derived.SliceStrings
import Derived.OpenShut
import Derived.Laws.StructEq
import Derived.Laws.Strings2
set_option linter.unusedVariables false
set_option maxHeartbeats 4000000
set_option maxRecDepth 100000
namespace Go.Proofs.YtodaapcohdpenaaGreat
open Go.RowKit
def acn (w:World) (b off:Nat) (fs:List aT):Prop:=
 ∀i,i<fs.length→w.cell? ⟨b,off+i*2,none⟩=some (.int .i64 (tg fs i))∧w.cell? ⟨b,off+i*2+1,none⟩=some (.string (dt fs i))
def kP (fs:List aT):Prop:=∀f∈fs,(Lit.int .i64 f.1).wf=true∧f.2.size≤9223372036854775807
def dh (w:World) (A:Option Addr) (n:Nat) (fs:List aT):Prop:=
 n=fs.length∧n≤maxLen∧kP fs∧(0<n→∃b off,A=some ⟨b,off,none⟩∧b<w.heap.size∧acn w b off fs)
theorem bJ {w:World} {b:Nat} {cs:Array Value} {T:TypeId} {fr:Nat×Nat} (hb:w.heap[b]? =some (.cells cs T fr)) (j:Nat):w.cell? ⟨b,j,none⟩=cs[j]? :=by simp[World.cell?,hb]
theorem rF {w:World} {b:Nat} {cs:Array Value} {T:TypeId} (hb:w.heap[b]? =some (.cells cs T (0,0))) (j:Nat):w.frozen? ⟨b,j,none⟩=false:=by simp[World.frozen?,hb]
theorem fF {w:World} {k:Nat} {o:Obj} (h:w.heap[k]? =some o):k<w.heap.size:=(Array.getElem?_eq_some_iff.1 h).1
theorem jL {B:Nat} {a w:World} (h:Below B a w) (n:Nat):Below B a (w.drewN n):=⟨h.os,h.tape,h.output,h.size,h.block⟩
theorem dh.below {w w':World} {A:Option Addr} {n:Nat} {fs:List aT} (h:dh w A n fs) (hb:Below w.heap.size w w'):dh w' A n fs:=by
 obtain⟨h1,h2,h3,h4⟩:=h;refine⟨h1,h2,h3,fun hn=>?_⟩;obtain⟨b,off,rfl,hlt,hc⟩:=h4 hn;refine⟨b,off,rfl,Nat.lt_of_lt_of_le hlt hb.size,fun i hi=>?_⟩;obtain⟨c1,c2⟩:=hc i hi;exact⟨(hb.cell (p:=⟨b,off+i*2,none⟩) hlt).trans c1,(hb.cell (p:=⟨b,off+i*2+1,none⟩) hlt).trans c2⟩
theorem abY {fs:List aT} (h:kP fs) {i:Nat} (hi:i<fs.length):(Lit.int .i64 (tg fs i)).wf=true:=by
 unfold tg;rw[List.getD_eq_getElem?_getD,List.getElem?_eq_getElem hi];exact(h _ (List.getElem_mem _)).1
theorem Qr {fs:List aT} (h:kP fs) {i:Nat} (hi:i<fs.length):(dt fs i).size≤9223372036854775807:=by
 unfold dt;rw[List.getD_eq_getElem?_getD,List.getElem?_eq_getElem hi];exact(h _ (List.getElem_mem _)).2
end Go.Proofs.YtodaapcohdpenaaGreat
namespace Go.Proofs.YtodaapcohdpenaaGreat
open Go.RowKit
theorem auX {z:Int} (h:(Lit.int .i64 z).wf=true): -9223372036854775808≤z∧z≤9223372036854775807:=by
 rw[show(Lit.int .i64 z).wf=(decide (-9223372036854775808≤z)&&decide (z≤9223372036854775807))from rfl]at h;simpa using h
theorem uE {z:Int} (h1: -9223372036854775808≤z) (h2:z≤9223372036854775807):(Lit.int .i64 z).wf=true:=by
 rw[show(Lit.int .i64 z).wf=(decide (-9223372036854775808≤z)&&decide (z≤9223372036854775807))from rfl];simp;omega
def ZL (l:List Int):List Value:=l.map (Value.int .i64 ·)
theorem am4 (l:List Int) (i:Nat) (h:i<l.length):(ZL l)[i]? =some (.int .i64 (l.getD i 0)):=by
 unfold ZL;rw[List.getElem?_map,List.getElem?_eq_getElem h,List.getD_eq_getElem?_getD,List.getElem?_eq_getElem h];rfl
theorem Vv {w w':World} {base size n:Nat} {e:TypeId} {v:Value} {xs:List Value} (h:w.ownsRow base e size v n xs) (hb:Below w.heap.size w w'):w'.ownsRow base e size v n xs:=
 h.kept (row:=none) ⟨hb.os,hb.tape,hb.output,hb.size,fun i hi _=>hb.block i hi⟩ (by cases v.ownBlock with
  |none=>exact .inl rfl
  |some x=>exact .inr (fun e=>by cases e))
def Fh (B:Nat) (A:Option Addr) (n:Nat):Prop:=0<n→∀b off,A=some ⟨b,off,none⟩→B≤b
theorem Fh.mono {B C:Nat} {A:Option Addr} {n:Nat} (h:Fh B A n) (hc:C≤B):Fh C A n:=fun hn b off e=>Nat.le_trans hc (h hn b off e)
theorem VT {w:World} {P:Program} (base:Nat) (t ty e:TypeId) (i:TypeInfo) (size:Nat) (ht:P.underlying t=some (.slice e)) (hi:P.info? e=some i)
  (v:Value) (n:Nat) (xs:List Value) (hown:w.ownsRow base e size v n xs) (A:Option Addr) (c:Nat):
  (Builtin.append_ #[t,t] ty #[v,.slice A 0 c]).run P w= .ok v w:=by
 rcases hown.2 with⟨rfl,rfl⟩|⟨g,cap,cur,rfl,_,_,hnc,_⟩
 ·cases A<;>simp[Builtin.append_,run_underlying ht,sizeOf,typeInfo,hi,Builtin.lenOf,Builtin.firstCells,loadCells,loadCellsFrom]
 ·cases A<;>simp[Builtin.append_,run_underlying ht,sizeOf,typeInfo,hi,Builtin.lenOf,Builtin.firstCells,hnc,storeCells,loadCells,loadCellsFrom]
theorem cell_one_new (w:World) (x:Value) (t:TypeId):(w.alloc (.cells #[x] t)).cell? ⟨w.heap.size,0,none⟩=some x:=bJ (World.alloc_heap_new w _) 0
def aj (W:World) (b:Nat) (o:Obj):Prop:=W.heap[b]? =some o
theorem aj.below {w w':World} {b:Nat} {o:Obj} (h:aj w b o) (hb:Below w.heap.size w w'):aj w' b o:=Eq.trans (hb.block b (fF h)) h
theorem aj.far {W:World} {b g:Nat} {o:Obj} (h:aj W b o) (hne:b≠g) (j:Nat) (u:Value):aj (W.setCell ⟨g,j,none⟩ u) b o:=Eq.trans (heap_setCell_other W ⟨g,j,none⟩ b u hne) h
theorem aj.kept {w w':World} {b:Nat} {o:Obj} {row:Option Nat} (h:aj w b o) (hg:w.grownBy w' row) (hne:some b≠row):aj w' b o:=Eq.trans (hg.block b (fF h) hne) h
theorem aj.drew {W:World} {b:Nat} {o:Obj} (h:aj W b o):aj W.drew b o:=h
theorem aj.new (W:World) (o:Obj):aj (W.alloc o) W.heap.size o:=World.alloc_heap_new W _
theorem aj.lt {W:World} {b:Nat} {o:Obj} (h:aj W b o):b<W.heap.size:=fF h
theorem aj.cell {W:World} {b:Nat} {cs:Array Value} {T:TypeId} {fr:Nat×Nat} (h:aj W b (.cells cs T fr)) (j:Nat):W.cell? ⟨b,j,none⟩=cs[j]? :=bJ h j
theorem aj.frozen {W:World} {b:Nat} {cs:Array Value} {T:TypeId} (h:aj W b (.cells cs T (0,0))) (j:Nat):W.frozen? ⟨b,j,none⟩=false:=rF h j
theorem aj.set {W:World} {b:Nat} {cs:Array Value} {T:TypeId} (h:aj W b (.cells cs T (0,0))) (j:Nat) (u:Value) (ds:Array Value) (hd:ds=cs.setIfInBounds j u):aj (W.setCell ⟨b,j,none⟩ u) b (.cells ds T (0,0)):=by
 subst hd;exact heap_setCell_same _ b j _ _ _ h
end Go.Proofs.YtodaapcohdpenaaGreat
namespace Go.Proofs.YtodaapcohdpenaaGreat
open Go.RowKit Go.ChangeShapes Go.WideShapes
theorem qQ {w:World} {x:Addr} {i:Nat} {v:Value} (h:w.cell? (x.add i)=some v) (hs:x.spot=none):w.cell? ⟨x.block,x.off+i,none⟩=some v:=by
 obtain⟨b,off,spot⟩:=x;simp only at hs;subst hs
 by_cases h0:i=0
 ·subst h0;simpa[Addr.add]using h
 ·simpa[Addr.add,h0]using h
def zI (w:World) (A:Option Addr) (n kk:Nat) (f:Nat→Nat→Int):Prop:=
 n≤9223372036854775807∧(0<n→∃b off,A=some ⟨b,off,none⟩∧b<w.heap.size∧∀i j,i<n→j<kk→w.cell? ⟨b,off+i*kk+j,none⟩=some (.int .i64 (f i j))∧(Lit.int .i64 (f i j)).wf=true)
theorem zI.below {w w':World} {A:Option Addr} {n kk:Nat} {f:Nat→Nat→Int} (h:zI w A n kk f) (hb:Below w.heap.size w w'):zI w' A n kk f:=by
 refine⟨h.1,fun hn=>?_⟩;obtain⟨b,off,rfl,hlt,hc⟩:=h.2 hn;exact⟨b,off,rfl,Nat.lt_of_lt_of_le hlt hb.size,fun i j hi hj=>⟨(hb.cell (p:=⟨b,off+i*kk+j,none⟩) hlt).trans (hc i j hi hj).1,(hc i j hi hj).2⟩⟩
section
variable {H:Type} {enc:TypeId×Value→H} {P:Program} {w:World}
theorem Jh {t e i64:TypeId} {kk:Nat} {v:Value} {d:DataW H} {ps:List MemPlace} {r:Reach} {b0:Nat} (ht:P.underlying t=some (.slice e)) (he:P.underlying e=some (.array kk i64)) (hi:P.underlying i64=some (.int .i64)) (hC:P.cellsOf e=kk) (h1:P.cellsOf i64=1) (hk:0<kk)
  (hv:Value.okWide P w r b0 t v) (h:DataW.Trod enc P w 0 (fun _=>true) true t v d ps):∃A n cap f,v= .slice A n cap∧n≤cap∧zI w A n kk f:=by
 obtain⟨A,n,cap,rfl⟩:=okWide_slice ht hv;obtain⟨fuel,hf⟩:=h;rcases Go.Deep.open_slice ht hf with⟨hcs,_⟩|⟨x,l,c,m,q,D,Pl,hcs,_,hl,hm,hmm,_,hrow⟩
 ·simp[Value.cells]at hcs;obtain⟨rfl,rfl,rfl⟩:=hcs;exact⟨none,0,0,fun _ _=>0,rfl,Nat.le_refl _,by omega,fun h=>by omega⟩
 ·simp[Value.cells]at hcs;obtain⟨rfl,rfl,rfl⟩:=hcs;simp at hmm;unfold maxLen at hm;have key:∀i j,i<n→j<kk→∃z,w.cell? (x.add (i*kk+j))=some (.int .i64 z)∧(Lit.int .i64 z).wf=true:=by
   intro i j hi' hj;obtain⟨cs',hc,ht'⟩:=hrow i (by omega);rw[hC]at hc;obtain⟨_,hcl,hat⟩:=World.cells?_some hc;obtain⟨xs,m',_,_,hlen,hxl,hel⟩:=DataW.trod_array he ht';have h2:=hel j hj;rw[h1,Nat.mul_one]at h2;have hlt:j<cs'.length:=by omega
   have e1:(cs'.drop j).take 1=[cs'[j]]:=by rw[List.drop_eq_getElem_cons hlt];rfl
   rw[e1,List.getElem?_eq_getElem (by omega)]at h2;obtain⟨z,hz,_,hwf⟩:=DataW.trod_int hi h2;refine⟨z,?_,hwf⟩;have h3:=hat j hj;rw[Go.Deep.add_add]at h3;rw[h3,List.getElem?_eq_getElem hlt];simpa using hz
  refine⟨_,n,cap,fun i j=>intOf ((w.cell? (x.add (i*kk+j))).getD undef),rfl,hl,by omega,fun hn=>?_⟩;obtain⟨z0,hz0,_⟩:=key 0 0 hn hk;have hs:x.spot=none:=World.cell?_spot (a:=x) (by simpa[Addr.add]using hz0);refine⟨x.block,x.off,by cases x;simp_all,lt_of_cell (a:=⟨x.block,_,none⟩) (qQ hz0 hs),fun i j hi' hj=>?_⟩;obtain⟨z,hz,hwf⟩:=key i j hi' hj;have hzf:=qQ hz hs;rw[←Nat.add_assoc]at hzf;simp only[hz];exact⟨hzf,hwf⟩
end
end Go.Proofs.YtodaapcohdpenaaGreat
namespace Go.Proofs.YtodaapcohdpenaaGreat
open Go.RowKit Go.ChangeShapes Go.WideShapes
set_option maxRecDepth 100000
section
variable {H:Type} {enc:TypeId×Value→H} {w:World}
theorem abd {cs:List Value} {j:Nat} (h:j<cs.length):(cs.drop j).take 1=[cs[j]]:=by rw[List.drop_eq_getElem_cons h];rfl
theorem am2:Tryz.prog.cellsOf 65=2:=by kernel_rfl
theorem aoJ:∃f0 f1,Tryz.prog.underlying 65=some (.struct #[f0,f1])∧f0.offset=0∧f0.type=3∧f1.offset=1∧f1.type=9:=⟨_,_,Tryz.underlying65,rfl,rfl,rfl,rfl⟩
theorem xG:Tryz.prog.cellsOf 3=1:=by kernel_rfl
theorem Ef:Tryz.prog.cellsOf 9=1:=by kernel_rfl
end
end Go.Proofs.YtodaapcohdpenaaGreat
namespace Go.Proofs.YtodaapcohdpenaaGreat
open Go.RowKit
theorem afi (A:Option Addr) (n cap:Nat) (fs:List aT) (tag:Int) (w:World) (h:dh w A n fs):
  Calls Tryz.prog 205 #[.slice A n cap,.int .i64 tag] w fun e w'=>e= .returned (.tuple #[.string (oN fs tag).1,.bool (oN fs tag).2])∧Below w.heap.size w w':=by
 obtain⟨hn,hm,hwf,hc⟩:=h;unfold maxLen at hm;have HN:=Lib.hid hn;clear hn;have HC:=Lib.hid hc;clear hc;go_enter Tryz.func205,Tryz.ntmps205;go_wp2_with fail;go_loopw [10] (fun i wr=>∃k:Nat,k≤n∧i= .int .i64 k∧Hid (∀j,j<k→tg fs j≠tag)∧Below w.heap.size w wr) (fun i _=>n-(intOf i).toNat)
 case atStart=>exact⟨0,by omega,rfl,fun j hj=>by omega,Below.refl _ _⟩
 case round=>
  obtain⟨k,hk,rfl,hno,hbw⟩:=hrel
  by_cases hlt:k<n
  ·obtain⟨b,off,hA,hb,hat⟩:=HC.out (by omega);subst hA;obtain⟨c1,c2⟩:wr.cell? ⟨b,off+k*2,none⟩=some (.int .i64 (tg fs k))∧wr.cell? ⟨b,off+k*2+1,none⟩=some (.string (dt fs k)):=by
    have h:=hat k (by have:=HN.out;omega);exact⟨(hbw.cell (p:=⟨b,off+k*2,none⟩) hb).trans h.1,(hbw.cell (p:=⟨b,off+k*2+1,none⟩) hb).trans h.2⟩
   clear hat
   by_cases he:tg fs k=tag
   ·have he':(tg fs k==tag)=true:=by simp[he]
    have HF:Hid (oN fs tag=(dt fs k,true)):=aoO (by have:=HN.out;omega) hno.out he;clear he;go_wp2_with fail;go_ret2;exact⟨by rw[HF.out];rfl,hbw.alloc hbw.size _⟩
   ·have he':(tg fs k==tag)=false:=by simp[he]
    have HE:Hid (tg fs k≠tag):=he;clear he;go_wp2_with fail;go_roundw
    case rel=>exact⟨k+1,by omega,by go_num,fun j hj=>by rcases Nat.lt_or_ge j k with h|h;exact hno.out j h;rw[show j=k by omega];exact HE.out,hbw.alloc hbw.size _⟩
    case measure=>simp[intOf];omega
  ·have hkn:n=k:=by omega
   subst hkn;have HF:Hid (oN fs tag=(ByteArray.empty,false)):=afh (by have:=HN.out;rw[←this];exact hno.out);go_wp2_with fail;go_ret2;exact⟨by rw[HF.out];rfl,hbw⟩
end Go.Proofs.YtodaapcohdpenaaGreat
namespace Go.Proofs.YtodaapcohdpenaaGreat
open Go.RowKit
theorem Jc (t a:Int) (w:World):
  Calls Tryz.prog 190 #[.int .i64 t,.int .i64 a] w fun e w'=>e= .returned (.bool (xS t a))∧w=w':=by
 by_cases h1:a<t
 ·by_cases h2:t≤1000000
  ·have HM:Hid (xS t a=true):=agG h1 h2;go_enter Tryz.func190,Tryz.ntmps190;go_wp2;go_ret;exact⟨bC (by rw[HM.out]),rfl⟩
  ·have HM:Hid (xS t a=false):=agF.2 (by omega);go_enter Tryz.func190,Tryz.ntmps190;go_wp2;go_ret;exact⟨bC (by rw[HM.out]),rfl⟩
 ·have HM:Hid (xS t a=false):=agF.2 (by omega);go_enter Tryz.func190,Tryz.ntmps190;go_wp2;go_ret;exact⟨bC (by rw[HM.out]),rfl⟩
theorem ahr (A:Option Addr) (n cap:Nat) (fs:List aT) (w:World) (h:dh w A n fs):
  Calls Tryz.prog 158 #[.slice A n cap] w fun e w'=>e= .returned (.bool (jU fs))∧Below w.heap.size w w':=by
 obtain⟨hn,hm,hwf,hc⟩:=h;unfold maxLen at hm;have HN:=Lib.hid hn;clear hn;have HC:=Lib.hid hc;clear hc
 by_cases h64:64<n
 ·have HR:Hid (jU fs=false):=aho (by have:=HN.out;omega);go_enter Tryz.func158,Tryz.ntmps158;go_wp2_with fail;go_ret;exact⟨bC HR.out.symm,Below.refl _ _⟩
 ·go_enter Tryz.func158,Tryz.ntmps158;go_wp2_with fail;go_loopw [3,11] (fun a i wr=>∃k:Nat,k≤n∧i= .int .i64 k∧a= .int .i64 (hd fs k)∧Hid (∀j,j<k→qU fs j=true)∧Below w.heap.size w wr) (fun _ i _=>n-(intOf i).toNat)
  case atStart=>exact⟨0,by omega,rfl,by rw[aam],fun j hj=>by omega,Below.refl _ _⟩
  case round=>
   obtain⟨k,hk,rfl,rfl,hno,hbw⟩:=hrel
   by_cases hlt:k<n
   ·obtain⟨b,off,hA,hb,hat⟩:=HC.out (by omega);subst hA;have HK:Hid (k<fs.length):=by have:=HN.out;show k<fs.length;omega
    obtain⟨c1,c2⟩:wr.cell? ⟨b,off+k*2,none⟩=some (.int .i64 (tg fs k))∧wr.cell? ⟨b,off+k*2+1,none⟩=some (.string (dt fs k)):=by
     have h:=hat k HK.out;exact⟨(hbw.cell (p:=⟨b,off+k*2,none⟩) hb).trans h.1,(hbw.cell (p:=⟨b,off+k*2+1,none⟩) hb).trans h.2⟩
    have hsz:(dt fs k).size≤9223372036854775807:=Qr hwf HK.out;clear hat
    cases hM:xS (tg fs k) (hd fs k)with
    |false=>
     have HR:Hid (jU fs=false):=K9 HK.out (by unfold qU;rw[hM];rfl);go_wp2_with fail;refine(Jc _ _ _).mono ?_;rintro e w' ⟨rfl,rfl⟩;rw[hM];go_wp2_with fail;go_ret;exact⟨bC HR.out.symm,hbw.alloc hbw.size _⟩
    |true=>
     by_cases Qu:1000<(dt fs k).size
     ·have HR:Hid (jU fs=false):=K9 HK.out (by unfold qU;rw[hM];simp;omega);go_wp2_with fail;refine(Jc _ _ _).mono ?_;rintro e w' ⟨rfl,rfl⟩;rw[hM];go_wp2_with fail;go_ret;exact⟨bC HR.out.symm,hbw.alloc hbw.size _⟩
     ·have HO:Hid (qU fs k=true):=by show qU fs k=true;unfold qU;rw[hM];simp;omega
      go_wp2_with fail;refine(Jc _ _ _).mono ?_;rintro e w' ⟨rfl,rfl⟩;rw[hM];go_wp2_with fail;go_roundw
      case rel=>exact⟨k+1,by omega,by go_num,by rw[QN],fun j hj=>by rcases Nat.lt_or_ge j k with h|h;exact hno.out j h;rw[show j=k by omega];exact HO.out,hbw.alloc hbw.size _⟩
      case measure=>simp[intOf];omega
   ·have hkn:n=k:=by omega
    subst hkn;have HR:Hid (jU fs=true):=abv (by have:=HN.out;omega) (by have:=HN.out;rw[←this];exact hno.out);go_wp2_with fail;go_ret;exact⟨bC HR.out.symm,hbw⟩
end Go.Proofs.YtodaapcohdpenaaGreat
namespace Go.Proofs.YtodaapcohdpenaaGreat
open Go.RowKit
theorem asf (A:Option Addr) (n cap:Nat) (fs:List aT) (w:World) (h:dh w A n fs):
  Calls Tryz.prog 152 #[.slice A n cap] w fun e w'=>e= .returned (.bool (jU fs))∧Below w.heap.size w w':=by
 obtain⟨hn,hm,hwf,hc⟩:=h;unfold maxLen at hm;have HN:=Lib.hid hn;clear hn;have HC:=Lib.hid hc;clear hc;go_enter Tryz.func152,Tryz.ntmps152;go_wp2_with fail;go_loopw [3] (fun i wr=>∃k:Nat,k≤n∧i= .int .i64 k∧Hid (∀j,j<k→qU fs j=true)∧Below w.heap.size w wr) (fun i _=>n-(intOf i).toNat)
 case atStart=>exact⟨0,by omega,rfl,fun j hj=>by omega,Below.refl _ _⟩
 case round=>
  obtain⟨k,hk,rfl,hno,hbw⟩:=hrel
  by_cases hlt:k<n
  ·obtain⟨b,off,hA,hb,hat⟩:=HC.out (by omega);subst hA;have HK:Hid (k<fs.length):=by have:=HN.out;show k<fs.length;omega
   obtain⟨c1,c2⟩:wr.cell? ⟨b,off+k*2,none⟩=some (.int .i64 (tg fs k))∧wr.cell? ⟨b,off+k*2+1,none⟩=some (.string (dt fs k)):=by
    have h:=hat k HK.out;exact⟨(hbw.cell (p:=⟨b,off+k*2,none⟩) hb).trans h.1,(hbw.cell (p:=⟨b,off+k*2+1,none⟩) hb).trans h.2⟩
   have hsz:(dt fs k).size≤9223372036854775807:=Qr hwf HK.out;have hhd:=afE k (Nat.le_of_lt HK.out) hno.out;have hb0:(0:Int)≤(k:Int):=by omega
   have hb1:(k:Int)<(n:Int):=by omega
   by_cases t1:tg fs k<1
   ·have HR:Hid (jU fs=false):=K9 HK.out (RJ (by omega));clear hhd;go_wp2_with fail;go_quiet (fail);go_wp2;go_ret;exact⟨bC HR.out.symm,jL hbw _⟩
   have d1:decide (tg fs k<1)=false:=by simpa using t1
   by_cases t2:1000000<tg fs k
   ·have HR:Hid (jU fs=false):=K9 HK.out (RJ (by omega));clear hhd;go_wp2_with fail;go_quiet (fail);go_wp2;go_ret;exact⟨bC HR.out.symm,jL hbw _⟩
   have d2:decide (1000000<tg fs k)=false:=by simpa using t2
   rcases Nat.eq_zero_or_pos k with hk0|hkp
   ·have hd0:hd fs k=0:=by rw[hk0,aam]
    have d3:decide (0<k)=false:=by simpa using hk0
    have d3':decide ((0:Int)<(k:Int))=false:=by simp;omega
    by_cases t4:1000<(dt fs k).size
    ·have HR:Hid (jU fs=false):=K9 HK.out (RJ (by omega));clear hhd hd0 hk0;go_wp2_with fail;go_quiet (fail);go_wp2;go_ret;exact⟨bC HR.out.symm,jL hbw _⟩
    ·have d4:decide (1000<(dt fs k).size)=false:=by simpa using t4
     have HO:Hid (qU fs k=true):=FU.2 (by omega);clear hhd hd0;have H0:=Lib.hid hk0;clear hk0;go_wp2_with fail;go_quiet (fail);go_wp2;go_roundw
     case rel=>exact⟨k+1,by omega,by go_num,fun j hj=>by have:=H0.out;rw[show j=k by omega];exact HO.out,jL hbw _⟩
     case measure=>simp[intOf];omega
   ·obtain⟨q,rfl⟩:∃q,k=q+1:=⟨k-1,by omega⟩;obtain⟨c3,c4⟩:wr.cell? ⟨b,off+q*2,none⟩=some (.int .i64 (tg fs q))∧wr.cell? ⟨b,off+q*2+1,none⟩=some (.string (dt fs q)):=by
     have h:=hat q (by have:=HK.out;omega);exact⟨(hbw.cell (p:=⟨b,off+q*2,none⟩) hb).trans h.1,(hbw.cell (p:=⟨b,off+q*2+1,none⟩) hb).trans h.2⟩
    rw[QN]at hhd;clear hat
    by_cases t3:tg fs (q+1)≤tg fs q
    ·have HR:Hid (jU fs=false):=K9 HK.out (RJ (by rw[QN];omega));clear hhd;go_wp2_with fail;go_quiet (fail);go_wp2;go_ret;exact⟨bC HR.out.symm,jL hbw _⟩
    have d3:decide (tg fs (q+1)≤tg fs q)=false:=by simpa using t3
    by_cases t4:1000<(dt fs (q+1)).size
    ·have HR:Hid (jU fs=false):=K9 HK.out (RJ (by omega));clear hhd;go_wp2_with fail;go_quiet (fail);go_wp2;go_ret;exact⟨bC HR.out.symm,jL hbw _⟩
    ·have d4:decide (1000<(dt fs (q+1)).size)=false:=by simpa using t4
     have HO:Hid (qU fs (q+1)=true):=FU.2 (by rw[QN];omega);clear hhd;go_wp2_with fail;go_quiet (fail);go_wp2;go_roundw
     case rel=>exact⟨q+1+1,by omega,by go_num,fun j hj=>by rcases Nat.lt_or_ge j (q+1)with h|h;exact hno.out j h;rw[show j=q+1 by omega];exact HO.out,jL hbw _⟩
     case measure=>simp[intOf];omega
  ·have hkn:n=k:=by omega
   subst hkn
   by_cases h64:n≤64
   ·have HR:Hid (jU fs=true):=abv (by have:=HN.out;omega) (by have:=HN.out;rw[←this];exact hno.out);go_wp2_with fail;go_ret;exact⟨bC (by rw[HR.out];simp;omega),hbw⟩
   ·have HR:Hid (jU fs=false):=aho (by have:=HN.out;omega);go_wp2_with fail;go_ret;exact⟨bC (by rw[HR.out];simp;omega),hbw⟩
end Go.Proofs.YtodaapcohdpenaaGreat
namespace Go.Proofs.YtodaapcohdpenaaGreat
open Go.RowKit
theorem aeg {a b:ByteArray} (h:a.toList=b.toList):a=b:=by
 have e:∀s:ByteArray,s.toList=s.data.toList:=fun s=>by rw[MG s,Ky];simp[bs]
 rw[e,e]at h
 cases a;cases b
 simp only[ByteArray.mk.injEq];exact Array.ext' h
def tK (a b:List aT):Bool:=a.length==b.length&&(List.range a.length).all fun i=>tg a i==tg b i&&(dt a i).toList==(dt b i).toList
theorem abD {a b:List aT}:tK a b=true↔a=b:=by
 unfold tK;constructor
 ·intro h;simp only[Bool.and_eq_true,beq_iff_eq,List.all_eq_true,List.mem_range]at h;obtain⟨h1,h2⟩:=h;refine List.ext_getElem h1 fun i hi hj=>?_;obtain⟨e1,e2⟩:=h2 i hi;rw[MX hi,MX hj,e1,aeg e2]
 ·rintro rfl;simp
theorem ahA {a b:List aT} (h:a.length≠b.length):tK a b=false:=by
 cases hr:tK a b with
 |false=>rfl
 |true=>rw[abD.1 hr]at h;exact absurd rfl h
theorem ahz {a b:List aT} {i:Nat} (h:tg a i≠tg b i∨(dt a i).toList≠(dt b i).toList):tK a b=false:=by
 cases hr:tK a b with
 |false=>rfl
 |true=>rw[abD.1 hr]at h;simp at h
theorem ahB {a b:List aT} (h1:a.length=b.length) (h2:∀i,i<a.length→tg a i=tg b i∧(dt a i).toList=(dt b i).toList):tK a b=true:=by
 unfold tK;simp only[Bool.and_eq_true,beq_iff_eq,List.all_eq_true,List.mem_range];exact⟨h1,h2⟩
theorem ae9 (a c:Int) (b d:ByteArray) (w:World):(Op.equalIn 10000 65 (.agg #[.int .i64 a,.string b]) (.agg #[.int .i64 c,.string d])).run Tryz.prog w= .ok (a==c&&b.toList==d.toList) w:=by
 have u3:=Tryz.underlying3;have a3:=Tryz.isAgg3;have z3:=Tryz.sizeOf3;have u9:=Tryz.underlying9;have a9:=Tryz.isAgg9;have z9:=Tryz.sizeOf9;have hS:Tryz.prog.underlying 65=some (.struct (Tryz.prog.fieldsOf 65)):=by kernel_rfl
 have hp:Tryz.prog.stoodInHeld 65=false:=by kernel_rfl
 rw[show(10000:Nat)=9999+1 from rfl,run_equalIn_agg w 9999 65 _ _ hS hp];simp only[Program.fieldsOf,Tryz.underlying65];go_simp
 by_cases h1:a=c<;>by_cases h2:b.toList=d.toList<;>simp[h1,h2]
theorem afw:Tryz.prog.eqGuardType Tryz.prog.depth 65=false:=by kernel_rfl
theorem as0 (A B:Option Addr) (n m cap cap2:Nat) (fs gs:List aT) (w:World) (h:dh w A n fs) (h2:dh w B m gs):
  Calls Tryz.prog 113 #[.slice A n cap,.slice B m cap2] w fun e w'=>e= .returned (.bool (tK fs gs))∧Below w.heap.size w w':=by
 obtain⟨hn,hm,_,hc⟩:=h;obtain⟨hn2,hm2,_,hc2⟩:=h2;unfold maxLen at hm hm2;have HN:=Lib.hid hn;clear hn;have HC:=Lib.hid hc;clear hc;have w_:=Lib.hid hn2;clear hn2;have zu:=Lib.hid hc2;clear hc2
 by_cases hnm:n=m
 ·subst hnm;go_enter Tryz.func113,Tryz.ntmps113;go_wp2_with fail;go_loopw [5] (fun i wr=>∃k:Nat,k≤n∧i= .int .i64 k∧Hid (∀j,j<k→tg fs j=tg gs j∧(dt fs j).toList=(dt gs j).toList)∧Below w.heap.size w wr) (fun i _=>n-(intOf i).toNat)
  case atStart=>exact⟨0,by omega,rfl,fun j hj=>by omega,Below.refl _ _⟩
  case round=>
   obtain⟨k,hk,rfl,hno,hbw⟩:=hrel
   by_cases hlt:k<n
   ·obtain⟨b,off,hA,hb,hat⟩:=HC.out (by omega);subst hA;obtain⟨b2,off2,hA2,hb2,CY⟩:=zu.out (by omega);subst hA2;have HK:Hid (k<fs.length):=by have:=HN.out;show k<fs.length;omega
    obtain⟨c1,c2⟩:wr.cell? ⟨b,off+k*2,none⟩=some (.int .i64 (tg fs k))∧wr.cell? ⟨b,off+k*2+1,none⟩=some (.string (dt fs k)):=by
     have h:=hat k HK.out;exact⟨(hbw.cell (p:=⟨b,off+k*2,none⟩) hb).trans h.1,(hbw.cell (p:=⟨b,off+k*2+1,none⟩) hb).trans h.2⟩
    obtain⟨c3,c4⟩:wr.cell? ⟨b2,off2+k*2,none⟩=some (.int .i64 (tg gs k))∧wr.cell? ⟨b2,off2+k*2+1,none⟩=some (.string (dt gs k)):=by
     have h:=CY k (by have:=w_.out;omega);exact⟨(hbw.cell (p:=⟨b2,off2+k*2,none⟩) hb2).trans h.1,(hbw.cell (p:=⟨b2,off2+k*2+1,none⟩) hb2).trans h.2⟩
    clear hat CY;have hb0:(0:Int)≤(k:Int):=by omega
    have hb1:(k:Int)<(n:Int):=by omega
    have hgu:=afw;have heq:=ae9 (tg fs k) (tg gs k) (dt fs k) (dt gs k)
    by_cases he:tg fs k=tg gs k∧(dt fs k).toList=(dt gs k).toList
    ·have hE:(tg fs k==tg gs k&&(dt fs k).toList==(dt gs k).toList)=true:=by simp[he.1,he.2]
     rw[hE]at heq;have HE:=Lib.hid he;clear he hE;go_wp2_with fail;go_quiet (fail);go_wp2;go_roundw
     case rel=>exact⟨k+1,by omega,by go_num,fun j hj=>by rcases Nat.lt_or_ge j k with h|h;exact hno.out j h;rw[show j=k by omega];exact HE.out,jL hbw _⟩
     case measure=>simp[intOf];omega
    ·have hE:(tg fs k==tg gs k&&(dt fs k).toList==(dt gs k).toList)=false:=by simpa using he
     have HR:Hid (tK fs gs=false):=ahz (i:=k) (by by_cases h:tg fs k=tg gs k;exact .inr (fun h3=>he ⟨h,h3⟩);exact .inl h);rw[hE]at heq;clear he hE;go_wp2_with fail;go_quiet (fail);go_wp2;go_ret;exact⟨bC HR.out.symm,jL hbw _⟩
   ·have hkn:n=k:=by omega
    subst hkn;have HR:Hid (tK fs gs=true):=ahB (by have:=HN.out;have:=w_.out;omega) (by have:=HN.out;rw[←this];exact hno.out);go_wp2_with fail;go_ret;exact⟨bC HR.out.symm,hbw⟩
 ·have HR:Hid (tK fs gs=false):=ahA (by have:=HN.out;have:=w_.out;omega);have hd:((n:Int)==(m:Int))=false:=by simp;omega
  go_enter Tryz.func113,Tryz.ntmps113;go_wp2_with fail;go_ret;exact⟨bC HR.out.symm,Below.refl _ _⟩
end Go.Proofs.YtodaapcohdpenaaGreat
namespace Go.Proofs.YtodaapcohdpenaaGreat
open Go.RowKit
theorem data_extract (s:ByteArray) (i j:Nat):(s.extract i j).data.toList=(s.data.toList.drop i).take (j-i):=by
 simp[ByteArray.data_extract,Array.toList_extract,List.extract_eq_take_drop]
theorem aeO (s:ByteArray) (i:Nat):(s.extract i s.size).data.toList=s.data.toList.drop i:=by
 rw[data_extract,List.take_of_length_le (by simp)]
theorem atE {T S:ByteArray} {j k:Nat} (h:T.extract j k=S) (h1:j≤k) (h2:k≤T.size) (W:World):
  (Instr.slice 9 (.string T) (some (.int .i64 j)) (some (.int .i64 k)) none).run Tryz.prog W= .ok (.string S) W:=by
 rw[run_slice_string W _ T _ _ (j:Int) (k:Int) Tryz.underlying9 (by omega) (by omega) (by omega),←h];rfl
theorem ao2 (s:ByteArray) (a:Nat) (hs:s.size≤140737488351232) (w:World):
  Calls Tryz.prog 210 #[.string s,.int .i64 a] w fun e w'=>e= .returned (.tuple #[.agg #[.int .i64 (jJ s.data.toList a).1,.string (bs (jJ s.data.toList a).2.1)],.int .i64 (jJ s.data.toList a).2.2.1,.int .i64 (jJ s.data.toList a).2.2.2])∧Below w.heap.size w w':=by
 have hsl:s.data.toList.length=s.size:=by simp
 have t1:=R_ s (by unfold maxLen;omega);have hk1:=abV s.data.toList;have hf1:=abU s.data.toList;generalize hT:jJ s.data.toList a=T;unfold jJ at hT;have t2:=R_ (s.extract (bY s.data.toList).2.1 s.size) (by unfold maxLen;rw[ByteArray.size_extract];omega);rw[aeO]at t2;have hk2:=abV (s.data.toList.drop (bY s.data.toList).2.1);have hf2:=abU (s.data.toList.drop (bY s.data.toList).2.1);have he2:=NU (s.data.toList.drop (bY s.data.toList).2.1);have he1:=NU s.data.toList;rw[List.length_drop]at hk2;generalize(bY (s.data.toList.drop (bY s.data.toList).2.1)).1=n2 at*;generalize(bY (s.data.toList.drop (bY s.data.toList).2.1)).2.1=k2 at*;generalize(bY (s.data.toList.drop (bY s.data.toList).2.1)).2.2=e2 at*;generalize(bY s.data.toList).1=n1 at*;generalize(bY s.data.toList).2.1=k1 at*;generalize(bY s.data.toList).2.2=e1 at*;rw[hsl]at hT hk1 hk2;clear hsl;have HT:=Lib.hid hT;clear hT;rcases he1 with rfl|rfl|rfl
 ·cases hM:xS (n1:Int) (a:Int)with
  |false=>
   rw[hM]at HT;have HT2:=Lib.hid (HT.out.symm.trans ((if_neg (by decide)).trans (if_pos rfl)));clear HT hk1 hk2 hf1 hf2 he2 t2;go_enter Tryz.func210,Tryz.ntmps210;go_wp2_with fail;refine(t1 _).mono ?_;rintro e V1 ⟨rfl,d1⟩;have hx:=(d1.block w.heap.size (by simp)).trans (World.alloc_heap_new w _);have c0:V1.cell? ⟨w.heap.size,0,none⟩=some (.int .i64 0):=bJ hx 0;have c1:V1.cell? ⟨w.heap.size,1,none⟩=some (.string ⟨#[]⟩):=bJ hx 1;have f0:V1.frozen? ⟨w.heap.size,0,none⟩=false:=rF hx 0;have f1:V1.frozen? ⟨w.heap.size,1,none⟩=false:=rF hx 1;clear hx;go_wp2_with fail;refine(Jc _ _ _).mono ?_;rintro e w' ⟨rfl,rfl⟩;rw[hM];go_wp2_with fail;refine bodyPost_ret (v:=.tuple #[.agg #[.int .i64 0,.string ⟨#[]⟩],.int .i64 0,.int .i64 13]) (by simp[results,Tryz.results210,go_sem,c0,c1]) rfl ⟨by rw[HT2.out];rfl,?_⟩;exact((((Below.refl _ w).alloc (Nat.le_refl _) _).trans (d1.mono (by simp))).setCell (Nat.le_refl _) _).setCell (Nat.le_refl _) _
  |true=>
   rw[hM]at HT;have HT2:=Lib.hid (HT.out.symm.trans ((if_neg (by decide)).trans (if_neg (by decide))));clear HT;have hS:=fun W=>NP (T:=s) (k:=k1) rfl hk1.1 W;generalize s.extract k1 s.size=S2 at hS t2;have hkk:k1+k2≤s.size:=by omega
   have avI:=hk1.2;have avJ:=hk2.2;have hk10:=hk1.1;clear hk1 hk2;rcases he2 with rfl|rfl|rfl
   ·by_cases Qu:1000<n2
    ·have HT3:=Lib.hid (HT2.out.trans ((if_neg (by decide)).trans (if_pos Qu)));clear HT2;have apd:(1000:Int)<(n2:Int):=by omega
     go_enter Tryz.func210,Tryz.ntmps210;go_wp2_with fail;refine(t1 _).mono ?_;rintro e V1 ⟨rfl,d1⟩;go_wp2_with fail;refine(Jc _ _ _).mono ?_;rintro e w' ⟨rfl,rfl⟩;rw[hM];go_wp2_with fail;refine(t2 _).mono ?_;rintro e V2 ⟨rfl,d2⟩;have hx:=(d2.block w.heap.size (by have:=d1.size;simp at this;omega)).trans ((d1.block w.heap.size (by simp)).trans (World.alloc_heap_new w _));have c0:V2.cell? ⟨w.heap.size,0,none⟩=some (.int .i64 0):=bJ hx 0;have c1:V2.cell? ⟨w.heap.size,1,none⟩=some (.string ⟨#[]⟩):=bJ hx 1;have f0:V2.frozen? ⟨w.heap.size,0,none⟩=false:=rF hx 0;have f1:V2.frozen? ⟨w.heap.size,1,none⟩=false:=rF hx 1;clear hx;go_wp2_with fail;refine bodyPost_ret (v:=.tuple #[.agg #[.int .i64 0,.string ⟨#[]⟩],.int .i64 0,.int .i64 11]) (by simp[results,Tryz.results210,go_sem,c0,c1]) rfl ⟨by rw[HT3.out];rfl,?_⟩;exact((((Below.refl _ w).alloc (Nat.le_refl _) _).trans ((aA d1 d2).mono (by simp))).setCell (Nat.le_refl _) _).setCell (Nat.le_refl _) _
    ·by_cases hcut:s.size<k1+k2+n2
     ·have HT3:=Lib.hid (HT2.out.trans ((if_neg (by decide)).trans ((if_neg Qu).trans (if_pos hcut))));clear HT2;have hcut':((s.size:Int)-((k1:Int)+(k2:Int)))<(n2:Int):=by omega
      go_enter Tryz.func210,Tryz.ntmps210;go_wp2_with fail;refine(t1 _).mono ?_;rintro e V1 ⟨rfl,d1⟩;go_wp2_with fail;refine(Jc _ _ _).mono ?_;rintro e w' ⟨rfl,rfl⟩;rw[hM];go_wp2_with fail;refine(t2 _).mono ?_;rintro e V2 ⟨rfl,d2⟩;have hx:=(d2.block w.heap.size (by have:=d1.size;simp at this;omega)).trans ((d1.block w.heap.size (by simp)).trans (World.alloc_heap_new w _));have c0:V2.cell? ⟨w.heap.size,0,none⟩=some (.int .i64 0):=bJ hx 0;have c1:V2.cell? ⟨w.heap.size,1,none⟩=some (.string ⟨#[]⟩):=bJ hx 1;have f0:V2.frozen? ⟨w.heap.size,0,none⟩=false:=rF hx 0;have f1:V2.frozen? ⟨w.heap.size,1,none⟩=false:=rF hx 1;clear hx;go_wp2_with fail;refine bodyPost_ret (v:=.tuple #[.agg #[.int .i64 0,.string ⟨#[]⟩],.int .i64 0,.int .i64 10]) (by simp[results,Tryz.results210,go_sem,c0,c1]) rfl ⟨by rw[HT3.out];rfl,?_⟩;exact((((Below.refl _ w).alloc (Nat.le_refl _) _).trans ((aA d1 d2).mono (by simp))).setCell (Nat.le_refl _) _).setCell (Nat.le_refl _) _
     ·have HT3:=Lib.hid (HT2.out.trans ((if_neg (by decide)).trans ((if_neg Qu).trans (if_neg hcut))));clear HT2;have HD:Hid (s.extract (k1+k2) (k1+k2+n2)=bs ((s.data.toList.drop (k1+k2)).take n2)):=by
       show _=_;rw[MG (s.extract _ _),data_extract,Nat.add_sub_cancel_left]
      have hS2:=fun W=>atE (T:=s) (j:=k1+k2) (k:=k1+k2+n2) HD.out (by omega) (by omega) W;simp only[Int.natCast_add]at hS2;have xw:Hid (T=(n1,(s.data.toList.drop (k1+k2)).take n2,k1+k2+n2,0)):=HT3.out;clear HT3 HD;generalize(s.data.toList.drop (k1+k2)).take n2=DL at hS2 xw;have hcut':(n2:Int)≤(s.size:Int)-((k1:Int)+(k2:Int)):=by omega
      have apd:(n2:Int)≤1000:=by omega
      go_enter Tryz.func210,Tryz.ntmps210;go_wp2_with fail;refine(t1 _).mono ?_;rintro e V1 ⟨rfl,d1⟩;go_wp2_with fail;refine(Jc _ _ _).mono ?_;rintro e w' ⟨rfl,rfl⟩;rw[hM];go_wp2_with fail;refine(t2 _).mono ?_;rintro e V2 ⟨rfl,d2⟩;have hx:=(d2.block w.heap.size (by have:=d1.size;simp at this;omega)).trans ((d1.block w.heap.size (by simp)).trans (World.alloc_heap_new w _));have c0:V2.cell? ⟨w.heap.size,0,none⟩=some (.int .i64 0):=bJ hx 0;have c1:V2.cell? ⟨w.heap.size,1,none⟩=some (.string ⟨#[]⟩):=bJ hx 1;have f0:V2.frozen? ⟨w.heap.size,0,none⟩=false:=rF hx 0;have f1:V2.frozen? ⟨w.heap.size,1,none⟩=false:=rF hx 1;clear hx;go_wp2_with fail;refine bodyPost_ret (v:=.tuple #[.agg #[.int .i64 n1,.string (bs DL)],.int .i64 ((k1:Int)+k2+n2),.int .i64 0]) (by simp[results,Tryz.results210,go_sem,c0,c1]) rfl ⟨by rw[xw.out];simp,?_⟩;exact((((Below.refl _ w).alloc (Nat.le_refl _) _).trans ((aA d1 d2).mono (by simp))).setCell (Nat.le_refl _) _).setCell (Nat.le_refl _) _
   all_goals
    have HT3:=Lib.hid (HT2.out.trans (if_pos (by decide)));clear HT2;go_enter Tryz.func210,Tryz.ntmps210;go_wp2_with fail;refine(t1 _).mono ?_;rintro e V1 ⟨rfl,d1⟩;go_wp2_with fail;refine(Jc _ _ _).mono ?_;rintro e w' ⟨rfl,rfl⟩;rw[hM];go_wp2_with fail;refine(t2 _).mono ?_;rintro e V2 ⟨rfl,d2⟩;have hx:=(d2.block w.heap.size (by have:=d1.size;simp at this;omega)).trans ((d1.block w.heap.size (by simp)).trans (World.alloc_heap_new w _));have c0:V2.cell? ⟨w.heap.size,0,none⟩=some (.int .i64 0):=bJ hx 0;have c1:V2.cell? ⟨w.heap.size,1,none⟩=some (.string ⟨#[]⟩):=bJ hx 1;have f0:V2.frozen? ⟨w.heap.size,0,none⟩=false:=rF hx 0;have f1:V2.frozen? ⟨w.heap.size,1,none⟩=false:=rF hx 1;clear hx;go_wp2_with fail;refine bodyPost_ret (v:=.tuple #[.agg #[.int .i64 0,.string ⟨#[]⟩],.int .i64 0,.int .i64 T.2.2.2]) (by rw[HT3.out];simp[results,Tryz.results210,go_sem,c0,c1]) rfl ⟨by rw[HT3.out];rfl,?_⟩;exact((((Below.refl _ w).alloc (Nat.le_refl _) _).trans ((aA d1 d2).mono (by simp))).setCell (Nat.le_refl _) _).setCell (Nat.le_refl _) _
 all_goals
  have HT2:=Lib.hid (HT.out.symm.trans (if_pos (by decide)));clear HT hk1 hk2 hf1 hf2 he2 t2;go_enter Tryz.func210,Tryz.ntmps210;go_wp2_with fail;refine(t1 _).mono ?_;rintro e V1 ⟨rfl,d1⟩;have hx:=(d1.block w.heap.size (by simp)).trans (World.alloc_heap_new w _);have c0:V1.cell? ⟨w.heap.size,0,none⟩=some (.int .i64 0):=bJ hx 0;have c1:V1.cell? ⟨w.heap.size,1,none⟩=some (.string ⟨#[]⟩):=bJ hx 1;have f0:V1.frozen? ⟨w.heap.size,0,none⟩=false:=rF hx 0;have f1:V1.frozen? ⟨w.heap.size,1,none⟩=false:=rF hx 1;clear hx;go_wp2_with fail;refine bodyPost_ret (v:=.tuple #[.agg #[.int .i64 0,.string ⟨#[]⟩],.int .i64 0,.int .i64 T.2.2.2]) (by rw[HT2.out];simp[results,Tryz.results210,go_sem,c0,c1]) rfl ⟨by rw[HT2.out];rfl,?_⟩;exact((((Below.refl _ w).alloc (Nat.le_refl _) _).trans (d1.mono (by simp))).setCell (Nat.le_refl _) _).setCell (Nat.le_refl _) _
end Go.Proofs.YtodaapcohdpenaaGreat
