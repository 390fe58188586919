-- eB
import Derived.Test.YtodaapcohdpenaaGreatGSq
import Derived.Test.YtodaapcohdpenaaGreatGShM
import Derived.Test.YtodaapcohdpenaaGreatGRecA
import Derived.Test.YtodaapcohdpenaaGreatGFld
import Derived.Deep.RegionHeld3
import Derived.Deep.RegionLaw
import Derived.Deep.DeepCutAuto
import Derived.BigRegion
import Derived.BigQuiet
import Derived.Laws.Cover1
import Derived.Maps.AppendAt
import Derived.OwnWalk
import Derived.WalkMore
import Derived.Laws.OwnMore
namespace Go.Proofs.YtodaapcohdpenaaGreat
open Go.RowKit
set_option linter.unusedSimpArgs false
set_option linter.unusedVariables false
set_option maxHeartbeats 8000000
set_option maxRecDepth 100000
def om (r:au):Prop:=zK r∧(Lit.int .i64 r.rev).wf=true∧(Lit.int .i64 r.life).wf=true∧r.extra.length*24≤140737488351232
def kH (w:World) (b o:Nat) (r:au) (x:Value):Prop:=w.cell? ⟨b,o,none⟩=some (.string r.key)∧w.cell? ⟨b,o+1,none⟩=some (.string r.value)∧w.cell? ⟨b,o+2,none⟩=some (.int .i64 r.rev)∧w.cell? ⟨b,o+3,none⟩=some (.int .i64 r.life)∧w.cell? ⟨b,o+4,none⟩=some (.string r.note)∧w.cell? ⟨b,o+5,none⟩=some x
theorem kH.below {w w':World} {b o:Nat} {r:au} {x:Value} (h:kH w b o r x) (hb:Below w.heap.size w w'):kH w' b o r x:=by
 obtain⟨h0,h1,h2,h3,h4,h5⟩:=h;have hlt:=lt_of_cell (a:=⟨b,o,none⟩) h0;exact⟨(hb.cell (p:=⟨b,o,none⟩) hlt).trans h0,(hb.cell (p:=⟨b,o+1,none⟩) hlt).trans h1,(hb.cell (p:=⟨b,o+2,none⟩) hlt).trans h2,(hb.cell (p:=⟨b,o+3,none⟩) hlt).trans h3,(hb.cell (p:=⟨b,o+4,none⟩) hlt).trans h4,(hb.cell (p:=⟨b,o+5,none⟩) hlt).trans h5⟩
def gW (w:World) (A:Option Addr) (n:Nat) (t:List au):Prop:=
 n=t.length∧n≤maxLen∧(∀r∈t,om r)∧(0<n→∃b off,A=some ⟨b,off,none⟩∧b<w.heap.size∧∀i,i<t.length→∃E m c,kH w b (off+i*6) (atR t i) (.slice E m c)∧m≤c∧dh w E m (atR t i).extra)
theorem gW.below {w w':World} {A:Option Addr} {n:Nat} {t:List au} (h:gW w A n t) (hb:Below w.heap.size w w'):gW w' A n t:=by
 obtain⟨h1,h2,h3,h4⟩:=h;refine⟨h1,h2,h3,fun hn=>?_⟩;obtain⟨b,off,e,hlt,hc⟩:=h4 hn;refine⟨b,off,e,Nat.lt_of_lt_of_le hlt hb.size,fun i hi=>?_⟩;obtain⟨E,m,c,k1,k2,k3⟩:=hc i hi;exact⟨E,m,c,k1.below hb,k2,k3.below hb⟩
theorem aa1 (w:World) (A:Option Addr):gW w A 0 []:=⟨rfl,by unfold maxLen;omega,(fun r h=>nomatch h),fun h=>by omega⟩
theorem gW.at {w W:World} {b off n i:Nat} {t:List au} (h:gW w (some ⟨b,off,none⟩) n t) (hi:i<t.length) (hb:Below w.heap.size w W):
  ∃E m c,kH W b (off+i*6) (atR t i) (.slice E m c)∧m≤c∧dh W E m (atR t i).extra:=by
 have h2:=h.below hb;obtain⟨b2,o2,hA,hlt,hc⟩:=h2.2.2.2 (by have:=h.1;omega);simp only[Option.some.injEq,Addr.mk.injEq,and_true]at hA;obtain⟨rfl,rfl⟩:=hA;exact hc i hi
theorem gW.block {w:World} {A:Option Addr} {n:Nat} {t:List au} (h:gW w A n t) (hn:0<n):∃b off,A=some ⟨b,off,none⟩∧b<w.heap.size:=by
 obtain⟨b,off,e,hlt,_⟩:=h.2.2.2 hn;exact⟨b,off,e,hlt⟩
def dw (w:World) (A:Option Addr) (n:Nat) (l:List ByteArray):Prop:=
 n=l.length∧n≤maxLen∧(∀s∈l,s.size≤maxLen)∧(0<n→∃b off,A=some ⟨b,off,none⟩∧b<w.heap.size∧∀i,i<l.length→w.cell? ⟨b,off+i,none⟩=some (.string (l.getD i ByteArray.empty)))
theorem dw.below {w w':World} {A:Option Addr} {n:Nat} {l:List ByteArray} (h:dw w A n l) (hb:Below w.heap.size w w'):dw w' A n l:=by
 obtain⟨h1,h2,h3,h4⟩:=h;refine⟨h1,h2,h3,fun hn=>?_⟩;obtain⟨b,off,e,hlt,hc⟩:=h4 hn;exact⟨b,off,e,Nat.lt_of_lt_of_le hlt hb.size,fun i hi=>(hb.cell (p:=⟨b,off+i,none⟩) hlt).trans (hc i hi)⟩
theorem sW (w:World) (A:Option Addr):dw w A 0 []:=⟨rfl,by unfold maxLen;omega,(fun r h=>nomatch h),fun h=>by omega⟩
def gU (o:aX):Value:=.agg (aO o)
def bX (r:dx) (x:Value):Value:=.agg (aR r x)
def Bo (o:aX):Prop:=(Lit.int .i64 o.kind).wf=true∧o.key.size≤140737488365000∧o.value.size≤140737488365000∧(Lit.int .i64 o.rev).wf=true∧o.upto.size≤140737488365000∧(Lit.int .i64 o.life).wf=true∧o.note.size≤140737488365000
def WI (w:World) (u:List au) (r:dx) (e:Ending) (w':World):Prop:=
 ∃A n cap K k kc,e= .returned (.tuple #[.slice A n cap,bX r (.slice K k kc)])∧n≤cap∧gW w' A n u∧k≤kc∧dw w' K k r.keys∧Below w.heap.size w w'
def air:Prop:=∀(v:Int) (o:aX),(Lit.int .i64 v).wf=true→Bo o→∀w:World,
 Calls Tryz.prog 82 #[.int .i64 v,gU o] w fun e w'=>e= .returned (.int .i64 (dY v o))∧Below w.heap.size w w'
def alU:Prop:=∀(t:List au) (A:Option Addr) (n cap:Nat) (w:World),n≤cap→gW w A n t→n*88≤140737488351232→
 Calls Tryz.prog 30 #[.slice A n cap] w fun e w'=>e= .returned (.bool (wN t))∧Below w.heap.size w w'
def zi (t u:List au):Bool:=decide (t.length=u.length)&&decide (∀i,i<t.length→kM (atR t i) (atR u i)=true)
theorem Jp {t u:List au}:zi t u=true↔t=u:=by
 unfold zi;simp only[Bool.and_eq_true,decide_eq_true_eq,abG];constructor
 ·rintro⟨h1,h2⟩;refine List.ext_getElem h1 fun i hi hj=>?_;have:=h2 i hi;rw[jw hi,jw hj]at this;exact this
 ·rintro rfl;exact⟨rfl,fun _ _=>rfl⟩
def alX:Prop:=∀(t u:List au) (A B:Option Addr) (n m cap cap2:Nat) (w:World),n≤cap→m≤cap2→gW w A n t→gW w B m u→n*88≤140737488351232→m*88≤140737488351232→
 Calls Tryz.prog 34 #[.slice A n cap,.slice B m cap2] w fun e w'=>e= .returned (.bool (zi t u))∧Below w.heap.size w w'
def fH (W:World) (g:Nat) (o:aX):Prop:=W.heap[g]? =some (.cells (aO o) 29 (0,0))
theorem fH.below {w w':World} {g:Nat} {o:aX} (h:fH w g o) (hb:Below w.heap.size w w'):fH w' g o:=Eq.trans (hb.block g (fF h)) h
theorem fH.cells {W:World} {g:Nat} {o:aX} (h:fH W g o):W.cell? ⟨g,0,none⟩=some (.int .i64 o.kind)∧W.cell? ⟨g,1,none⟩=some (.string o.key)∧W.cell? ⟨g,2,none⟩=some (.string o.value)∧W.cell? ⟨g,3,none⟩=some (.int .i64 o.rev)∧W.cell? ⟨g,4,none⟩=some (.string o.upto)∧W.cell? ⟨g,5,none⟩=some (.int .i64 o.life)∧W.cell? ⟨g,6,none⟩=some (.string o.note):=
 ⟨bJ h 0,bJ h 1,bJ h 2,bJ h 3,bJ h 4,bJ h 5,bJ h 6⟩
theorem fH.frozen {W:World} {g:Nat} {o:aX} (h:fH W g o) (j:Nat):W.frozen? ⟨g,j,none⟩=false:=rF h j
theorem fH.new (W:World) (o:aX):fH (W.alloc (.cells (aO o) 29)) W.heap.size o:=World.alloc_heap_new W _
theorem abp (o:aX) (w:World):Calls Tryz.prog 29 #[gU o] w fun e w'=>e= .returned (.bool (gL o))∧Below w.heap.size w w':=by
 unfold gU;have hbx:=fH.new w o;have hb0:Below w.heap.size w (w.alloc (.cells (aO o) 29)):=ak _ _;obtain⟨W0,hW0⟩:=aQ (w.alloc (.cells (aO o) 29));rw[hW0]at hbx hb0;obtain⟨c0,c1,c2,c3,c4,c5,c6⟩:=hbx.cells;have HB:=ah hb0;clear hb0 hbx
 by_cases h1:2≤o.kind
 ·by_cases h2:o.kind≤5
  ·have E:Hid (gL o=true):=by show _=_;unfold gL;simp[h1,h2]
   go_enter Tryz.func29,Tryz.ntmps29;go_wp2_with fail;go_ret;exact⟨bC E.out.symm,HB.out⟩
  ·have E:Hid (gL o=false):=by show _=_;unfold gL;simp[h2]
   go_enter Tryz.func29,Tryz.ntmps29;go_wp2_with fail;go_ret;exact⟨bC E.out.symm,HB.out⟩
 ·have E:Hid (gL o=false):=by show _=_;unfold gL;simp[h1]
  go_enter Tryz.func29,Tryz.ntmps29;go_wp2_with fail;go_ret;exact⟨bC E.out.symm,HB.out⟩
theorem ag_ (v:Int) (o:aX) (w:World):Calls Tryz.prog 64 #[.int .i64 v,gU o] w fun e w'=>e= .returned (.int .i64 (dY v o))∧Below w.heap.size w w':=by
 have hbad:qY v o→dY v o=1:=fun h=>by unfold dY;rw[if_pos h]
 have hgood:¬qY v o→dY v o=if v=1∧o.kind=5 then 22 else 0:=fun h=>by unfold dY;rw[if_neg h]
 unfold qY bZ at hbad hgood;have HBAD:=ah hbad;clear hbad;have aiR:=ah hgood;clear hgood;unfold gU;have hbx:=fH.new w o;have hb0:Below w.heap.size w (w.alloc (.cells (aO o) 29)):=ak _ _;obtain⟨W0,hW0⟩:=aQ (w.alloc (.cells (aO o) 29));rw[hW0]at hbx hb0;obtain⟨c0,c1,c2,c3,c4,c5,c6⟩:=hbx.cells;have HB:=ah hb0;clear hb0 hbx
 by_cases hv:v=1∨v=2
 rotate_left
 ·have E:Hid (dY v o=1):=HBAD.out (.inl hv);have v1:(v != 1)=true:=by simp;omega
  have v2:(v != 2)=true:=by simp;omega
  clear hv;go_enter Tryz.func64,Tryz.ntmps64;go_wp2_with fail;go_ret;exact⟨by rw[E.out];rfl,HB.out⟩
 have J8:=ah hv;have I4:(v != 1)=true∧(v != 2)=false∨(v != 1)=false:=by
  rcases hv with rfl|rfl
  ·exact .inr rfl
  ·exact .inl ⟨rfl,rfl⟩
 have HV:=ah I4;clear hv I4
 by_cases k0:o.kind<1
 ·have E:Hid (dY v o=1):=HBAD.out (.inr (.inl k0));rcases HV.out with⟨e1,e2⟩|e1<;>(go_enter Tryz.func64,Tryz.ntmps64;go_wp2_with fail;go_ret;exact⟨by rw[E.out];rfl,HB.out⟩)
 by_cases k1:6<o.kind
 ·have E:Hid (dY v o=1):=HBAD.out (.inr (.inr (.inl k1)));rcases HV.out with⟨e1,e2⟩|e1<;>(go_enter Tryz.func64,Tryz.ntmps64;go_wp2_with fail;go_ret;exact⟨by rw[E.out];rfl,HB.out⟩)
 by_cases k2:16<o.key.size
 ·have E:Hid (dY v o=1):=HBAD.out (.inr (.inr (.inr (.inl k2))));have i2:(16:Int)<(o.key.size:Int):=by omega
  rcases HV.out with⟨e1,e2⟩|e1<;>(go_enter Tryz.func64,Tryz.ntmps64;go_wp2_with fail;go_ret;exact⟨by rw[E.out];rfl,HB.out⟩)
 have i2:(o.key.size:Int)≤16:=by omega
 by_cases k3:o.key.size=0∧o.kind≠6
 ·have E:Hid (dY v o=1):=HBAD.out (.inr (.inr (.inr (.inr (.inl k3)))));have ke:o.key.toList=[]:=(pX _).2 k3.1;have kk:(o.kind != 6)=true:=by simpa using k3.2
  clear k3;rcases HV.out with⟨e1,e2⟩|e1<;>(go_enter Tryz.func64,Tryz.ntmps64;go_wp2_with fail;go_ret;exact⟨by rw[E.out];rfl,HB.out⟩)
 have hke:(o.key.toList=[]∧(o.kind != 6)=false)∨(o.key.toList.isEmpty=false∧o.key.toList≠[]):=by
  by_cases k:o.key.size=0
  ·exact .inl ⟨(pX _).2 k,by simp;exact Classical.byContradiction fun h=>k3 ⟨k,h⟩⟩
  ·exact .inr ⟨by rw[Bool.eq_false_iff];intro h2;exact k ((pX _).1 (by simpa using h2)),fun h2=>k ((pX _).1 h2)⟩
 have vU:=ah hke;clear hke;have XR:=ah k3;clear k3;go_enter Tryz.func64,Tryz.ntmps64;go_upto_region 1 with fail;go_cut [36] (fun s wx=>s= .bool false∧wx=W0)
 case first=>
  rcases HV.out with⟨e1,e2⟩|e1<;>rcases vU.out with⟨f1,f2⟩|⟨f1,f2⟩<;>(go_wp2_with fail;go_meet;exact⟨by first|rfl|exact congrArg Value.bool (decide_eq_false (by omega)),rfl⟩)
 obtain⟨rfl,rfl⟩:=hcut
 by_cases k4:200<o.value.size
 ·have E:Hid (dY v o=1):=HBAD.out (.inr (.inr (.inr (.inr (.inr (.inl k4))))));have i4:(200:Int)<(o.value.size:Int):=by omega
  go_wp2_with fail;go_ret;exact⟨by rw[E.out];rfl,HB.out⟩
 have i4:(o.value.size:Int)≤200:=by omega
 by_cases k5:16<o.upto.size
 ·have E:Hid (dY v o=1):=HBAD.out (.inr (.inr (.inr (.inr (.inr (.inr (.inl k5)))))));have i5:(16:Int)<(o.upto.size:Int):=by omega
  go_wp2_with fail;go_ret;exact⟨by rw[E.out];rfl,HB.out⟩
 have i5:(o.upto.size:Int)≤16:=by omega
 by_cases k6:40<o.note.size
 ·have E:Hid (dY v o=1):=HBAD.out (.inr (.inr (.inr (.inr (.inr (.inr (.inr (.inl k6))))))));have i6:(40:Int)<(o.note.size:Int):=by omega
  go_wp2_with fail;go_ret;exact⟨by rw[E.out];rfl,HB.out⟩
 have i6:(o.note.size:Int)≤40:=by omega
 by_cases k7:o.rev<0
 ·have E:Hid (dY v o=1):=HBAD.out (.inr (.inr (.inr (.inr (.inr (.inr (.inr (.inr (.inl k7)))))))));go_wp2_with fail;go_ret;exact⟨by rw[E.out];rfl,HB.out⟩
 by_cases k8:9007199254740992<o.rev
 ·have E:Hid (dY v o=1):=HBAD.out (.inr (.inr (.inr (.inr (.inr (.inr (.inr (.inr (.inr (.inl k8))))))))));go_wp2_with fail;go_ret;exact⟨by rw[E.out];rfl,HB.out⟩
 by_cases k9:o.life<0
 ·have E:Hid (dY v o=1):=HBAD.out (.inr (.inr (.inr (.inr (.inr (.inr (.inr (.inr (.inr (.inr (.inl k9)))))))))));go_wp2_with fail;go_ret;exact⟨by rw[E.out];rfl,HB.out⟩
 by_cases k10:9007199254740992<o.life
 ·have E:Hid (dY v o=1):=HBAD.out (.inr (.inr (.inr (.inr (.inr (.inr (.inr (.inr (.inr (.inr (.inr (k10))))))))))));go_wp2_with fail;go_ret;exact⟨by rw[E.out];rfl,HB.out⟩
 have hg:=aiR.out (by rintro(h|h|h|h|h|h|h|h|h|h|h|h)<;>first|exact h J8.out|exact XR.out h|omega);have HG:=ah hg;clear hg
 by_cases k5:o.kind=5
 ·have kk:(o.kind==5)=true:=by simpa using k5
  have hv:=J8.out
  by_cases v1:v=1
  ·have E:Hid (dY v o=22):=by show _=_;rw[HG.out];simp[k5,v1]
   have vv:(v==1)=true:=by simpa using v1
   clear k5 v1 hv;go_wp2_with fail;go_ret;exact⟨by rw[E.out];rfl,HB.out⟩
  ·have E:Hid (dY v o=0):=by show _=_;rw[HG.out];simp[v1]
   have vv:(v==1)=false:=by simpa using v1
   clear k5 v1 hv;go_wp2_with fail;go_ret;exact⟨by rw[E.out];rfl,HB.out⟩
 ·have kk:(o.kind==5)=false:=by simpa using k5
  have hv:=J8.out
  by_cases v1:v=1
  ·have E:Hid (dY v o=0):=by show _=_;rw[HG.out];simp[k5,v1]
   have vv:(v==1)=true:=by simpa using v1
   clear k5 v1 hv;go_wp2_with fail;go_ret;exact⟨by rw[E.out];rfl,HB.out⟩
  ·have E:Hid (dY v o=0):=by show _=_;rw[HG.out];simp[v1]
   have vv:(v==1)=false:=by simpa using v1
   clear k5 v1 hv;go_wp2_with fail;go_ret;exact⟨by rw[E.out];rfl,HB.out⟩
def Dl (x:Option Nat):Int:=match x with|none=>-1|some i=>(i:Int)
theorem af8 {t:List au} {k:ByteArray} {i:Nat} (h:∀j,j<i→(atR t j).key≠k) (hi:i<t.length) (hk:(atR t i).key=k):jS t k=some i:=by
 unfold jS;rw[List.findIdx?_eq_some_iff_getElem];refine⟨hi,by rw[jw hi]at hk;simpa using hk,fun j hj=>?_⟩;have:=h j hj;rw[jw (by omega)]at this;simpa using this
theorem af9 {t:List au} {k:ByteArray} (h:∀j,j<t.length→(atR t j).key≠k):jS t k=none:=by
 unfold jS;rw[List.findIdx?_eq_none_iff];intro r hr;obtain⟨j,hj,rfl⟩:=List.getElem_of_mem hr;have:=h j hj;rw[jw hj]at this;simpa using this
theorem EC {a b:ByteArray} (h:a=b):(a.toList==b.toList)=true:=by rw[h];simp
theorem ED {a b:ByteArray} (h:a≠b):(a.toList==b.toList)=false:=by
 rw[beq_eq_false_iff_ne];exact fun e=>h (Zw e)
theorem ar_ (t:List au) (k:ByteArray) (A:Option Addr) (n cap:Nat) (w:World) (h:gW w A n t):
  Calls Tryz.prog 66 #[.slice A n cap,.string k] w fun e w'=>e= .returned (.int .i64 (Dl (jS t k)))∧Below w.heap.size w w':=by
 have jy:=h.2.1;unfold maxLen at jy;have HN:Hid (n=t.length):=h.1;have HT:=ah h;clear h;obtain⟨R,hR⟩:∃R,Dl (jS t k)=R:=⟨_,rfl⟩;rw[hR];have HR:=ah hR;clear hR;go_enter Tryz.func66,Tryz.ntmps66;go_wp2_with fail;go_loopw [5] (fun i wy=>∃(j:Nat) (wr:World),wr=wy∧j≤n∧i= .int .i64 j∧(∀q,q<j→(atR t q).key≠k)∧Below w.heap.size w wr) (fun i _=>n-(intOf i).toNat)
 case atStart=>exact⟨0,_,rfl,by omega,rfl,(fun q hq=>by omega),Below.refl _ _⟩
 case round=>
  obtain⟨j,wr,rfl,hj,rfl,hne,hb⟩:=hrel;have HB:=ah hb;clear hb;have m_:=ah hne;clear hne
  by_cases hlt:j<n
  ·have hji:(j:Int)<(n:Int):=by omega
   have hj0:(0:Int)≤(j:Int):=by omega
   have hjl:j<t.length:=by have:=HN.out;omega
   obtain⟨b,off,hA,_⟩:=HT.out.block (by omega);subst hA;obtain⟨E,m,c,⟨x0,x1,x2,x3,x4,x5⟩,_,_⟩:=HT.out.at hjl HB.out
   by_cases he:(atR t j).key=k
   ·have HE:Hid (R=(j:Int)):=by show _=_;rw[←HR.out,af8 m_.out hjl he];rfl
    have e1:=EC he;clear he;go_wp2_with fail;go_ret;exact⟨by rw[HE.out];rfl,HB.out⟩
   ·have e1:=ED he;have HE:=ah he;clear he;go_wp2_with fail;go_roundw
    case rel=>exact⟨j+1,_,rfl,by omega,by go_num,fun q hq=>by rcases(by omega:q<j∨q=j)with h|rfl;exact m_.out q h;exact HE.out,HB.out⟩
    case measure=>simp[intOf];omega
  ·have iw:j=n:=by omega
   subst iw;have HE:Hid (R= -1):=by show _=_;rw[←HR.out,af9 (fun q hq=>m_.out q (by have:=HN.out;omega))];rfl
   clear hlt;go_wp2_with fail;go_ret;exact⟨by rw[HE.out];rfl,HB.out⟩
theorem asH {l:List au} {r:au} (h:jN l) (hl:∀x∈l,fM x.key r.key=true):jN (l++[r]):=
 List.pairwise_append.2 ⟨h,List.pairwise_singleton _ _,fun a ha b hb=>by rw[List.mem_singleton.1 hb];exact hl a ha⟩
theorem asG {t:List au} {j:Nat} (h:jN (t.take (j+1))) (hj:j+1<t.length) (hl:fM (atR t j).key (atR t (j+1)).key=true):jN (t.take (j+1+1)):=by
 rw[NY hj];refine asH h fun x hx=>?_;obtain⟨i,hi,rfl⟩:=List.getElem_of_mem hx;rw[List.length_take]at hi;have e:(t.take (j+1))[i]'(by rw[List.length_take];exact hi)=atR t i:=by rw[List.getElem_take,jw (by omega)]
 rw[e];rcases(by omega:i=j∨i<j)with rfl|h2
 ·exact hl
 ·have:=F3 h (i:=i) (j:=j) h2 (by rw[List.length_take];omega);have e1:atR (t.take (j+1)) i=atR t i:=by rw[jw (by rw[List.length_take];omega),List.getElem_take,jw (by omega)]
  have e2:atR (t.take (j+1)) j=atR t j:=by rw[jw (by rw[List.length_take];omega),List.getElem_take,jw (by omega)]
  rw[e1,e2]at this;exact lt_trans this hl
theorem ahu {t:List au} {i j:Nat} (e:j=i+1) (h:jN (t.take j)) (hj:j<t.length) (hl:fM (atR t i).key (atR t j).key=true):jN (t.take (j+1)):=by
 subst e;exact asG h hj hl
theorem ahf (t:List au) (A:Option Addr) (n cap:Nat) (w:World) (h:gW w A n t):
  Calls Tryz.prog 32 #[.slice A n cap] w fun e w'=>e= .returned (.bool (wN t))∧Below w.heap.size w w':=by
 have jy:=h.2.1;unfold maxLen at jy;have HN:Hid (n=t.length):=h.1;have HT:=ah h;clear h;have bA:Hid (¬iO t→wN t=false):=abw;have iF:Hid (iO t→wN t=true):=Lb.2;generalize wN t=R at*;go_enter Tryz.func32,Tryz.ntmps32;go_wp2_with fail;go_loopw [3] (fun i wy=>∃(j:Nat) (wr:World),wr=wy∧j≤n∧i= .int .i64 j∧(∀q,q<j→eP 2 (atR t q)=true)∧jN (t.take j)∧Below w.heap.size w wr) (fun i _=>n-(intOf i).toNat)
 case atStart=>exact⟨0,_,rfl,by omega,rfl,(fun q hq=>by omega),List.Pairwise.nil,Below.refl _ _⟩
 case round=>
  obtain⟨j,wr,rfl,hj,rfl,yS,hrs,hb⟩:=hrel;have HB:=ah hb;clear hb;have sI:=ah yS;clear yS;have gu:=ah hrs;clear hrs
  by_cases hlt:j<n
  ·have hji:(j:Int)<(n:Int):=by omega
   have hj0:(0:Int)≤(j:Int):=by omega
   have hjl:j<t.length:=by have:=HN.out;omega
   obtain⟨b,off,hA,_⟩:=HT.out.block (by omega);subst hA;obtain⟨E,m,c,⟨x0,x1,x2,x3,x4,x5⟩,_,hfs⟩:=HT.out.at hjl HB.out;have q:=ase 2 (atR t j) E m c wr (HT.out.2.2.1 _ (sK hjl)).1 hfs;have kG:=ah hjl;clear hfs hjl
   cases hr:eP 2 (atR t j)with
   |false=>
    rw[hr]at q;have HE:Hid (R=false):=bA.out fun h=>by have:=h.1 _ (sK kG.out);rw[hr]at this;cases this
    clear hr;go_wp2_with fail
    ((with_reducible refine q.mono ?_);rintro e W1 ⟨rfl,b1⟩)
    have HB1:=ah (aA HB.out b1);clear q b1 x0 x1 x2 x3 x4 x5;go_wp2_with fail;go_quiet (fail);go_wp2_with fail;go_ret;exact⟨by rw[HE.out];rfl,jL HB1.out _⟩
   |true=>
    rw[hr]at q;have Pk:=ah hr;clear hr;rcases Nat.eq_zero_or_pos j with hz|hp
    ·have lT:Hid (jN (t.take (j+1))):=by show jN _;rw[NY kG.out,hz];exact List.pairwise_singleton _ _
     have dj:decide ((0:Int)<(j:Int))=false:=decide_eq_false (by omega);have ZT:decide (0<j)=false:=decide_eq_false (by omega);have HZ:=ah hz;clear hz;go_wp2_with fail
     ((with_reducible refine q.mono ?_);rintro e W1 ⟨rfl,b1⟩)
     have HB1:=ah (aA HB.out b1);clear q b1 x0 x1 x2 x3 x4 x5;go_wp2_with fail;go_quiet (fail);go_wp2_with fail;go_roundw
     case rel=>
      refine⟨j+1,_,rfl,by omega,by go_num,fun q hq=>?_,lT.out,jL HB1.out _⟩;rw[show q=j from by have:=HZ.out;omega];exact Pk.out
     case measure=>simp[intOf];omega
    ·obtain⟨i,hij⟩:∃i,j=i+1:=⟨j-1,by omega⟩;have SG:=ah hij;have hi1:(j:Int)-1=(i:Int):=by omega
     have hin:(i:Int)<(n:Int):=by omega
     have HI1:=ah hi1;clear hi1 hij;go_wp2_with fail
     ((with_reducible refine q.mono ?_);rintro e W1 ⟨rfl,b1⟩)
     have hb1:=aA HB.out b1;have HB1:=ah hb1;clear q b1 x0 x1 x2 x3 x4 x5;obtain⟨E2,m2,c2,⟨x0,_,_,_,_,_⟩,_,_⟩:=HT.out.at kG.out hb1;obtain⟨E3,m3,c3,⟨y0,_,_,_,_,_⟩,_,_⟩:=HT.out.at (i:=i) (by have:=kG.out;have:=SG.out;omega) hb1;have hi1:=HI1.out;have hiw:IntKind.i64.wrap (i:Int)=(i:Int):=IntWalk.i64_in _ (by omega);have hi0:(0:Int)≤(i:Int):=by omega
     have dj:decide ((0:Int)<(j:Int))=true:=decide_eq_true (by omega);have ZT:decide (0<j)=true:=decide_eq_true (by omega);have g1:decide ((j:Int)<0)=false:=decide_eq_false (by omega);have g2:decide ((n:Int)≤(j:Int))=false:=decide_eq_false (by omega);have g2n:decide (n≤j)=false:=decide_eq_false (by omega);have g3:decide ((i:Int)<0)=false:=decide_eq_false (by omega);have g4:decide ((n:Int)≤(i:Int))=false:=decide_eq_false (by omega);have g4n:decide (n≤i)=false:=decide_eq_false (by omega);clear hb1 hp
     cases hl:fM (atR t i).key (atR t j).key with
     |true=>
      have lT:Hid (jN (t.take (j+1))):=ahu SG.out gu.out kG.out hl;have e1:Go.Op.bytesLess (atR t j).key.toList (atR t i).key.toList=false:=Vm hl;have e2:((atR t j).key.toList==(atR t i).key.toList)=false:=ED (fun e=>Rz hl e.symm);have e3:(Go.Op.bytesLess (atR t j).key.toList (atR t i).key.toList||((atR t j).key.toList==(atR t i).key.toList))=false:=by rw[e1,e2];rfl
      clear hl e1 e2;go_wp2_with fail;go_quiet (fail);go_wp2_with fail;go_roundw
      case rel=>exact⟨j+1,_,rfl,by omega,by go_num,fun q hq=>by rcases(by omega:q<j∨q=j)with h|rfl;exact sI.out q h;exact Pk.out,lT.out,jL HB1.out _⟩
      case measure=>simp[intOf];omega
     |false=>
      have HE:Hid (R=false):=bA.out fun h=>by have:=F3 h.2.1 (i:=i) (j:=j) (by have:=SG.out;omega) kG.out;rw[hl]at this;cases this
      have e3:(Go.Op.bytesLess (atR t j).key.toList (atR t i).key.toList||((atR t j).key.toList==(atR t i).key.toList))=true:=by
       cases hg:Go.Op.bytesLess (atR t j).key.toList (atR t i).key.toList
       ·rw[EC (RA (by exact hg) hl)];rfl
       ·rfl
      clear hl;go_wp2_with fail;go_quiet (fail);go_wp2_with fail;go_ret;exact⟨by rw[HE.out];rfl,jL HB1.out _⟩
  ·have iw:j=n:=by omega
   subst iw;have htl:t.take j=t:=by rw[List.take_of_length_le];have:=HN.out;omega
   rw[htl]at gu;have hall:∀r∈t,eP 2 r=true:=fun r hr=>by
    obtain⟨q,hq,rfl⟩:=List.getElem_of_mem hr;have:=sI.out q (by have:=HN.out;omega);rw[jw hq]at this;exact this
   by_cases h20:j≤20
   ·have HE:Hid (R=true):=iF.out ⟨hall,gu.out,by have:=HN.out;omega⟩;have apf:(j:Int)≤20:=by omega
    clear hlt htl hall;go_wp2_with fail;go_ret;exact⟨by rw[HE.out];simp,HB.out⟩
   ·have HE:Hid (R=false):=bA.out fun h=>by have:=h.2.2;have:=HN.out;omega
    have apf:¬(j:Int)≤20:=by omega
    clear hlt htl hall;go_wp2_with fail;go_ret;exact⟨by rw[HE.out];simp,HB.out⟩
theorem abo (t u:List au) (A B:Option Addr) (n m cap cap2:Nat) (w:World) (h:gW w A n t) (h2:gW w B m u):
  Calls Tryz.prog 28 #[.slice A n cap,.slice B m cap2] w fun e w'=>e= .returned (.bool (zi t u))∧Below w.heap.size w w':=by
 have jy:=h.2.1;have Ah:=h2.2.1;unfold maxLen at jy Ah;have HN:Hid (n=t.length):=h.1;have HM:Hid (m=u.length):=h2.1;have HT:=ah h;clear h;have HU:=ah h2;clear h2;have bA:Hid (t≠u→zi t u=false):=fun h=>by rw[Bool.eq_false_iff];exact fun e=>h (Jp.1 e)
 have iF:Hid (t=u→zi t u=true):=Jp.2;generalize zi t u=R at*
 by_cases hnm:n=m
 rotate_left
 ·have HE:Hid (R=false):=bA.out fun e=>hnm (by rw[HN.out,HM.out,e]);have e1:((n:Int) != (m:Int))=true:=by simp;omega
  clear hnm;go_enter Tryz.func28,Tryz.ntmps28;go_wp2_with fail;go_ret;exact⟨by rw[HE.out];rfl,Below.refl _ _⟩
 subst hnm;have e1:((n:Int) != (n:Int))=false:=by simp
 go_enter Tryz.func28,Tryz.ntmps28;go_wp2_with fail;go_loopw [5] (fun i wy=>∃(j:Nat) (wr:World),wr=wy∧j≤n∧i= .int .i64 j∧(∀q,q<j→atR t q=atR u q)∧Below w.heap.size w wr) (fun i _=>n-(intOf i).toNat)
 case atStart=>exact⟨0,_,rfl,by omega,rfl,(fun q hq=>by omega),Below.refl _ _⟩
 case round=>
  obtain⟨j,wr,rfl,hj,rfl,hsm,hb⟩:=hrel;have HB:=ah hb;clear hb;have oh:=ah hsm;clear hsm
  by_cases hlt:j<n
  ·have hji:(j:Int)<(n:Int):=by omega
   have hj0:(0:Int)≤(j:Int):=by omega
   have hjl:j<t.length:=by have:=HN.out;omega
   have z_:j<u.length:=by have:=HM.out;omega
   obtain⟨b,off,hA,_⟩:=HT.out.block (by omega);subst hA;obtain⟨b2,off2,hA2,_⟩:=HU.out.block (by omega);subst hA2;obtain⟨E,m1,c,hx,_,hfs⟩:=HT.out.at hjl HB.out;obtain⟨E2,m2,c2,hy,_,mD⟩:=HU.out.at z_ HB.out;have HA:Hid (∀W,Below wr.heap.size wr W→kH W b (off+j*6) (atR t j) (.slice E m1 c)):=fun W hb=>hx.below hb;have HB2:Hid (∀W,Below wr.heap.size wr W→kH W b2 (off2+j*6) (atR u j) (.slice E2 m2 c2)):=fun W hb=>hy.below hb;have qs:=fun W (hb:Below wr.heap.size wr W)=>ar8 (atR t j) (atR u j) E E2 m1 m2 c c2 W (hfs.below hb) (mD.below hb);clear hx hy hfs mD;have HX:Hid (∀b,kM (atR t j) (atR u j)=b→(b=true↔atR t j=atR u j)):=fun b hb=>by rw[←hb];exact abG
   generalize hs:kM (atR t j) (atR u j)=s at qs;have HS:=ah (HX.out s hs);clear hs HX;have kG:=ah (And.intro hjl z_);clear hjl z_
   cases s with
   |true=>
    go_upto_region 6 with fail;refine wp_region_noPanic ?_;refine wp_region_held_drew (S:=fun W=>Below wr.heap.size wr W) (by kernel_rfl) ((Below.refl _ _).drew) (fun hHeld=>?_);refine ay 0 ?_;refine ay 1 ?_;refine ay 2 ?_;refine ay 3 ?_ (hy:=fun w hSw=>by((try dsimp only at hSw);obtain⟨x0,x1,x2,x3,x4,x5⟩:=HA.out _ hSw;go_simp;(try with_reducible rfl)));refine ay 4 ?_;refine ay 5 ?_;refine ay 6 ?_;refine ay 7 ?_ (hy:=fun w hSw=>by((try dsimp only at hSw);obtain⟨y0,y1,y2,y3,y4,y5⟩:=HB2.out _ hSw;go_simp;(try with_reducible rfl)));refine bH 8 fun K hK=>?_;go_simp
    ((with_reducible refine(qs _ hHeld).mono ?_);rintro e w' ⟨rfl,bq⟩)
    refine hK.out _ _ (aA hHeld bq) fun hHeld=>?_;clear hK K;refine ay 9 ?_;refine wpAnyH_done (by kernel_rfl) ?_ _;refine NoPanic.normal ?_;have hbe:=aA HB.out hHeld;have dO:=ah hbe;clear hbe hHeld;go_wp2_with fail;go_roundw
    case rel=>exact⟨j+1,_,rfl,by omega,by go_num,fun q hq=>by rcases(by omega:q<j∨q=j)with h|rfl;exact oh.out q h;exact HS.out.1 rfl,dO.out⟩
    case measure=>simp[intOf];omega
   |false=>
    have HE:Hid (R=false):=bA.out fun e=>by have:=HS.out.2 (by rw[e]);cases this
    go_upto_region 6 with fail;refine wp_region_noPanic ?_;refine wp_region_held_drew (S:=fun W=>Below wr.heap.size wr W) (by kernel_rfl) ((Below.refl _ _).drew) (fun hHeld=>?_);refine ay 0 ?_;refine ay 1 ?_;refine ay 2 ?_;refine ay 3 ?_ (hy:=fun w hSw=>by((try dsimp only at hSw);obtain⟨x0,x1,x2,x3,x4,x5⟩:=HA.out _ hSw;go_simp;(try with_reducible rfl)));refine ay 4 ?_;refine ay 5 ?_;refine ay 6 ?_;refine ay 7 ?_ (hy:=fun w hSw=>by((try dsimp only at hSw);obtain⟨y0,y1,y2,y3,y4,y5⟩:=HB2.out _ hSw;go_simp;(try with_reducible rfl)));refine bH 8 fun K hK=>?_;go_simp
    ((with_reducible refine(qs _ hHeld).mono ?_);rintro e w' ⟨rfl,bq⟩)
    refine hK.out _ _ (aA hHeld bq) fun hHeld=>?_;clear hK K;refine ay 9 ?_;refine wpAnyH_done (by kernel_rfl) ?_ _;refine NoPanic.normal ?_;have hbe:=aA HB.out hHeld;have dO:=ah hbe;clear hbe hHeld;go_wp2_with fail;go_ret;exact⟨by rw[HE.out];rfl,dO.out⟩
  ·have iw:j=n:=by omega
   subst iw;have HE:Hid (R=true):=iF.out (by
    refine List.ext_getElem (by rw[←HN.out,←HM.out]) fun i hi hj2=>?_;have:=oh.out i (by have:=HN.out;omega);rw[jw hi,jw hj2]at this;exact this)
   clear hlt;go_wp2_with fail;go_ret;exact⟨by rw[HE.out];rfl,HB.out⟩
def iP (fs:List aT):List Value:=fs.flatMap fun f=>[Value.int .i64 f.1,.string f.2]
theorem Qg (a b:List aT):iP (a++b)=iP a++iP b:=by simp[iP]
theorem MP (fs:List aT):(iP fs).length=fs.length*2:=by
 induction fs with
 |nil=>rfl
 |cons f fs ih=>rw[show iP (f::fs)=[Value.int .i64 f.1,.string f.2]++iP fs from rfl,List.length_append,ih];simp;omega
theorem ZK (fs:List aT):∀i,i<fs.length→(iP fs)[i*2]? =some (.int .i64 (tg fs i))∧(iP fs)[i*2+1]? =some (.string (dt fs i)):=by
 induction fs with
 |nil=>intro i hi;simp at hi
 |cons f fs ih=>
  intro i hi;rw[show iP (f::fs)=Value.int .i64 f.1:: .string f.2::iP fs from rfl]
  cases i with
  |zero=>exact⟨rfl,rfl⟩
  |succ i=>
   have:=ih i (by simpa using hi);rw[show(i+1)*2=i*2+1+1 by omega];exact⟨by simpa[tg]using this.1,by simpa[dt]using this.2⟩
theorem sV {w:World} {base n:Nat} {v:Value} {fs:List aT} (h:w.ownsRow base 65 2 v n (iP fs)) (hwf:kP fs):
  ∃A cap,v= .slice A n cap∧n≤cap∧dh w A n fs:=by
 have hn:n=fs.length:=by have:=h.1;rw[MP]at this;omega
 rcases h.2 with⟨rfl,rfl⟩|⟨g,cap,cur,rfl,hg,hh,hnc,hcm,hcs,htk⟩
 ·exact⟨none,0,rfl,Nat.le_refl _,hn,by unfold maxLen;omega,hwf,fun h=>by omega⟩
 ·refine⟨_,cap,rfl,hnc,hn,Nat.le_trans hnc hcm,hwf,fun _=>⟨g,0,rfl,fF hh,fun i hi=>?_⟩⟩;obtain⟨e1,e2⟩:=ZK fs i hi;have c1:=h.cellAt (i*2) (by omega);have c2:=h.cellAt (i*2+1) (by omega);rw[e1]at c1;rw[e2]at c2;rw[Nat.zero_add];exact⟨c1,c2⟩
theorem Rq:(Tryz.prog.info? 65).map (fun i=>(i.zero,i.size,i.bytes))=some (some (.agg #[.int .i64 0,.string ⟨#[]⟩]),2,24):=by kernel_rfl
theorem cell_two_new (w:World) (x y:Value) (t:TypeId):∀j u,[x,y][j]? =some u→(w.alloc (.cells #[x,y] t)).cell? ((⟨w.heap.size,0,none⟩:Addr).add j)=some u:=by
 intro j u h;have hx:=World.alloc_heap_new w (.cells #[x,y] t);rcases j with _|_|j
 ·simp at h;subst h;exact bJ hx 0
 ·simp at h;subst h;exact bJ hx 1
 ·simp at h
theorem abB {w:World} {P:Program} (base:Nat) (t ty e:TypeId) (i:TypeInfo) (size:Nat) (ht:P.underlying t=some (.slice e)) (hi:P.info? e=some i)
  (v:Value) (n:Nat) (xs:List Value) (hown:w.ownsRow base e size v n xs) (A:Option Addr) (c:Nat):
  (Builtin.append_ #[t,t] ty #[v,.slice A 0 c]).run P w= .ok v w:=by
 rcases hown.2 with⟨rfl,rfl⟩|⟨g,cap,cur,rfl,_,_,hnc,_⟩
 ·cases A<;>simp[Builtin.append_,run_underlying ht,sizeOf,typeInfo,hi,Builtin.lenOf,Builtin.firstCells,loadCells,loadCellsFrom]
 ·cases A<;>simp[Builtin.append_,run_underlying ht,sizeOf,typeInfo,hi,Builtin.lenOf,Builtin.firstCells,hnc,storeCells,loadCells,loadCellsFrom]
theorem UL {w:World} {b off:Nat} {fs:List aT} (h:acn w b off fs):∀j u,(iP fs)[j]? =some u→w.cell? ((⟨b,off,none⟩:Addr).add j)=some u:=by
 intro j u hj;have hl:j<fs.length*2:=by rw[←MP];exact(List.getElem?_eq_some_iff.1 hj).1
 obtain⟨c1,c2⟩:=h (j / 2) (by omega);obtain⟨d1,d2⟩:=ZK fs (j / 2) (by omega);have e:((⟨b,off,none⟩:Addr).add j)=⟨b,off+j,none⟩:=by
  by_cases h0:j=0
  ·subst h0;simp[Addr.add]
  ·simp[Addr.add,h0]
 rw[e];rcases(by omega:j=j / 2*2∨j=j / 2*2+1)with h2|h2
 ·rw[h2,d1]at hj;rw[h2,c1];exact hj
 ·rw[h2,d2]at hj;rw[h2,show off+(j / 2*2+1)=off+j / 2*2+1 by omega,c2];exact hj
theorem UM (fs:List aT):∀u∈iP fs,u.oneCell'=true:=by
 intro u hu;unfold iP at hu;obtain⟨f,_,hf⟩:=List.mem_flatMap.1 hu;simp at hf;rcases hf with rfl|rfl<;>rfl
theorem aif {w:World} {ops:Array Oper} {rest:List Oper} {o:Oper} {a:Act} {Q:Exit→Act→World→Prop} (hgd:o.guard=none) (s x:Operand)
  (ho:o.op= .call { callee:=.builtin .append,args:=#[s,x],argTypes:=#[66,66] })
  (base:Nat) (v:Value) (fs:List aT) (hs:a.eval s=v) (hown:w.ownsRow base 65 2 v fs.length (iP fs))
  (A:Option Addr) (m c:Nat) (gs:List aT) (hx:a.eval x= .slice A m c) (hf:dh w A m gs)
  (h63:(fs.length+m)*24≤140737488355328) (hbase:base≤w.heap.size)
  (h:∀v' w',w'.ownsRow base 65 2 v' (fs++gs).length (iP (fs++gs))→w.grownBy w' v.ownBlock→wpList Tryz.prog ops Q rest (a.put o.dst v') w'):
  wpList Tryz.prog ops Q (o::rest) a w:=by
 obtain⟨i0,hi,hz0,hz1,hz2⟩:=info_parts Rq;obtain⟨hm,_,_,hat⟩:=hf;rcases Nat.eq_zero_or_pos m with rfl|hp
 ·have hg:gs=[]:=List.eq_nil_of_length_eq_zero hm.symm;subst hg;refine wpList_plain hgd fun K hK=>?_;have hrun:=abB (P:=Tryz.prog) (w:=w) base 66 o.type 65 i0 2 Tryz.underlying66 hi v fs.length _ hown A c;unfold Oper.wp;simp[execOp,ho,resolve,invoke,builtin,hs,hx,hrun,Result.andThen];refine hK _ _ (h v w (by simpa using hown) ?_);exact⟨rfl,rfl,rfl,Nat.le_refl _,fun _ _ _=>rfl⟩
 ·obtain⟨b,off,rfl,hb,hat⟩:=hat hp;refine wpList_append_own_at w hgd s x 66 ho base 65 i0 (.agg #[.int .i64 0,.string ⟨#[]⟩]) 2 24 Tryz.underlying66 hi hz0 hz1 hz2 rfl (by decide) v fs.length _ hs hown ⟨b,off,none⟩ m c (iP gs) hx (by rw[MP,hm]) (UL hat) (UM gs) (by unfold maxLen;omega) h63 hbase ?_;intro v' w' h1 h2 _ _;refine h v' w' ?_ h2;rw[Qg,List.length_append,←hm];exact h1
theorem vE (w:World) (A:Option Addr):dh w A 0 []:=⟨rfl,by unfold maxLen;omega,fun f h=>by simp at h,fun h=>by omega⟩
def kK (p:au×Value):List Value:=[.string p.1.key,.string p.1.value,.int .i64 p.1.rev,.int .i64 p.1.life,.string p.1.note,p.2]
def bV (l:List (au×Value)):List Value:=l.flatMap kK
theorem CJ (a b:List (au×Value)):bV (a++b)=bV a++bV b:=by simp[bV]
theorem Qh (p:au×Value) (b:List (au×Value)):bV (p::b)=kK p++bV b:=by simp[bV]
theorem qy (l:List (au×Value)):(bV l).length=l.length*6:=by
 induction l with
 |nil=>rfl
 |cons p l ih=>rw[Qh,List.length_append,ih];simp[kK];omega
def avb:au×Value:=(dL,.slice none 0 0)
def aK (l:List (au×Value)) (i:Nat):au×Value:=l.getD i avb
theorem sJ {l:List (au×Value)} {i:Nat} (h:i<l.length):aK l i=l[i]:=by unfold aK;rw[List.getD_eq_getElem?_getD,List.getElem?_eq_getElem h];rfl
theorem yM {l:List (au×Value)} {i:Nat} (h:i<l.length):aK l i∈l:=by rw[sJ h];exact List.getElem_mem _
theorem NW {l:List (au×Value)} {k:Nat} (h:k<l.length):l.take (k+1)=l.take k++[aK l k]:=by rw[List.take_succ_eq_append_getElem h,sJ h]
theorem MQ (l:List (au×Value)) (i j:Nat) (hi:i<l.length) (hj:j<6):(bV l)[i*6+j]? =(kK (aK l i))[j]? :=by
 have e:l=l.take i++(aK l i::l.drop (i+1)):=by rw[sJ hi,List.getElem_cons_drop,List.take_append_drop]
 have h2:(bV l)[i*6+j]? =(bV (l.take i)++(kK (aK l i)++bV (l.drop (i+1))))[i*6+j]? :=by
  rw[←Qh,←CJ,←e]
 rw[h2,List.getElem?_append_right (by rw[qy,List.length_take];omega),qy,List.length_take,Nat.min_eq_left (by omega),Nat.add_sub_cancel_left,List.getElem?_append_left (by simp[kK];omega)]
theorem aeE (l:List (au×Value)) (i:Nat) (hi:i<l.length):(bV l)[i*6]? =some (.string (aK l i).1.key)∧(bV l)[i*6+1]? =some (.string (aK l i).1.value)∧(bV l)[i*6+2]? =some (.int .i64 (aK l i).1.rev)∧(bV l)[i*6+3]? =some (.int .i64 (aK l i).1.life)∧(bV l)[i*6+4]? =some (.string (aK l i).1.note)∧(bV l)[i*6+5]? =some (aK l i).2:=
 ⟨MQ l i 0 hi (by omega),MQ l i 1 hi (by omega),MQ l i 2 hi (by omega),MQ l i 3 hi (by omega),MQ l i 4 hi (by omega),MQ l i 5 hi (by omega)⟩
def wm (l:List (au×Value)):Prop:=∀p∈l,∃E m c,p.2= .slice E m c
theorem Qi {l:List (au×Value)} (h:wm l):∀u∈bV l,u.oneCell'=true:=by
 intro u hu;unfold bV at hu;obtain⟨p,hp,hm⟩:=List.mem_flatMap.1 hu;obtain⟨E,m,c,e⟩:=h p hp;simp[kK]at hm;rcases hm with rfl|rfl|rfl|rfl|rfl|rfl<;>first|rfl|(rw[e];rfl)
def bf (w:World) (base:Nat) (v:Value) (l:List (au×Value)):Prop:=w.ownsRow base 68 6 v l.length (bV l)
theorem R5 (w:World) (base:Nat):bf w base (.slice none 0 0) []:=World.ownsRow_nil _ _ _ _
theorem bf.below {w w':World} {base:Nat} {v:Value} {l:List (au×Value)} (h:bf w base v l) (hb:Below w.heap.size w w'):bf w' base v l:=Vv h hb
theorem bf.drew {w:World} {base:Nat} {v:Value} {l:List (au×Value)} (h:bf w base v l):bf w.drew base v l:=h
theorem bf.base {w:World} {a b:Nat} {v:Value} {l:List (au×Value)} (h:b≤a) (hr:bf w a v l):bf w b v l:=by
 refine⟨hr.1,?_⟩;rcases hr.2 with h2|⟨g,cap,cur,h1,h2,h3⟩
 ·exact .inl h2
 ·exact .inr ⟨g,cap,cur,h1,Nat.le_trans h h2,h3⟩
theorem bf.new {w:World} {base n cap:Nat} {A:Option Addr} {l:List (au×Value)} (h:bf w base (.slice A n cap) l):Fh base A n:=fun _ b off hA=>by
 subst hA;exact(h.lt b rfl).1
def PX (w:World) (b o:Nat) (p:au×Value):Prop:=kH w b o p.1 p.2
def uV (w:World) (A:Option Addr) (n:Nat) (l:List (au×Value)):Prop:=
 n=l.length∧n≤maxLen∧(0<n→∃b off,A=some ⟨b,off,none⟩∧b<w.heap.size∧∀i,i<l.length→PX w b (off+i*6) (aK l i))
theorem uV.below {w w':World} {A:Option Addr} {n:Nat} {l:List (au×Value)} (h:uV w A n l) (hb:Below w.heap.size w w'):uV w' A n l:=by
 obtain⟨h1,h2,h3⟩:=h;refine⟨h1,h2,fun hn=>?_⟩;obtain⟨b,off,e,hlt,hc⟩:=h3 hn;exact⟨b,off,e,Nat.lt_of_lt_of_le hlt hb.size,fun i hi=>kH.below (hc i hi) hb⟩
theorem uV.at {w W:World} {b off n i:Nat} {l:List (au×Value)} (h:uV w (some ⟨b,off,none⟩) n l) (hi:i<l.length) (hb:Below w.heap.size w W):PX W b (off+i*6) (aK l i):=by
 have h2:=h.below hb;obtain⟨b2,o2,hA,hlt,hc⟩:=h2.2.2 (by have:=h.1;omega);simp only[Option.some.injEq,Addr.mk.injEq,and_true]at hA;obtain⟨rfl,rfl⟩:=hA;exact hc i hi
theorem bf.parts {w:World} {base:Nat} {v:Value} {l:List (au×Value)} (h:bf w base v l):∃A cap,v= .slice A l.length cap∧l.length≤cap∧uV w A l.length l:=by
 rcases h.2 with⟨rfl,hv⟩|⟨g,cap,cur,hv,hg,hh,hnc,hcm,hcs,htk⟩
 ·have:l.length=0:=by omega
  exact⟨none,0,by simp_all,by omega,rfl,by unfold maxLen;omega,fun h=>by omega⟩
 ·subst hv;refine⟨_,cap,rfl,hnc,rfl,Nat.le_trans hnc hcm,fun _=>⟨g,0,rfl,fF hh,fun i hi=>?_⟩⟩;obtain⟨e0,e1,e2,e3,e4,e5⟩:=aeE l i hi;rw[Nat.zero_add];exact⟨(h.cellAt (i*6) (by omega)).trans e0,(h.cellAt (i*6+1) (by omega)).trans e1,(h.cellAt (i*6+2) (by omega)).trans e2,(h.cellAt (i*6+3) (by omega)).trans e3,(h.cellAt (i*6+4) (by omega)).trans e4,(h.cellAt (i*6+5) (by omega)).trans e5⟩
def Gc (w:World) (E:Option Addr) (m:Nat):Prop:=0<m→∃b off cs fr,E=some ⟨b,off,none⟩∧w.heap[b]? =some (.cells cs 65 fr)
def oQ (w:World) (p:au×Value):Prop:=∃E m c,p.2= .slice E m c∧m≤c∧dh w E m p.1.extra∧Gc w E m
def fK (w:World) (l:List (au×Value)):Prop:=∀p∈l,om p.1∧oQ w p
theorem fK.sl {w:World} {l:List (au×Value)} (h:fK w l):wm l:=fun p hp=>by
 obtain⟨_,E,m,c,e,_⟩:=h p hp;exact⟨E,m,c,e⟩
theorem fK.nil (w:World):fK w []:=fun p h=>nomatch h
theorem fK.append {w:World} {a b:List (au×Value)} (h:fK w a) (h2:fK w b):fK w (a++b):=fun p hp=>by
 rcases List.mem_append.1 hp with h3|h3
 ·exact h p h3
 ·exact h2 p h3
theorem fK.one {w:World} {p:au×Value} (h:om p.1) (h2:oQ w p):fK w [p]:=fun x hx=>by rw[List.mem_singleton]at hx;rw[hx];exact⟨h,h2⟩
theorem Gc.below {w w':World} {E:Option Addr} {m:Nat} (h:Gc w E m) (hb:Below w.heap.size w w'):Gc w' E m:=fun hm=>by
 obtain⟨b,off,cs,fr,e,hh⟩:=h hm;exact⟨b,off,cs,fr,e,(hb.block b (fF hh)).trans hh⟩
theorem oQ.below {w w':World} {p:au×Value} (h:oQ w p) (hb:Below w.heap.size w w'):oQ w' p:=by
 obtain⟨E,m,c,e,hc,hf,ht⟩:=h;exact⟨E,m,c,e,hc,hf.below hb,ht.below hb⟩
theorem fK.below {w w':World} {l:List (au×Value)} (h:fK w l) (hb:Below w.heap.size w w'):fK w' l:=fun p hp=>⟨(h p hp).1,(h p hp).2.below hb⟩
theorem fK.drew {w:World} {l:List (au×Value)} (h:fK w l):fK w.drew l:=h
theorem oQ.nS {w w':World} {p:au×Value} {row:Option Nat} (h:oQ w p) (hg:w.grownBy w' row) (hr:∀g,row=some g→∃cs T fr,w.heap[g]? =some (.cells cs T fr)∧T≠65):oQ w' p:=by
 obtain⟨E,m,c,e,hc,hf,ht⟩:=h;have key:0<m→∀b off,E=some ⟨b,off,none⟩→w'.heap[b]? =w.heap[b]?∧b<w'.heap.size∧∃cs fr,w.heap[b]? =some (.cells cs 65 fr):=fun hm b off e2=>by
  obtain⟨b2,o2,cs,fr,e3,hh⟩:=ht hm;rw[e2]at e3;simp only[Option.some.injEq,Addr.mk.injEq,and_true]at e3;obtain⟨rfl,rfl⟩:=e3;have hne:some b≠row:=fun e4=>by
   obtain⟨cs2,T2,zR,h2,hT⟩:=hr b e4.symm;rw[hh]at h2;simp only[Option.some.injEq,Obj.cells.injEq]at h2;exact hT h2.2.1.symm
  exact⟨hg.block b (fF hh) hne,Nat.lt_of_lt_of_le (fF hh) hg.size,cs,fr,hh⟩
 refine⟨E,m,c,e,hc,?_,fun hm=>?_⟩
 ·obtain⟨h1,h2,h3,h4⟩:=hf;refine⟨h1,h2,h3,fun hm=>?_⟩;obtain⟨b,off,e2,hlt,hat⟩:=h4 hm;obtain⟨hk,hl,_⟩:=key hm b off e2;refine⟨b,off,e2,hl,fun i hi=>?_⟩;have hkc:∀i,w'.cell? ⟨b,i,none⟩=w.cell? ⟨b,i,none⟩:=fun i=>by
   unfold World.cell?;rw[show(⟨b,i,none⟩:Addr).block=b from rfl,hk]
  rw[hkc,hkc];exact hat i hi
 ·obtain⟨b,off,cs,fr,e2,hh⟩:=ht hm;exact⟨b,off,cs,fr,e2,(key hm b off e2).1.trans hh⟩
theorem oQ.kept {w w':World} {p:au×Value} {row:Option Nat} (h:oQ w p) (hg:w.grownBy w' row) (hr:∀g,row=some g→∃cs fr,w.heap[g]? =some (.cells cs 68 fr)):oQ w' p:=
 h.nS hg fun g e=>by obtain⟨cs,fr,h2⟩:=hr g e;exact⟨cs,_,fr,h2,by decide⟩
theorem fK.nS {w w':World} {l:List (au×Value)} {row:Option Nat} (h:fK w l) (hg:w.grownBy w' row) (hr:∀g,row=some g→∃cs T fr,w.heap[g]? =some (.cells cs T fr)∧T≠65):fK w' l:=fun p hp=>⟨(h p hp).1,(h p hp).2.nS hg hr⟩
theorem fK.kept {w w':World} {l:List (au×Value)} {row:Option Nat} (h:fK w l) (hg:w.grownBy w' row) (hr:∀g,row=some g→∃cs fr,w.heap[g]? =some (.cells cs 68 fr)):fK w' l:=fun p hp=>⟨(h p hp).1,(h p hp).2.kept hg hr⟩
theorem bf.block {w:World} {base:Nat} {v:Value} {l:List (au×Value)} (h:bf w base v l):∀g,v.ownBlock=some g→∃cs fr,w.heap[g]? =some (.cells cs 68 fr):=by
 intro g hg;rcases h.2 with⟨rfl,_⟩|⟨g2,cap,cur,rfl,_,hh,_⟩
 ·simp[Value.ownBlock]at hg
 ·have:g2=g:=by simpa[Value.ownBlock]using hg
  subst this;exact⟨_,_,hh⟩
theorem Cz (l:List (au×Value)) {i:Nat} (h:i<l.length):(aK l i).1=atR (l.map Prod.fst) i:=by
 rw[sJ h,jw (by simpa using h),List.getElem_map]
theorem bf.BF {w:World} {base:Nat} {v:Value} {l:List (au×Value)} (h:bf w base v l) (hx:fK w l):
  ∃A cap,v= .slice A l.length cap∧l.length≤cap∧gW w A l.length (l.map Prod.fst):=by
 obtain⟨A,cap,hv,hc,h1,h2,h3⟩:=h.parts;refine⟨A,cap,hv,hc,by simp,h2,fun r hr=>?_,fun hn=>?_⟩
 ·obtain⟨p,hp,rfl⟩:=List.mem_map.1 hr;exact(hx p hp).1
 ·obtain⟨b,off,e,hlt,hat⟩:=h3 hn;refine⟨b,off,e,hlt,fun i hi=>?_⟩;have hi2:i<l.length:=by simpa using hi
  obtain⟨E,m,c,e2,hmc,hf,_⟩:=(hx _ (yM hi2)).2;have:=hat i hi2;unfold PX at this;rw[e2,Cz l hi2]at this;rw[Cz l hi2]at hf;exact⟨E,m,c,this,hmc,hf⟩
theorem KS:(Tryz.prog.info? 68).map (fun i=>(i.zero,i.size,i.bytes))=some (some (.agg z6),6,88):=by kernel_rfl
theorem addr_add (b off j:Nat):(⟨b,off,none⟩:Addr).add j=⟨b,off+j,none⟩:=by
 by_cases h0:j=0
 ·subst h0;simp[Addr.add]
 ·simp[Addr.add,h0]
theorem abg {w:World} {b off:Nat} {l:List (au×Value)} (h:∀i,i<l.length→PX w b (off+i*6) (aK l i)):∀j u,(bV l)[j]? =some u→w.cell? ((⟨b,off,none⟩:Addr).add j)=some u:=by
 intro j u hj;have hl:j<l.length*6:=by rw[←qy];exact(List.getElem?_eq_some_iff.1 hj).1
 obtain⟨c0,c1,c2,c3,c4,c5⟩:=h (j / 6) (by omega);obtain⟨d0,d1,d2,d3,d4,d5⟩:=aeE l (j / 6) (by omega);rw[addr_add];rcases(by omega:j=j / 6*6∨j=j / 6*6+1∨j=j / 6*6+2∨j=j / 6*6+3∨j=j / 6*6+4∨j=j / 6*6+5)with h2|h2|h2|h2|h2|h2
 ·rw[h2,d0]at hj;rw[h2,c0];exact hj
 ·rw[h2,d1]at hj;rw[h2,show off+(j / 6*6+1)=off+j / 6*6+1 by omega,c1];exact hj
 ·rw[h2,d2]at hj;rw[h2,show off+(j / 6*6+2)=off+j / 6*6+2 by omega,c2];exact hj
 ·rw[h2,d3]at hj;rw[h2,show off+(j / 6*6+3)=off+j / 6*6+3 by omega,c3];exact hj
 ·rw[h2,d4]at hj;rw[h2,show off+(j / 6*6+4)=off+j / 6*6+4 by omega,c4];exact hj
 ·rw[h2,d5]at hj;rw[h2,show off+(j / 6*6+5)=off+j / 6*6+5 by omega,c5];exact hj
theorem Jv {w:World} {ops:Array Oper} {rest:List Oper} {o:Oper} {a:Act} {Q:Exit→Act→World→Prop} (hgd:o.guard=none) (s x:Operand)
  (ho:o.op= .call { callee:=.builtin .append,args:=#[s,x],argTypes:=#[23,23] })
  (base:Nat) (v:Value) (l:List (au×Value)) (hs:a.eval s=v) (hown:bf w base v l)
  (A:Option Addr) (m c:Nat) (k:List (au×Value)) (hx:a.eval x= .slice A m c) (hf:uV w A m k) (hk1:wm k)
  (h63:(l.length+m)*88≤140737488355328) (hbase:base≤w.heap.size)
  (h:∀v' w',bf w' base v' (l++k)→w.grownBy w' v.ownBlock→wpList Tryz.prog ops Q rest (a.put o.dst v') w'):
  wpList Tryz.prog ops Q (o::rest) a w:=by
 obtain⟨i0,hi,hz0,hz1,hz2⟩:=info_parts KS;obtain⟨hm,_,hat⟩:=hf;rcases Nat.eq_zero_or_pos m with rfl|hp
 ·have hg:k=[]:=List.eq_nil_of_length_eq_zero hm.symm;subst hg;refine wpList_plain hgd fun K hK=>?_;have hrun:=VT (P:=Tryz.prog) (w:=w) base 23 o.type 68 i0 6 Tryz.underlying23 hi v l.length _ hown A c;unfold Oper.wp;simp[execOp,ho,resolve,invoke,builtin,hs,hx,hrun,Result.andThen];refine hK _ _ (h v w (by simpa using hown) ?_);exact⟨rfl,rfl,rfl,Nat.le_refl _,fun _ _ _=>rfl⟩
 ·obtain⟨b,off,rfl,hb,hat⟩:=hat hp;refine wpList_append_own_at w hgd s x 23 ho base 68 i0 (.agg z6) 6 88 Tryz.underlying23 hi hz0 hz1 hz2 rfl (by decide) v l.length _ hs hown ⟨b,off,none⟩ m c (bV k) hx (by rw[qy,hm]) (abg hat) (Qi hk1) (by unfold maxLen;omega) h63 hbase ?_;intro v' w' h1 h2 _ _;refine h v' w' ?_ h2;unfold bf;rw[CJ,List.length_append,←hm];exact h1
theorem KT (w:World) (p:au×Value):uV (w.alloc (.cells (aC p.1 p.2) 68)) (some ⟨w.heap.size,0,none⟩) 1 [p]:=by
 have hx:=World.alloc_heap_new w (.cells (aC p.1 p.2) 68);refine⟨rfl,by unfold maxLen;omega,fun _=>⟨w.heap.size,0,rfl,by simp,fun i hi=>?_⟩⟩;have:i=0:=by simpa using hi
 subst this;exact⟨bJ hx 0,bJ hx 1,bJ hx 2,bJ hx 3,bJ hx 4,bJ hx 5⟩
theorem am7 (l:List (au×Value)) (i j:Nat) (u:Value) (q:au×Value) (hi:i<l.length) (hj:j<6) (hq:kK q=(kK (aK l i)).set j u):(bV l).set (i*6+j) u=bV (l.set i q):=by
 have e:l=l.take i++(aK l i::l.drop (i+1)):=by rw[sJ hi,List.getElem_cons_drop,List.take_append_drop]
 have hl:(l.take i).length=i:=by rw[List.length_take];omega
 have e2:l.set i q=l.take i++(q::l.drop (i+1)):=by rw[List.set_eq_take_append_cons_drop,if_pos hi]
 have h2:(bV l).set (i*6+j) u=(bV (l.take i)++(kK (aK l i)++bV (l.drop (i+1)))).set (i*6+j) u:=by
  rw[←Qh,←CJ,←e]
 rw[h2,List.set_append_right _ _ (by rw[qy,hl];omega),qy,hl,Nat.add_sub_cancel_left,List.set_append_left _ _ (by simp[kK];omega),←hq,←Qh,←CJ,←e2]
theorem bf.set {w:World} {base g n cap:Nat} {l:List (au×Value)} (h:bf w base (.slice (some ⟨g,0,none⟩) n cap) l) (i j:Nat) (u:Value) (q:au×Value) (hi:i<l.length) (hj:j<6) (hq:kK q=(kK (aK l i)).set j u):
  bf (w.setCell ⟨g,i*6+j,none⟩ u) base (.slice (some ⟨g,0,none⟩) n cap) (l.set i q)∧w.grownBy (w.setCell ⟨g,i*6+j,none⟩ u) (some g):=by
 have hn:n=l.length:=by
  rcases h.2 with⟨h',_⟩|⟨g',cap',cur,h',_⟩
  ·simp at h'
  ·simp only[Value.slice.injEq]at h';exact h'.2.1
 subst hn;obtain⟨h1,h2⟩:=World.ownsRow.stored h (i*6+j) u;refine⟨?_,h2⟩;unfold bf;rw[List.length_set,←am7 l i j u q hi hj hq];exact h1
theorem rG (w:World) (g j:Nat) (u:Value):w.grownBy (w.setCell ⟨g,j,none⟩ u) (some g):=
 ⟨rfl,rfl,rfl,by simp,fun k _ hk=>heap_setCell_other w ⟨g,j,none⟩ k u (fun e=>hk (by simp[e]))⟩
theorem agQ {w:World} {base n cap:Nat} {A:Option Addr} {xs:List Value} (h:w.ownsRow base 65 2 (.slice A n cap) n xs):Gc w A n:=fun hn=>by
 rcases h.2 with⟨h1,h2⟩|⟨g,cap2,cur,h1,_,hh,_⟩
 ·omega
 ·simp only[Value.slice.injEq]at h1;exact⟨g,0,cur,_,h1.1,hh⟩
def PW (w:World) (t:List au) (e:Ending) (w':World):Prop:=
 ∃v l,e= .returned v∧bf w' w.heap.size v l∧l.map Prod.fst=t∧fK w' l∧Below w.heap.size w w'
theorem amw {w w':World} (hg:w.grownBy w' (Value.slice none 0 0).ownBlock):Below w.heap.size w w':=(Below.refl _ _).grown hg (Nat.le_refl _) (fun g h=>by simp[Value.ownBlock]at h)
theorem asc (t:List au) (A:Option Addr) (n cap:Nat) (w:World) (h:gW w A n t) (Qw:n*88≤140737488351232):
  Calls Tryz.prog 63 #[.slice A n cap] w (PW w t):=by
 have HN:Hid (n=t.length):=h.1;have HT:=ah h;clear h;go_enter Tryz.func63,Tryz.ntmps63;go_wp2_with fail;go_loopw [3,4] (fun v i wy=>∃(k:Nat) (wr:World) (l:List (au×Value)),wr=wy∧k≤n∧i= .int .i64 k∧bf wr w.heap.size v l∧l.map Prod.fst=t.take k∧fK wr l∧Below w.heap.size w wr) (fun _ i _=>n-(intOf i).toNat)
 case atStart=>exact⟨0,_,[],rfl,by omega,rfl,R5 _ _,by simp,fK.nil _,Below.refl _ _⟩
 case round=>
  obtain⟨k,wr,l,rfl,hk,rfl,hrow,hl,hex,hb⟩:=hrel;have eY:=ah hrow;obtain⟨Av,cv,hv,hcv,hps⟩:=hrow.parts;have gN:=ah hl;clear hl;have HLEN:Hid (l.length=k):=by have:=congrArg List.length gN.out;rw[List.length_map,List.length_take]at this;show _=_;have:=HN.out;omega
  have qL:=ah hex;clear hex;have HB:=ah hb;clear hb;subst hv;clear hps hrow
  by_cases hlt:k<n
  ·have HK:Hid (k<t.length):=by have:=HN.out;show k<t.length;omega
   obtain⟨b,off,hA,hbb⟩:=HT.out.block (by omega);subst hA;have hki:(k:Int)<(n:Int):=by omega
   have hk0:(0:Int)≤(k:Int):=by omega
   have Mi:=ah (HT.out.below HB.out);obtain⟨E,m,c,hx,hmc,hfs⟩:=Mi.out.at HK.out (Below.refl _ wr);have HXW:Hid (om (atR t k)):=Mi.out.2.2.1 _ (sK HK.out);have YH:Hid (t.take (k+1)=t.take k++[atR t k]):=NY HK.out;have hbw:Below wr.heap.size wr (wr.alloc (.cells (aC (atR t k) (.slice E m c)) 68)):=ak _ _;have hrb:=aj.new wr (.cells (aC (atR t k) (.slice E m c)) 68);have hsz:(wr.alloc (.cells (aC (atR t k) (.slice E m c)) 68)).heap.size=wr.heap.size+1:=by simp
   generalize atR t k=r at*;obtain⟨W1,hW1⟩:=aQ (wr.alloc (.cells (aC r (.slice E m c)) 68));rw[hW1]at hbw hrb hsz;have hx1:=hx.below hbw;have lu:=ah hsz;clear hsz;have HB1:=ah (aA HB.out hbw);have aaq:=hfs.below hbw;obtain⟨x0,x1,x2,x3,x4,x5⟩:=hx;obtain⟨y0,y1,y2,y3,y4,y5⟩:=hx1;have mQ:=ah hrb;clear hrb;have bU:=ah hbw;clear hbw;have M0:m*24≤140737488351232:=by have h1:=HXW.out.2.2.2;have h2:=hfs.1;rw[←h2]at h1;exact h1
   have WS:=ah M0;clear M0 hfs;go_wp2_with (at_builtin;refine aif rfl _ _ rfl w.heap.size _ [] rfl (World.ownsRow_nil _ _ _ _) E m c r.extra rfl aaq (by have:=WS.out;simp;omega) (by first|exact HB1.out.size|exact HB1.out.drew.size) ?_);intro v2 W2 hrow2 hgrow2;obtain⟨A2,cap2,hv2,hcap2,mD⟩:=sV hrow2 aaq.2.2.1;subst hv2;have vg:=agQ hrow2;have hb2:Below W1.heap.size W1 W2:=amw hgrow2;clear hrow2 hgrow2 x0 x1 x2 x3 x4 x5 y0 y1 y2 y3 y4 y5;generalize r.extra.length=m2 at*;have HB2:=ah (aA HB1.out hb2);have wV:=ah (aA bU.out hb2);have yR:=aj.below mQ.out hb2;have hx2:oQ W2 (r,.slice A2 m2 cap2):=⟨A2,m2,cap2,rfl,hcap2,mD,vg⟩;have vB:=aj.set yR 5 (.slice A2 m2 cap2) (aC r (.slice A2 m2 cap2)) rfl;have hx3:=hx2.kept (rG W2 wr.heap.size 5 (.slice A2 m2 cap2)) (fun g hg=>by cases hg;exact⟨_,_,yR⟩);have HB3:=ah (HB2.out.setCell (p:=⟨wr.heap.size,5,none⟩) HB.out.size (.slice A2 m2 cap2));have acv:=ah (wV.out.setCell (p:=⟨wr.heap.size,5,none⟩) (Nat.le_refl _) (.slice A2 m2 cap2));have y5:=aj.cell yR 5;have g5:=aj.frozen yR 5;obtain⟨W3,hW3⟩:=aQ (W2.setCell ⟨wr.heap.size,5,none⟩ (.slice A2 m2 cap2));rw[hW3]at vB hx3 HB3 acv;have z0:=aj.cell vB 0;have z1:=aj.cell vB 1;have z2:=aj.cell vB 2;have z3:=aj.cell vB 3;have z4:=aj.cell vB 4;have z5:=aj.cell vB 5;simp only[aM]at y5 z0 z1 z2 z3 z4 z5;have hb4:Below W3.heap.size W3 (W3.alloc (.cells (aC r (.slice A2 m2 cap2)) 68)):=ak _ _;have U6:=KT W3 (r,.slice A2 m2 cap2);simp only at U6;have hx4:=hx3.below hb4;have cB:=ah (aA HB3.out hb4);have Xf:=ah (aA acv.out hb4);clear hx2 hx3 yR vB hb2 hb4 aaq vg mD;obtain⟨W4,sQ⟩:=aQ (W3.alloc (.cells (aC r (.slice A2 m2 cap2)) 68));rw[sQ]at U6 hx4 cB Xf;have hrow4:=eY.out.below Xf.out;have aiK:Hid (fK W4 (l++[(r,.slice A2 m2 cap2)])):=(qL.out.below Xf.out).append (fK.one HXW.out hx4);have HSL:Hid (wm [(r,Value.slice A2 m2 cap2)]):=fun p hp=>by rw[List.mem_singleton]at hp;rw[hp];exact⟨_,_,_,rfl⟩
   clear hx4;go_wp2_with (at_builtin;refine Jv rfl _ _ rfl w.heap.size _ l rfl hrow4 (some ⟨W3.heap.size,0,none⟩) 1 1 [(r,.slice A2 m2 cap2)] rfl U6 HSL.out (by have:=HLEN.out;omega) cB.out.size ?_);intro v5 W5 M9 aat;have aiL:=ah (aiK.out.kept aat hrow4.block);have M7:=hrow4.lt;have eH:Hid (Below w.heap.size w W5):=cB.out.grown aat cB.out.size (fun g hg=>(M7 g hg).1);have He:=ah M9;clear M9 aat hrow4 U6 M7;go_wp2_with fail;go_roundw
   case rel=>exact⟨k+1,_,l++[(r,.slice A2 m2 cap2)],rfl,by omega,by go_num,He.out,by rw[List.map_append,gN.out,YH.out];rfl,aiL.out,eH.out⟩
   case measure=>simp[intOf];omega
  ·have hke:k=n:=by omega
   have HL2:Hid (l.map Prod.fst=t):=by show _=_;rw[gN.out,hke,HN.out,List.take_length]
   have HR:=eY;have hki:¬((k:Int)<(n:Int)):=by omega
   clear hlt hke;go_wp2_with fail;go_ret;exact⟨_,l,rfl,HR.out,HL2.out,qL.out,HB.out⟩
def oP:List (au×Value)→au×Value→List (au×Value)
 |[],q=>[q]
 |x::l,q=>if fM q.1.key x.1.key then q::x::l else x::oP l q
theorem apY (l:List (au×Value)) (q:au×Value):(oP l q).map Prod.fst=uw (l.map Prod.fst) q.1:=by
 induction l with
 |nil=>rfl
 |cons x l ih=>unfold oP uw;rw[List.map_cons];simp only;split<;>simp[ih]
theorem apZ {l:List (au×Value)} {q x:au×Value} (h:x∈oP l q):x=q∨x∈l:=by
 induction l with
 |nil=>simpa[oP]using h
 |cons y l ih=>
  unfold oP at h;split at h
  ·simpa using h
  ·rcases List.mem_cons.1 h with h|h
   ·exact .inr (by rw[h];exact List.mem_cons_self ..)
   ·rcases ih h with h|h
    ·exact .inl h
    ·exact .inr (List.mem_cons_of_mem _ h)
theorem apX (l:List (au×Value)) (q:au×Value):(oP l q).length=l.length+1:=by
 induction l with
 |nil=>rfl
 |cons x l ih=>unfold oP;split<;>simp[ih]
def mh (l:List (au×Value)) (q:au×Value):Bool:=l.any fun p=>fM q.1.key p.1.key
def kN (l:List (au×Value)) (q:au×Value) (k:Nat):List (au×Value):=if mh (l.take k) q then oP (l.take k) q else l.take k
theorem agd {a:List (au×Value)} {q:au×Value} (h:mh a q=false) (b:List (au×Value)):oP (a++b) q=a++oP b q:=by
 induction a with
 |nil=>rfl
 |cons x a ih=>
  unfold mh at h;rw[List.any_cons,Bool.or_eq_false_iff]at h;rw[List.cons_append,oP,if_neg (by rw[h.1];simp),ih h.2];rfl
theorem ap0 {a:List (au×Value)} {q:au×Value} (h:mh a q=true) (b:List (au×Value)):oP (a++b) q=oP a q++b:=by
 induction a with
 |nil=>cases h
 |cons x a ih=>
  unfold mh at h;rw[List.any_cons,Bool.or_eq_true]at h;rw[List.cons_append,oP,oP]
  by_cases hx:fM q.1.key x.1.key=true
  ·rw[if_pos hx,if_pos hx];rfl
  ·rw[if_neg hx,if_neg hx,ih (h.resolve_left hx)];rfl
theorem aah (a:List (au×Value)) (q x:au×Value):mh (a++[x]) q=(mh a q||fM q.1.key x.1.key):=by simp[mh]
theorem atI {l:List (au×Value)} {q:au×Value} {k:Nat} (hk:k<l.length) (h:mh (l.take k) q=true):kN l q (k+1)=kN l q k++[aK l k]∧mh (l.take (k+1)) q=true:=by
 have e:mh (l.take (k+1)) q=true:=by rw[NW hk,aah,h];rfl
 refine⟨?_,e⟩;unfold kN;rw[if_pos e,if_pos h,NW hk,ap0 h]
theorem atL {l:List (au×Value)} {q:au×Value} {k:Nat} (hk:k<l.length) (h:mh (l.take k) q=false) (hl:fM q.1.key (aK l k).1.key=true):kN l q (k+1)=kN l q k++[q]++[aK l k]∧mh (l.take (k+1)) q=true:=by
 have e:mh (l.take (k+1)) q=true:=by rw[NW hk,aah,hl];simp
 refine⟨?_,e⟩;unfold kN;rw[if_pos e,if_neg (by rw[h];simp),NW hk,agd h];simp[oP,hl]
theorem atK {l:List (au×Value)} {q:au×Value} {k:Nat} (hk:k<l.length) (h:mh (l.take k) q=false) (hl:fM q.1.key (aK l k).1.key=false):kN l q (k+1)=kN l q k++[aK l k]∧mh (l.take (k+1)) q=false:=by
 have e:mh (l.take (k+1)) q=false:=by rw[NW hk,aah,h,hl];rfl
 refine⟨?_,e⟩;unfold kN;rw[if_neg (by rw[e];simp),if_neg (by rw[h];simp),NW hk]
theorem atJ {l:List (au×Value)} {q:au×Value} {k:Nat} (hk:k=l.length):oP l q=if mh (l.take k) q then kN l q k else kN l q k++[q]:=by
 subst hk;unfold kN;rw[List.take_length]
 cases h:mh l q with
 |true=>simp
 |false=>
  have:=agd h [];rw[List.append_nil]at this;simpa[oP]using this
theorem asa (x:Nat) (w:World):Calls Tryz.prog 65 #[.int .i64 x] w fun e w'=>e= .returned (bX (gK x) (.slice none 0 0))∧Below w.heap.size w w':=by
 have hb:=aj.new w (.cells (bR x (.slice none 0 0)) 43);obtain⟨z0,z1,z2,z3⟩:=aY hb;clear hb;go_enter Tryz.func65,Tryz.ntmps65;go_wp2_with fail;refine bodyPost_ret (v:=.agg (bR x (.slice none 0 0))) (by simp[results,Tryz.results65,go_sem,z0,z1,z2,z3]) rfl ⟨rfl,(Below.refl _ _).alloc (Nat.le_refl _) _⟩
theorem Nv (x:Nat) (z:Int) (e:z=x) (w:World):Calls Tryz.prog 65 #[.int .i64 z] w fun e w'=>e= .returned (.agg #[.int .i64 z,.int .i64 0,.string ByteArray.empty,.slice none 0 0])∧Below w.heap.size w w':=by
 subst e;exact asa x w
theorem asi (l:List (au×Value)) (q:au×Value) (A:Option Addr) (n cap:Nat) (w:World) (h:uV w A n l) (hs:wm l) (hq:wm [q]) (Qw:n*88≤140737488351232):
  Calls Tryz.prog 112 #[.slice A n cap,iL q.1 q.2] w fun e w'=>∃v,e= .returned v∧bf w' w.heap.size v (oP l q)∧Below w.heap.size w w':=by
 have HN:Hid (n=l.length):=h.1;have HT:=ah h;clear h;have HSq:=ah hq;clear hq;have HSL:=ah hs;clear hs;have hb0:Below w.heap.size w (w.alloc (.cells (aC q.1 q.2) 68)):=ak _ _;have hq0:=aj.new w (.cells (aC q.1 q.2) 68);obtain⟨W0,hW0⟩:=aQ (w.alloc (.cells (aC q.1 q.2) 68));rw[hW0]at hb0 hq0;have HB0:=ah hb0;clear hb0;have tZ:=ah hq0;clear hq0;go_enter Tryz.func112,Tryz.ntmps112;go_wp2_with fail;clear hW0;obtain⟨B,hB⟩:∃B,w.heap.size=B:=⟨_,rfl⟩;have dO:=ah hB;rw[hB]at tZ ⊢;clear hB;go_loopw [5,6,7] (fun v d i wy=>∃(k:Nat) (wr:World),wr=wy∧k≤n∧i= .int .i64 k∧d= .bool (mh (l.take k) q)∧bf wr (B+1) v (kN l q k)∧aj wr B (.cells (aC q.1 q.2) 68 (0,0))∧Below w.heap.size w wr) (fun _ _ i _=>n-(intOf i).toNat)
 case atStart=>exact⟨0,_,rfl,by omega,rfl,rfl,R5 _ _,tZ.out,HB0.out⟩
 case round=>
  clear HB0 tZ;obtain⟨k,wr,rfl,hk,rfl,rfl,hrow,Q8,hb⟩:=hrel;have eY:=ah hrow;obtain⟨Av,cv,hv,hcv,hps⟩:=hrow.parts;subst hv;clear hps hrow;have HQ:=ah Q8;clear Q8;have HB:=ah hb;clear hb;have HLEN:Hid ((kN l q k).length≤k+1):=by
   show _≤_;unfold kN;split
   ·rw[apX,List.length_take];omega
   ·rw[List.length_take];omega
  by_cases hlt:k<n
  ·have HK:Hid (k<l.length):=by have:=HN.out;show k<l.length;omega
   obtain⟨b,off,hA,hbb,hat⟩:=HT.out.2.2 (by omega);subst hA;have uL:=ah (hat k HK.out);have hki:(k:Int)<(n:Int):=by omega
   have hk0:(0:Int)≤(k:Int):=by omega
   have hg1:decide ((k:Int)<0)=false:=decide_eq_false (by omega);have hg2:decide ((n:Int)≤(k:Int))=false:=decide_eq_false (by omega);have QS:decide (n≤k)=false:=decide_eq_false (by omega);have YF:Hid (wm [aK l k]):=fun p hp=>by rw[List.mem_singleton]at hp;rw[hp];exact HSL.out _ (yM HK.out)
   have HD:Hid (mh (l.take k) q=true→kN l q (k+1)=kN l q k++[aK l k]∧mh (l.take (k+1)) q=true):=atI HK.out;have DY:Hid (mh (l.take k) q=false→fM q.1.key (aK l k).1.key=true→kN l q (k+1)=kN l q k++[q]++[aK l k]∧mh (l.take (k+1)) q=true):=atL HK.out;have bA:Hid (mh (l.take k) q=false→fM q.1.key (aK l k).1.key=false→kN l q (k+1)=kN l q k++[aK l k]∧mh (l.take (k+1)) q=false):=atK HK.out;clear hat hbb;generalize aK l k=x at*;have hcmp:(!Go.Op.bytesLess x.1.key.toList q.1.key.toList&& !x.1.key.toList==q.1.key.toList)=fM q.1.key x.1.key:=by
    cases hx:fM q.1.key x.1.key with
    |true=>
     have e1:Go.Op.bytesLess x.1.key.toList q.1.key.toList=false:=Vm hx;have e2:(x.1.key.toList==q.1.key.toList)=false:=ED (fun e=>Rz hx e.symm);rw[e1,e2];rfl
    |false=>
     cases hy:Go.Op.bytesLess x.1.key.toList q.1.key.toList
     ·have e2:(x.1.key.toList==q.1.key.toList)=true:=EC (RA (by exact hy) hx);rw[e2];rfl
     ·rfl
   cases hd:mh (l.take k) q with
   |true=>
    have E:=ah (HD.out hd);clear hd HD DY bA hcmp;go_wp2_with fail;go_quiet (fail);have hbv:Below wr.heap.size wr (wr.drewN nq):=jL (Below.refl _ _) _;have qg:=ah (eY.out.below hbv);have EY:=ah (aj.below HQ.out hbv);have eT:=ah (aA HB.out hbv);obtain⟨V,hV⟩:∃V,wr.drewN nq=V:=⟨_,rfl⟩;rw[hV]at qg EY eT ⊢;clear hV hbv;obtain⟨x0,x1,x2,x3,x4,x5⟩:=kH.below (show kH w b (off+k*6) x.1 x.2 from uL.out) eT.out;have hbc:Below V.heap.size V (V.alloc (.cells (aC x.1 x.2) 68)):=ak _ _;have hpc:=KT V x;have r_:=ah (aA eT.out hbc);have nE:=qg.out.below hbc;have xk:=ah (EY.out.below hbc);obtain⟨Vc,KL⟩:=aQ (V.alloc (.cells (aC x.1 x.2) 68));rw[KL]at hpc r_ nE xk;clear hbc;have Db:some B≠(Value.slice Av (kN l q k).length cv).ownBlock:=fun e=>by
     obtain⟨cs,fr,h2⟩:=nE.block B e.symm;have:=(nE.lt B e.symm).1;omega
    go_wp2_with (at_builtin;refine Jv rfl _ _ rfl (B+1) _ (kN l q k) rfl nE (some ⟨V.heap.size,0,none⟩) 1 1 [x] rfl hpc (YF.out) (by have:=HLEN.out;(try simp only[List.length_append,List.length_singleton]);omega) (by have:=r_.out.size;have:=aj.lt xk.out;omega) ?_);intro vc Uc hrc hgc;have C9:=nE.lt;have BR:Hid (Below w.heap.size w Uc):=r_.out.grown hgc r_.out.size (fun g hg=>by have:=(C9 g hg).1;have:=dO.out;omega);have Mc:=ah (aj.kept xk.out hgc Db);have Hq:=ah hrc;clear hrc hgc nE hpc C9 Db;go_wp2_with fail;go_roundw
    case rel=>exact⟨k+1,_,rfl,by omega,by go_num,by rw[E.out.2],by rw[E.out.1];exact Hq.out,Mc.out,BR.out⟩
    case measure=>simp[intOf];omega
   |false=>
    cases hx:fM q.1.key x.1.key with
    |true=>
     have E:=ah (DY.out hd hx);rw[hx]at hcmp;clear hd hx HD DY bA;obtain⟨x0,x1,x2,x3,x4,x5⟩:=kH.below (show kH w b (off+k*6) x.1 x.2 from uL.out) HB.out;obtain⟨q0,q1,q2,q3,q4,q5⟩:=sN HQ.out;go_wp2_with fail;go_quiet (fail);clear x0 x1 x2 x3 x4 x5 q0 q1 q2 q3 q4 q5 hcmp;have hbv:Below wr.heap.size wr (wr.drewN nq):=jL (Below.refl _ _) _;have qg:=ah (eY.out.below hbv);have EY:=ah (aj.below HQ.out hbv);have eT:=ah (aA HB.out hbv);obtain⟨V,hV⟩:∃V,wr.drewN nq=V:=⟨_,rfl⟩;rw[hV]at qg EY eT ⊢;clear hV hbv;obtain⟨q0,q1,q2,q3,q4,q5⟩:=sN EY.out;have hbc:Below V.heap.size V (V.alloc (.cells (aC q.1 q.2) 68)):=ak _ _;have hpc:=KT V q;have r_:=ah (aA eT.out hbc);have nE:=qg.out.below hbc;have xk:=ah (EY.out.below hbc);obtain⟨Vc,KL⟩:=aQ (V.alloc (.cells (aC q.1 q.2) 68));rw[KL]at hpc r_ nE xk;clear hbc;have Db:some B≠(Value.slice Av (kN l q k).length cv).ownBlock:=fun e=>by
      obtain⟨cs,fr,h2⟩:=nE.block B e.symm;have:=(nE.lt B e.symm).1;omega
     go_wp2_with (at_builtin;refine Jv rfl _ _ rfl (B+1) _ (kN l q k) rfl nE (some ⟨V.heap.size,0,none⟩) 1 1 [q] rfl hpc (HSq.out) (by have:=HLEN.out;(try simp only[List.length_append,List.length_singleton]);omega) (by have:=r_.out.size;have:=aj.lt xk.out;omega) ?_);intro vc Uc hrc hgc;have C9:=nE.lt;have BR:Hid (Below w.heap.size w Uc):=r_.out.grown hgc r_.out.size (fun g hg=>by have:=(C9 g hg).1;have:=dO.out;omega);have Mc:=ah (aj.kept xk.out hgc Db);have Hq:=ah hrc;clear hrc hgc nE hpc C9 Db;obtain⟨Ac,cc,hvc,hcc,_⟩:=Hq.out.parts;rw[List.length_append,List.length_singleton]at hvc;subst hvc;obtain⟨x0,x1,x2,x3,x4,x5⟩:=kH.below (show kH w b (off+k*6) x.1 x.2 from uL.out) BR.out;have hbd:Below Uc.heap.size Uc (Uc.alloc (.cells (aC x.1 x.2) 68)):=ak _ _;have hpd:=KT Uc x;have Sw:=ah (aA BR.out hbd);have M_:=Hq.out.below hbd;have Yl:=ah (Mc.out.below hbd);obtain⟨Vd,hVd⟩:=aQ (Uc.alloc (.cells (aC x.1 x.2) 68));rw[hVd]at hpd Sw M_ Yl;clear hbd;have afU:some B≠(Value.slice Ac ((kN l q k).length+1) cc).ownBlock:=fun e=>by
      obtain⟨cs,fr,h2⟩:=M_.block B e.symm;have:=(M_.lt B e.symm).1;omega
     go_wp2_with (at_builtin;refine Jv rfl _ _ rfl (B+1) _ (kN l q k++[q]) rfl M_ (some ⟨Uc.heap.size,0,none⟩) 1 1 [x] rfl hpd (YF.out) (by have:=HLEN.out;(try simp only[List.length_append,List.length_singleton]);omega) (by have:=Sw.out.size;have:=aj.lt Yl.out;omega) ?_);intro vd Ud hrd hgd;have afP:=M_.lt;have Xg:Hid (Below w.heap.size w Ud):=Sw.out.grown hgd Sw.out.size (fun g hg=>by have:=(afP g hg).1;have:=dO.out;omega);have HQd:=ah (aj.kept Yl.out hgd afU);have HRd:=ah hrd;clear hrd hgd M_ hpd afP afU;go_wp2_with fail;go_roundw
     case rel=>exact⟨k+1,_,rfl,by omega,by go_num,by rw[E.out.2],by rw[E.out.1,List.append_assoc];exact HRd.out,HQd.out,Xg.out⟩
     case measure=>simp[intOf];omega
    |false=>
     have E:=ah (bA.out hd hx);rw[hx]at hcmp;clear hd hx HD DY bA;obtain⟨x0,x1,x2,x3,x4,x5⟩:=kH.below (show kH w b (off+k*6) x.1 x.2 from uL.out) HB.out;obtain⟨q0,q1,q2,q3,q4,q5⟩:=sN HQ.out;go_wp2_with fail;go_quiet (fail);clear x0 x1 x2 x3 x4 x5 q0 q1 q2 q3 q4 q5 hcmp;have hbv:Below wr.heap.size wr (wr.drewN nq):=jL (Below.refl _ _) _;have qg:=ah (eY.out.below hbv);have EY:=ah (aj.below HQ.out hbv);have eT:=ah (aA HB.out hbv);obtain⟨V,hV⟩:∃V,wr.drewN nq=V:=⟨_,rfl⟩;rw[hV]at qg EY eT ⊢;clear hV hbv;obtain⟨x0,x1,x2,x3,x4,x5⟩:=kH.below (show kH w b (off+k*6) x.1 x.2 from uL.out) eT.out;have hbc:Below V.heap.size V (V.alloc (.cells (aC x.1 x.2) 68)):=ak _ _;have hpc:=KT V x;have r_:=ah (aA eT.out hbc);have nE:=qg.out.below hbc;have xk:=ah (EY.out.below hbc);obtain⟨Vc,KL⟩:=aQ (V.alloc (.cells (aC x.1 x.2) 68));rw[KL]at hpc r_ nE xk;clear hbc;have Db:some B≠(Value.slice Av (kN l q k).length cv).ownBlock:=fun e=>by
      obtain⟨cs,fr,h2⟩:=nE.block B e.symm;have:=(nE.lt B e.symm).1;omega
     go_wp2_with (at_builtin;refine Jv rfl _ _ rfl (B+1) _ (kN l q k) rfl nE (some ⟨V.heap.size,0,none⟩) 1 1 [x] rfl hpc (YF.out) (by have:=HLEN.out;(try simp only[List.length_append,List.length_singleton]);omega) (by have:=r_.out.size;have:=aj.lt xk.out;omega) ?_);intro vc Uc hrc hgc;have C9:=nE.lt;have BR:Hid (Below w.heap.size w Uc):=r_.out.grown hgc r_.out.size (fun g hg=>by have:=(C9 g hg).1;have:=dO.out;omega);have Mc:=ah (aj.kept xk.out hgc Db);have Hq:=ah hrc;clear hrc hgc nE hpc C9 Db;go_wp2_with fail;go_roundw
     case rel=>exact⟨k+1,_,rfl,by omega,by go_num,by rw[E.out.2],by rw[E.out.1];exact Hq.out,Mc.out,BR.out⟩
     case measure=>simp[intOf];omega
  ·have hki:¬((k:Int)<(n:Int)):=by omega
   have vS:Hid (oP l q=if mh (l.take k) q then kN l q k else kN l q k++[q]):=atJ (by have:=HN.out;omega);have hkn:k+1≤n+1:=by omega
   clear hlt
   cases hd:mh (l.take k) q with
   |true=>
    rw[hd,if_pos rfl]at vS;go_wp2_with fail;go_ret;exact⟨_,rfl,by rw[vS.out];exact eY.out.base (by have:=dO.out;omega),HB.out⟩
   |false=>
    rw[hd,if_neg (by simp)]at vS;obtain⟨q0,q1,q2,q3,q4,q5⟩:=sN HQ.out;have hbc:Below wr.heap.size wr (wr.alloc (.cells (aC q.1 q.2) 68)):=ak _ _;have hpc:=KT wr q;have r_:=ah (aA HB.out hbc);have nE:=eY.out.below hbc;have xk:=ah (HQ.out.below hbc);obtain⟨Vc,KL⟩:=aQ (wr.alloc (.cells (aC q.1 q.2) 68));rw[KL]at hpc r_ nE xk;clear hbc;have Db:some B≠(Value.slice Av (kN l q k).length cv).ownBlock:=fun e=>by
     obtain⟨cs,fr,h2⟩:=nE.block B e.symm;have:=(nE.lt B e.symm).1;omega
    go_wp2_with (at_builtin;refine Jv rfl _ _ rfl (B+1) _ (kN l q k) rfl nE (some ⟨wr.heap.size,0,none⟩) 1 1 [q] rfl hpc (HSq.out) (by have:=HLEN.out;(try simp only[List.length_append,List.length_singleton]);omega) (by have:=r_.out.size;have:=aj.lt xk.out;omega) ?_);intro vc Uc hrc hgc;have C9:=nE.lt;have BR:Hid (Below w.heap.size w Uc):=r_.out.grown hgc r_.out.size (fun g hg=>by have:=(C9 g hg).1;have:=dO.out;omega);have Mc:=ah (aj.kept xk.out hgc Db);have Hq:=ah hrc;clear hrc hgc nE hpc C9 Db;go_wp2_with fail;go_ret;exact⟨_,rfl,by rw[vS.out];exact Hq.out.base (by have:=dO.out;omega),BR.out⟩
theorem jI {W:World} {g:Nat} {a b c d:Value} {T:TypeId} (h:aj W g (.cells #[a,b,c,d] T (0,0))) (x y z u:Value):
  aj (((((W).setCell ⟨g,0,none⟩ x).setCell ⟨g,1,none⟩ y).setCell ⟨g,2,none⟩ z).setCell ⟨g,3,none⟩ u) g (.cells #[x,y,z,u] T (0,0)):=
 aj.set (aj.set (aj.set (aj.set h 0 x #[x,b,c,d] rfl) 1 y #[x,y,c,d] rfl) 2 z #[x,y,z,d] rfl) 3 u #[x,y,z,u] rfl
theorem VR {W:World} {base g j:Nat} {v:Value} {l:List (au×Value)} {u:Value} (h:bf W base v l) (hne:some g≠v.ownBlock):bf (W.setCell ⟨g,j,none⟩ u) base v l:=
 World.ownsRow.kept h (rG W g j u) (.inr fun e=>hne e.symm)
theorem qG {W:World} {base g:Nat} {v:Value} {l:List (au×Value)} (h:bf W base v l) (hne:some g≠v.ownBlock) (x y z u:Value):
  bf (((((W).setCell ⟨g,0,none⟩ x).setCell ⟨g,1,none⟩ y).setCell ⟨g,2,none⟩ z).setCell ⟨g,3,none⟩ u) base v l:=VR (VR (VR (VR h hne) hne) hne) hne
theorem UH {W:World} {g j:Nat} {l:List (au×Value)} {u:Value} {cs:Array Value} {T:TypeId} {fr:Nat×Nat} (h:fK W l) (hb:aj W g (.cells cs T fr)) (hT:T≠65):fK (W.setCell ⟨g,j,none⟩ u) l:=
 h.nS (rG W g j u) fun k e=>by cases e;exact⟨cs,T,fr,hb,hT⟩
theorem qA {W:World} {g:Nat} {l:List (au×Value)} {a b c d:Value} {T:TypeId} (h:fK W l) (hb:aj W g (.cells #[a,b,c,d] T (0,0))) (hT:T≠65) (x y z u:Value):
  fK (((((W).setCell ⟨g,0,none⟩ x).setCell ⟨g,1,none⟩ y).setCell ⟨g,2,none⟩ z).setCell ⟨g,3,none⟩ u) l:=by
 have h1:=aj.set hb 0 x #[x,b,c,d] rfl;have h2:=aj.set h1 1 y #[x,y,c,d] rfl;have h3:=aj.set h2 2 z #[x,y,z,d] rfl;exact UH (UH (UH (UH h hb hT) h1 hT) h2 hT) h3 hT
theorem jG {w W:World} {B g:Nat} (h:Below B w W) (hg:B≤g) (x y z u:Value):Below B w (((((W).setCell ⟨g,0,none⟩ x).setCell ⟨g,1,none⟩ y).setCell ⟨g,2,none⟩ z).setCell ⟨g,3,none⟩ u):=
 (((h.setCell (p:=⟨g,0,none⟩) hg _).setCell (p:=⟨g,1,none⟩) hg _).setCell (p:=⟨g,2,none⟩) hg _).setCell (p:=⟨g,3,none⟩) hg _
theorem tH {W:World} {base g:Nat} {v:Value} {l:List (au×Value)} {cs:Array Value} {T:TypeId} {fr:Nat×Nat} (h:bf W base v l) (hb:aj W g (.cells cs T fr)) (hT:T≠68):some g≠v.ownBlock:=fun e=>by
 obtain⟨cs2,zR,h2⟩:=h.block g e.symm;rw[show W.heap[g]? =_ from hb]at h2;simp only[Option.some.injEq,Obj.cells.injEq]at h2;exact hT h2.2.1
theorem aqD {o:aX} (h:Bo o):om (newR o):=⟨⟨h.2.1,h.2.2.1,by show ByteArray.empty.size≤_;decide⟩,by show(Lit.int .i64 1).wf=true;decide,by show(Lit.int .i64 0).wf=true;decide,by show 0*24≤_;omega⟩
theorem bf.frozen {W:World} {base g n cap j:Nat} {l:List (au×Value)} (h:bf W base (.slice (some ⟨g,0,none⟩) n cap) l):W.frozen? ⟨g,j,none⟩=false:=by
 rcases h.2 with⟨h1,_⟩|⟨g2,_,cur,h1,_,hh,_⟩
 ·simp at h1
 ·simp only[Value.slice.injEq,Option.some.injEq,Addr.mk.injEq,and_true,true_and]at h1;rw[h1.1];exact rF hh j
theorem bf.six {W:World} {base g n cap i:Nat} {l:List (au×Value)} (h:bf W base (.slice (some ⟨g,0,none⟩) n cap) l) (hi:i<l.length):kH W g (i*6) (aK l i).1 (aK l i).2:=by
 obtain⟨A0,cap0,hv0,_,hps⟩:=h.parts;simp only[Value.slice.injEq]at hv0;obtain⟨rfl,_,_⟩:=hv0;have:=hps.at hi (Below.refl _ _);rw[Nat.zero_add]at this;exact this
theorem xD {l:List (au×Value)} {i:Nat} {q:au×Value} (h:i<l.length):aK (l.set i q) i=q:=by
 rw[sJ (by simpa using h),List.getElem_set_self]
theorem bf.qh {W:World} {base n cap i:Nat} {A:Option Addr} {l:List (au×Value)} (h:bf W base (.slice A n cap) l) (hi:i<l.length):∃g,A=some ⟨g,0,none⟩∧base≤g:=by
 rcases h.2 with⟨h1,h2⟩|⟨g,_,_,h1,hb,_⟩
 ·omega
 ·simp only[Value.slice.injEq]at h1;exact⟨g,h1.1,hb⟩
theorem UJ {W:World} {l:List (au×Value)} {i:Nat} {r:au} (h:fK W l) (hi:i<l.length) (hr:om r) (he:r.extra=(aK l i).1.extra):fK W (l.set i (r,(aK l i).2)):=fun p hp=>by
 rcases List.mem_or_eq_of_mem_set hp with h1|rfl
 ·exact h p h1
 ·obtain⟨E,m,c,e,hc,hf,ht⟩:=(h _ (yM hi)).2;exact⟨hr,E,m,c,e,hc,by simp only;rw[he];exact hf,ht⟩
def PY (base:Nat) (w:World) (t:List au) (k:Option Nat) (o:aX) (e:Ending) (w':World):Prop:=
 ∃v l,e= .returned (.tuple #[v,bX (bM t k o).2 (.slice none 0 0)])∧bf w' base v l∧l.map Prod.fst=(bM t k o).1∧fK w' l∧Below base w w'
theorem Jb (l:List (au×Value)) (i:Nat) (q:au×Value):(l.set i q).map Prod.fst=(l.map Prod.fst).set i q.1:=List.map_set
theorem VG (l:List (au×Value)) (k:Option Nat) (o:aX) (A:Option Addr) (n cap base:Nat) (w:World) (hrow:bf w base (.slice A n cap) l) (hex:fK w l) (hbase:base≤w.heap.size) (hlen:l.length≤20) (ho:Bo o) (hk:∀i,k=some i→i<l.length∧0≤(aK l i).1.rev∧(aK l i).1.rev≤bZ) (hn:n=l.length):
  Calls Tryz.prog 68 #[.slice A n cap,.int .i64 (Dl k),gU o] w (PY base w (l.map Prod.fst) k o):=by
 unfold gU;have hbw:Below base w ((w.alloc (.cells (aO o) 29)).alloc (.cells z4 43)):=((Below.refl _ _).alloc hbase _).alloc (by simp;omega) _;have hbw2:Below w.heap.size w ((w.alloc (.cells (aO o) 29)).alloc (.cells z4 43)):=(ak _ _).alloc (by simp) _;have pK:fH ((w.alloc (.cells (aO o) 29)).alloc (.cells z4 43)) w.heap.size o:=(fH.new w o).below (ak _ _);have hzb:aj ((w.alloc (.cells (aO o) 29)).alloc (.cells z4 43)) (w.heap.size+1) (.cells z4 43 (0,0)):=by have h:=aj.new (w.alloc (.cells (aO o) 29)) (.cells z4 43);rw[World.size_alloc]at h;exact h
 obtain⟨W0,hW0⟩:=aQ ((w.alloc (.cells (aO o) 29)).alloc (.cells z4 43));rw[hW0]at hbw hbw2 pK hzb;have oK:=ah pK;clear pK;have gQ:=ah hzb;clear hzb;have bU:=ah hbw;clear hbw;have nM:=ah (hrow.below hbw2);have HX0:=ah (hex.below hbw2);have wV:=ah hbw2;clear hbw2;obtain⟨c0,c1,c2,c3,c4,c5,c6⟩:=oK.out.cells;have dK:Hid (w.heap.size+1<W0.heap.size):=aj.lt gQ.out;have HO:=ah ho;clear ho;have HN:=ah hn;have HLEN:=ah hlen;clear hrow hex hn
 cases k with
 |none=>
  clear hk;unfold Dl;have apH:n≤20:=by rw[HN.out];exact hlen
  clear hlen
  by_cases h20:20≤n
  ·have HE:Hid (bM (l.map Prod.fst) none o=(l.map Prod.fst,gK 50)):=by show bM _ none o=_;unfold bM;simp only;rw[if_pos (by rw[List.length_map,←HN.out];exact h20)]
   have d1:(20:Int)≤(n:Int):=by omega
   have qf:=fun W=>Nv 50 50 rfl W;clear h20;go_enter Tryz.func68,Tryz.ntmps68;go_wp2_with fail
   ((with_reducible refine(qf _).mono ?_);rintro e W1 ⟨rfl,b1⟩)
   have hz1:=aj.below gQ.out b1;have hr1:=nM.out.below b1;have hx1:=HX0.out.below b1;have hb1:Below base w W1:=by have h1:=bU.out;have h2:=aA wV.out b1;exact⟨h2.os,h2.tape,h2.output,h2.size,fun i hi=>h2.block i (by omega)⟩
   have hne:=tH hr1 hz1 (by decide);obtain⟨z0,z1,z2,z3⟩:=aY hz1;obtain⟨f0,f1,f2,f3⟩:=dX hz1;have hfin:=jI hz1 (.int .i64 50) (.int .i64 0) (.string ByteArray.empty) (.slice none 0 0);obtain⟨e0,e1,e2,e3⟩:=aY hfin;have iB:=ah (qG hr1 hne (.int .i64 50) (.int .i64 0) (.string ByteArray.empty) (.slice none 0 0));have iH:=ah (qA hx1 hz1 (by decide) (.int .i64 50) (.int .i64 0) (.string ByteArray.empty) (.slice none 0 0));have aU:=ah (jG (g:=(w.heap.size+1)) hb1 (by omega) (.int .i64 50) (.int .i64 0) (.string ByteArray.empty) (.slice none 0 0));clear hfin;go_wp2_with fail;refine bodyPost_ret (v:=.tuple #[.slice A n cap,.agg #[(.int .i64 50),(.int .i64 0),(.string ByteArray.empty),(.slice none 0 0)]]) (by simp[results,Tryz.results68,go_sem,e0,e1,e2,e3]) rfl ⟨_,l,by rw[HE.out];rfl,iB.out,by rw[HE.out],iH.out,aU.out⟩
  ·have avC:n<20:=by omega
   have HE:Hid (bM (l.map Prod.fst) none o=(uw (l.map Prod.fst) (newR o),⟨0,1,ByteArray.empty,[]⟩)):=by show bM _ none o=_;unfold bM;simp only;rw[if_neg (by rw[List.length_map,←HN.out];omega)]
   have d1:¬((20:Int)≤(n:Int)):=by omega
   obtain⟨A0,cap0,hv0,hc0,aaF⟩:=nM.out.parts;rw[←HN.out]at hv0 aaF;obtain⟨rfl,rfl⟩:A=A0∧cap=cap0:=by simp only[Value.slice.injEq,true_and]at hv0;exact hv0
   have Yk:Hid (om (newR o)):=aqD HO.out;have hsq:wm [(newR o,Value.slice none 0 0)]:=fun p hp=>by rw[List.mem_singleton]at hp;rw[hp];exact⟨_,_,_,rfl⟩
   have qw:Calls Tryz.prog 112 #[.slice A n cap,.agg #[.string o.key,.string o.value,.int .i64 1,.int .i64 0,.string ⟨#[]⟩,.slice none 0 0]] W0 (fun e w'=>∃v,e= .returned v∧bf w' W0.heap.size v (oP l (newR o,.slice none 0 0))∧Below W0.heap.size W0 w'):=asi l (newR o,.slice none 0 0) A n cap W0 aaF HX0.out.sl hsq (by omega);clear hv0 aaF hsq h20;go_enter Tryz.func68,Tryz.ntmps68;go_wp2_with fail
   ((with_reducible refine qw.mono ?_);rintro e W1 ⟨v1,rfl,hr1,b1⟩)
   clear qw;have hz1:=aj.below gQ.out b1;have hx1:fK W1 (oP l (newR o,.slice none 0 0)):=fun p hp=>by
    rcases apZ hp with rfl|h
    ·exact⟨Yk.out,none,0,0,rfl,Nat.le_refl _,vE _ _,fun h=>by omega⟩
    ·exact(HX0.out.below b1) p h
   have hr1':=hr1.base (b:=base) (by have:=dK.out;omega);have hb1:Below base w W1:=by have h1:=bU.out;have h2:=aA wV.out b1;exact⟨h2.os,h2.tape,h2.output,h2.size,fun i hi=>h2.block i (by omega)⟩
   have hne:=tH hr1' hz1 (by decide);have hmp:=apY l (newR o,.slice none 0 0);have Ti:=ah hmp;clear hmp hr1;obtain⟨z0,z1,z2,z3⟩:=aY hz1;obtain⟨f0,f1,f2,f3⟩:=dX hz1;have hfin:=jI hz1 (.int .i64 0) (.int .i64 1) (.string ⟨#[]⟩) (.slice none 0 0);obtain⟨e0,e1,e2,e3⟩:=aY hfin;have iB:=ah (qG hr1' hne (.int .i64 0) (.int .i64 1) (.string ⟨#[]⟩) (.slice none 0 0));have iH:=ah (qA hx1 hz1 (by decide) (.int .i64 0) (.int .i64 1) (.string ⟨#[]⟩) (.slice none 0 0));have aU:=ah (jG (g:=(w.heap.size+1)) hb1 (by omega) (.int .i64 0) (.int .i64 1) (.string ⟨#[]⟩) (.slice none 0 0));clear hfin;go_wp2_with fail;refine bodyPost_ret (v:=.tuple #[v1,.agg #[(.int .i64 0),(.int .i64 1),(.string ⟨#[]⟩),(.slice none 0 0)]]) (by simp[results,Tryz.results68,go_sem,e0,e1,e2,e3]) rfl ⟨_,oP l (newR o,.slice none 0 0),by rw[HE.out];rfl,iB.out,by rw[HE.out,Ti.out],iH.out,aU.out⟩
 |some i=>
  obtain⟨hil,af0,aaM⟩:=hk i rfl;clear hk;unfold bZ at aaM;have hin:i<n:=by rw[HN.out];exact hil
  have apH:n≤20:=by rw[HN.out];exact hlen
  clear hlen;have jB:=ah hil;unfold Dl;simp only;obtain⟨g,hA,hbg⟩:=nM.out.qh jB.out;subst hA;have hx0:=nM.out.six jB.out;have hmR:Hid (atR (l.map Prod.fst) i=(aK l i).1):=(Cz l jB.out).symm;have apA:(0:Int)≤(i:Int):=by omega
  have hii1:(i:Int)<(n:Int):=by omega
  have hii2:¬((i:Int)<0):=by omega
  have hgw:g≠w.heap.size+1:=fun e=>by
   obtain⟨cs,fr,h2⟩:=nM.out.block g (by simp[Value.ownBlock]);rw[e,show W0.heap[w.heap.size+1]? =_ from gQ.out]at h2;simp only[Option.some.injEq,Obj.cells.injEq]at h2;exact absurd h2.2.1 (by decide)
  have Yf:Hid (om (aK l i).1):=(HX0.out _ (yM jB.out)).1
  by_cases hm:(aK l i).1.rev=9007199254740992
  ·have HE:Hid (bM (l.map Prod.fst) (some i) o=(l.map Prod.fst,gK 50)):=by show bM _ (some i) o=_;unfold bM;simp only;rw[if_pos (by rw[hmR.out];exact hm)]
   have d1:((aK l i).1.rev==9007199254740992)=true:=by simpa using hm
   clear hm af0 aaM;generalize aK l i=p at*;obtain⟨x0,x1,x2,x3,x4,x5⟩:=hx0;have qf:=fun W=>Nv 50 50 rfl W;go_enter Tryz.func68,Tryz.ntmps68;go_wp2_with fail
   ((with_reducible refine(qf _).mono ?_);rintro e W1 ⟨rfl,b1⟩)
   have hz1:=aj.below gQ.out b1;have hr1:=nM.out.below b1;have hx1:=HX0.out.below b1;have hb1:Below base w W1:=by have h1:=bU.out;have h2:=aA wV.out b1;exact⟨h2.os,h2.tape,h2.output,h2.size,fun i hi=>h2.block i (by omega)⟩
   have hne:=tH hr1 hz1 (by decide);clear x0 x1 x2 x3 x4 x5;obtain⟨z0,z1,z2,z3⟩:=aY hz1;obtain⟨f0,f1,f2,f3⟩:=dX hz1;have hfin:=jI hz1 (.int .i64 50) (.int .i64 0) (.string ByteArray.empty) (.slice none 0 0);obtain⟨e0,e1,e2,e3⟩:=aY hfin;have iB:=ah (qG hr1 hne (.int .i64 50) (.int .i64 0) (.string ByteArray.empty) (.slice none 0 0));have iH:=ah (qA hx1 hz1 (by decide) (.int .i64 50) (.int .i64 0) (.string ByteArray.empty) (.slice none 0 0));have aU:=ah (jG (g:=(w.heap.size+1)) hb1 (by omega) (.int .i64 50) (.int .i64 0) (.string ByteArray.empty) (.slice none 0 0));clear hfin;go_wp2_with fail;refine bodyPost_ret (v:=.tuple #[.slice (some ⟨g,0,none⟩) n cap,.agg #[(.int .i64 50),(.int .i64 0),(.string ByteArray.empty),(.slice none 0 0)]]) (by simp[results,Tryz.results68,go_sem,e0,e1,e2,e3]) rfl ⟨_,l,by rw[HE.out];rfl,iB.out,by rw[HE.out],iH.out,aU.out⟩
  ·have HE:Hid (bM (l.map Prod.fst) (some i) o=((l.map Prod.fst).set i (vF (aK l i).1 o),⟨0,(aK l i).1.rev+1,ByteArray.empty,[]⟩)):=by show bM _ (some i) o=_;unfold bM;simp only;rw[if_neg (by rw[hmR.out];exact hm),hmR.out]
   have d1:((aK l i).1.rev==9007199254740992)=false:=by simpa using hm
   have hwr:IntKind.i64.wrap ((aK l i).1.rev+1)=(aK l i).1.rev+1:=IntWalk.i64_in _ (by omega);have Yn:Hid ((Lit.int .i64 ((aK l i).1.rev+1)).wf=true):=uE (by omega) (by omega);clear hm af0 aaM;have hr1:=(bf.set nM.out i 1 (.string o.value) ({ (aK l i).1 with value:=o.value },(aK l i).2) jB.out (by omega) rfl).1;have aau:i<(l.set i ({ (aK l i).1 with value:=o.value },(aK l i).2)).length:=by rw[List.length_set];exact jB.out
   have hx1:=hr1.six aau;have hr2:=(bf.set hr1 i 2 (.int .i64 ((aK l i).1.rev+1)) (vF (aK l i).1 o,(aK l i).2) aau (by omega) (by rw[xD jB.out];rfl)).1;rw[List.set_set]at hr2;have afL:i<(l.set i (vF (aK l i).1 o,(aK l i).2)).length:=by rw[List.length_set];exact jB.out
   have hx2:=hr2.six afL;rw[xD jB.out]at hx1 hx2;have hE1:=HX0.out.kept (rG W0 g (i*6+1) (.string o.value)) (fun k e=>by cases e;exact nM.out.block g (by simp[Value.ownBlock]));have hE2:=hE1.kept (rG _ g (i*6+2) (.int .i64 ((aK l i).1.rev+1))) (fun k e=>by cases e;exact hr1.block g (by simp[Value.ownBlock]));have M6:=UJ hE2 jB.out (r:=vF (aK l i).1 o) ⟨⟨Yf.out.1.1,HO.out.2.2.1,Yf.out.1.2.2⟩,Yn.out,Yf.out.2.2⟩ rfl;have hz2:=aj.far (aj.far gQ.out hgw.symm (i*6+1) (.string o.value)) hgw.symm (i*6+2) (.int .i64 ((aK l i).1.rev+1));have ho1:fH (W0.setCell ⟨g,i*6+1,none⟩ (.string o.value)) w.heap.size o:=aj.far oK.out (fun e=>by
    obtain⟨cs,fr,h2⟩:=nM.out.block g (by simp[Value.ownBlock]);rw[←e,show W0.heap[w.heap.size]? =_ from oK.out]at h2;simp only[Option.some.injEq,Obj.cells.injEq]at h2;exact absurd h2.2.1 (by decide)) _ _
   have hb2:=(bU.out.setCell (p:=⟨g,i*6+1,none⟩) hbg (.string o.value)).setCell (p:=⟨g,i*6+2,none⟩) hbg (.int .i64 ((aK l i).1.rev+1));have Ti:Hid ((l.set i (vF (aK l i).1 o,(aK l i).2)).map Prod.fst=(l.map Prod.fst).set i (vF (aK l i).1 o)):=Jb l i _;obtain⟨l2,hl2⟩:∃l2,l.set i (vF (aK l i).1 o,(aK l i).2)=l2:=⟨_,rfl⟩;rw[hl2]at hr2 M6 Ti;clear hl2 aau afL hE1 hE2;have g1:W0.frozen? ⟨g,i*6+1,none⟩=false:=nM.out.frozen;have g2:(W0.setCell ⟨g,i*6+1,none⟩ (.string o.value)).frozen? ⟨g,i*6+2,none⟩=false:=hr1.frozen;obtain⟨x0,x1,x2,x3,x4,x5⟩:=hx0;obtain⟨_,_,y2,_,_,_⟩:=hx1;obtain⟨_,_,u2,_,_,_⟩:=hx2;clear hr1;generalize aK l i=p at*;simp only[vF]at y2 u2;have HR2:=ah hr2;clear hr2;have HE3:=ah M6;clear M6;have HZ2:=ah hz2;clear hz2;have HB2:=ah hb2;clear hb2;have eZ:=ah ho1;clear ho1;go_enter Tryz.func68,Tryz.ntmps68;go_upto_region 7 with fail;obtain⟨V,hV⟩:∃V,(W0.setCell ⟨g,i*6+1,none⟩ (.string o.value)).setCell ⟨g,i*6+2,none⟩ (.int .i64 (p.1.rev+1))=V:=⟨_,rfl⟩;rw[hV]at u2 HR2 HE3 HZ2 HB2 ⊢;clear hV x0 x1 x2 x3 x4 x5 y2 g1 g2 c0 c1 c2 c3 c4 c5 c6;obtain⟨z0,z1,z2,z3⟩:=aY HZ2.out;obtain⟨f0,f1,f2,f3⟩:=dX HZ2.out;have hne:=tH HR2.out HZ2.out (by decide);have m_:=ah hne;clear hne;go_region;have hfin:=jI HZ2.out (.int .i64 0) (.int .i64 (p.1.rev+1)) (.string ⟨#[]⟩) (.slice none 0 0);obtain⟨e0,e1,e2,e3⟩:=aY hfin;have iB:=ah (qG HR2.out m_.out (.int .i64 0) (.int .i64 (p.1.rev+1)) (.string ⟨#[]⟩) (.slice none 0 0));have iH:=ah (qA HE3.out HZ2.out (by decide) (.int .i64 0) (.int .i64 (p.1.rev+1)) (.string ⟨#[]⟩) (.slice none 0 0));have aU:=ah (jG (g:=(w.heap.size+1)) HB2.out (by omega) (.int .i64 0) (.int .i64 (p.1.rev+1)) (.string ⟨#[]⟩) (.slice none 0 0));clear hfin;go_wp2_with fail;refine bodyPost_ret (v:=.tuple #[.slice (some ⟨g,0,none⟩) n cap,.agg #[(.int .i64 0),(.int .i64 (p.1.rev+1)),(.string ⟨#[]⟩),(.slice none 0 0)]]) (by simp[results,Tryz.results68,go_sem,e0,e1,e2,e3]) rfl ⟨_,l2,by rw[HE.out];rfl,iB.out.drew,by rw[HE.out,Ti.out],iH.out.drew,aU.out.drew⟩
def uZ (l:List ByteArray):List Value:=l.map Value.string
theorem ZM (a b:List ByteArray):uZ (a++b)=uZ a++uZ b:=by simp[uZ]
theorem aeA (l:List ByteArray):(uZ l).length=l.length:=by simp[uZ]
theorem ZN (l:List ByteArray):∀u∈uZ l,u.oneCell'=true:=by
 intro u hu;unfold uZ at hu;obtain⟨s,_,rfl⟩:=List.mem_map.1 hu;rfl
theorem aez (l:List ByteArray) (i:Nat) (h:i<l.length):(uZ l)[i]? =some (.string (l.getD i ByteArray.empty)):=by
 unfold uZ;rw[List.getElem?_map,List.getElem?_eq_getElem h,List.getD_eq_getElem?_getD,List.getElem?_eq_getElem h];rfl
def RowK (w:World) (base:Nat) (v:Value) (l:List ByteArray):Prop:=w.ownsRow base 9 1 v l.length (uZ l)
theorem nI (w:World) (base:Nat):RowK w base (.slice none 0 0) []:=World.ownsRow_nil _ _ _ _
theorem RowK.below {w w':World} {base:Nat} {v:Value} {l:List ByteArray} (h:RowK w base v l) (hb:Below w.heap.size w w'):RowK w' base v l:=Vv h hb
theorem RowK.new {w:World} {base n cap:Nat} {A:Option Addr} {l:List ByteArray} (h:RowK w base (.slice A n cap) l):Fh base A n:=fun _ b off hA=>by
 subst hA;exact(h.lt b rfl).1
theorem RowK.wK {w:World} {base:Nat} {v:Value} {l:List ByteArray} (h:RowK w base v l) (hwf:∀s∈l,s.size≤maxLen):
  ∃A cap,v= .slice A l.length cap∧l.length≤cap∧dw w A l.length l:=by
 rcases h.2 with⟨rfl,hv⟩|⟨g,cap,cur,hv,hg,hh,hnc,hcm,hcs,htk⟩
 ·have:l.length=0:=by omega
  exact⟨none,0,by simp_all,by omega,rfl,by unfold maxLen;omega,hwf,fun h=>by omega⟩
 ·subst hv;refine⟨_,cap,rfl,hnc,rfl,Nat.le_trans hnc hcm,hwf,fun _=>⟨g,0,rfl,fF hh,fun i hi=>?_⟩⟩;have c1:=h.cellAt i (by omega);rw[aez l i hi]at c1;rw[Nat.zero_add];exact c1
theorem aaY:(Tryz.prog.info? 9).map (fun i=>(i.zero,i.size,i.bytes))=some (some (.string ⟨#[]⟩),1,16):=by kernel_rfl
theorem abT {w:World} {b off:Nat} {l:List ByteArray} (h:∀i,i<l.length→w.cell? ⟨b,off+i,none⟩=some (.string (l.getD i ByteArray.empty))):∀j u,(uZ l)[j]? =some u→w.cell? ((⟨b,off,none⟩:Addr).add j)=some u:=by
 intro j u hj;have hl:j<l.length:=by rw[←aeA];exact(List.getElem?_eq_some_iff.1 hj).1
 have e:((⟨b,off,none⟩:Addr).add j)=⟨b,off+j,none⟩:=by
  by_cases h0:j=0
  ·subst h0;simp[Addr.add]
  ·simp[Addr.add,h0]
 rw[e,h j hl,←aez l j hl,hj]
theorem xV {w:World} {base:Nat} {v:Value} {l:List ByteArray} (h:RowK w base v l):∃A cap,v= .slice A l.length cap:=by
 rcases h.2 with⟨h1,h2⟩|⟨g,cap,cur,h1,_⟩
 ·exact⟨none,0,by rw[h1,h2]⟩
 ·exact⟨_,cap,h1⟩
theorem ahS {w:World} {ops:Array Oper} {o:Oper} {a:Act} {K:Act→World→Prop} {Q:Exit→Act→World→Prop} {E:Prop} (hgd:o.guard=none) (s x:Operand)
  (ho:o.op= .call { callee:=.builtin .append,args:=#[s,x],argTypes:=#[41,41] })
  (base:Nat) (v:Value) (l:List ByteArray) (hs:a.eval s=v) (hown:RowK w base v l)
  (b c:Nat) (k:ByteArray) (hx:a.eval x= .slice (some ⟨b,0,none⟩) 1 c) (hf:w.cell? ⟨b,0,none⟩=some (.string k))
  (h63:l.length≤1000) (hbase:base≤w.heap.size)
  (h:∀A2 cap2 w',RowK w' base (.slice A2 (l.length+1) cap2) (l++[k])→w.grownBy w' v.ownBlock→K (a.put o.dst (.slice A2 (l.length+1) cap2)) w'):
  if Region.wanted o (yielded ops a.tmps)=true then Oper.wp Tryz.prog o a w K Q else E:=by
 obtain⟨i0,hi,hz0,hz1,hz2⟩:=info_parts aaY;have hw:Region.wanted o (yielded ops a.tmps)=true:=by simp[Region.wanted,hgd]
 rw[if_pos hw];have hat:∀i,i<[k].length→w.cell? ⟨b,0+i,none⟩=some (.string ([k].getD i ByteArray.empty)):=fun i hi=>by
  have:i=0:=by simpa using hi
  subst this;exact hf
 obtain⟨v',w',hr,h2,h3,h4,h5⟩:=run_append_own_at (P:=Tryz.prog) w base 41 o.type 9 i0 (.string ⟨#[]⟩) 1 16 Tryz.underlying41 hi hz0 hz1 hz2 rfl (by decide) v l.length _ hown ⟨b,0,none⟩ 1 c (uZ [k]) (by simp[uZ]) (abT hat) (ZN [k]) (by unfold maxLen;omega) (by omega) hbase;have h2':RowK w' base v' (l++[k]):=by
  unfold RowK;rw[ZM,List.length_append];exact h2
 obtain⟨A2,cap2,hv2⟩:=xV h2';rw[List.length_append,List.length_singleton]at hv2;subst hv2;unfold Oper.wp execOp;simp only[ho,resolve,invoke,builtin,Sem.run_bind,Sem.run_pure,Result.andThen_ok,List.map_toArray,List.map_cons,List.map_nil,hs,hx,hr];exact h _ _ w' h2' h3
end Go.Proofs.YtodaapcohdpenaaGreat
