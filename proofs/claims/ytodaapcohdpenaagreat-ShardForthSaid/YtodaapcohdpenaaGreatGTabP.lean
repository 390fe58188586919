-- eB
import Derived.Test.YtodaapcohdpenaaGreatGSq
import Derived.Test.YtodaapcohdpenaaGreatGTabD
import Derived.Test.YtodaapcohdpenaaGreatGRecA
import Derived.Test.YtodaapcohdpenaaGreatGTabE
import Derived.Lib.Bytealg
import Derived.Lib.Walk
import Derived.Deep.LoopGhost
import Derived.Lib.SliceRun
import Derived.Lib.Overlaps
import Derived.Lib.AppendZerosOnto
import Derived.Laws.IdiomCopy
import Derived.Deep.AppendSrc
set_option linter.unusedSimpArgs false
set_option linter.unusedVariables false
set_option maxHeartbeats 8000000
set_option maxRecDepth 100000
namespace Go.Proofs.YtodaapcohdpenaaGreat
open Go.RowKit
theorem ahW (n:Int) (w:World):Calls Tryz.prog 168 #[.int .i64 n] w fun e w'=>e= .returned (.bool (lJ n))∧w=w':=by
 by_cases h1:0≤n
 ·by_cases h2:n≤9007199254740992
  ·have HB:Hid (lJ n=true):=by show lJ n=true;unfold lJ;simp;omega
   go_enter Tryz.func168,Tryz.ntmps168;go_wp2;go_ret;exact⟨bC (by rw[HB.out]),rfl⟩
  ·have HB:Hid (lJ n=false):=by show lJ n=false;unfold lJ;simp;omega
   go_enter Tryz.func168,Tryz.ntmps168;go_wp2;go_ret;exact⟨bC (by rw[HB.out]),rfl⟩
 ·have HB:Hid (lJ n=false):=by show lJ n=false;unfold lJ;simp;omega
  go_enter Tryz.func168,Tryz.ntmps168;go_wp2;go_ret;exact⟨bC (by rw[HB.out]),rfl⟩
def tC (o:aX):Bool:=decide (¬qY 2 o)
theorem aq7 (o:aX) (w:World):Calls Tryz.prog 124 #[gU o] w fun e w'=>e= .returned (.bool (tC o))∧Below w.heap.size w w':=by
 have hno:¬(¬qY 2 o)→tC o=false:=fun h=>decide_eq_false h;have hyes:¬qY 2 o→tC o=true:=fun h=>decide_eq_true h;unfold qY bZ at hno hyes;simp only[not_or]at hno hyes;have bA:=ah hno;clear hno;have iF:=ah hyes;clear hyes;have q0:=ahW o.rev;have q1:=ahW o.life;unfold gU;have hbx:=fH.new w o;have hb0:Below w.heap.size w (w.alloc (.cells (aO o) 29)):=ak _ _;obtain⟨W0,hW0⟩:=aQ (w.alloc (.cells (aO o) 29));rw[hW0]at hbx hb0;obtain⟨c0,c1,c2,c3,c4,c5,c6⟩:=hbx.cells;have vQ:=ah hbx;have HB:=ah hb0;clear hb0 hbx
 by_cases h0:1≤o.kind
 rotate_left
 ·have E:Hid (tC o=false):=bA.out (fun h=>by obtain⟨_,k1,k2,k3,_,k5,k6,k7,_⟩:=h;omega);clear q0 q1;go_enter Tryz.func124,Tryz.ntmps124;go_wp2_with fail;go_ret;exact⟨bC E.out.symm,HB.out⟩
 by_cases h1:o.kind≤6
 rotate_left
 ·have E:Hid (tC o=false):=bA.out (fun h=>by obtain⟨_,k1,k2,k3,_,k5,k6,k7,_⟩:=h;omega);clear q0 q1;go_enter Tryz.func124,Tryz.ntmps124;go_wp2_with fail;go_ret;exact⟨bC E.out.symm,HB.out⟩
 by_cases h2:o.key.size=0∧o.kind≠6
 ·have ke:o.key.toList=[]:=(pX _).2 h2.1;have ke2:o.key.toList.isEmpty=true:=by rw[ke];rfl
  have kk:(o.kind==6)=false:=by simpa using h2.2
  have E:Hid (tC o=false):=bA.out (fun h=>by obtain⟨_,_,_,_,h5,_⟩:=h;exact h5 h2);clear h2 q0 q1;go_enter Tryz.func124,Tryz.ntmps124;go_wp2_with fail;go_ret;exact⟨bC E.out.symm,HB.out⟩
 have hke:(o.key.toList=[]∧(o.kind==6)=true)∨(o.key.toList.isEmpty=false∧o.key.toList≠[]):=by
  by_cases k:o.key.size=0
  ·exact .inl ⟨(pX _).2 k,by simp;exact Classical.byContradiction fun h=>h2 ⟨k,h⟩⟩
  ·exact .inr ⟨by rw[Bool.eq_false_iff];intro h2;exact k ((pX _).1 (by simpa using h2)),fun h2=>k ((pX _).1 h2)⟩
 have vU:=ah hke;clear hke;have H2:=ah h2;clear h2
 by_cases h3:(o.key.size:Int)≤16
 rotate_left
 ·have E:Hid (tC o=false):=bA.out (fun h=>by obtain⟨_,k1,k2,k3,_,k5,k6,k7,_⟩:=h;omega);clear q0 q1;rcases vU.out with⟨f1,f2⟩|⟨f1,f2⟩<;>(go_enter Tryz.func124,Tryz.ntmps124;go_wp2_with fail;go_ret;exact⟨bC E.out.symm,HB.out⟩)
 by_cases h4:(o.value.size:Int)≤200
 rotate_left
 ·have E:Hid (tC o=false):=bA.out (fun h=>by obtain⟨_,k1,k2,k3,_,k5,k6,k7,_⟩:=h;omega);clear q0 q1;rcases vU.out with⟨f1,f2⟩|⟨f1,f2⟩<;>(go_enter Tryz.func124,Tryz.ntmps124;go_wp2_with fail;go_ret;exact⟨bC E.out.symm,HB.out⟩)
 by_cases h5:(o.upto.size:Int)≤16
 rotate_left
 ·have E:Hid (tC o=false):=bA.out (fun h=>by obtain⟨_,k1,k2,k3,_,k5,k6,k7,_⟩:=h;omega);clear q0 q1;rcases vU.out with⟨f1,f2⟩|⟨f1,f2⟩<;>(go_enter Tryz.func124,Tryz.ntmps124;go_wp2_with fail;go_ret;exact⟨bC E.out.symm,HB.out⟩)
 by_cases h6:(o.note.size:Int)≤40
 rotate_left
 ·have E:Hid (tC o=false):=bA.out (fun h=>by obtain⟨_,k1,k2,k3,_,k5,k6,k7,_⟩:=h;omega);clear q0 q1;rcases vU.out with⟨f1,f2⟩|⟨f1,f2⟩<;>(go_enter Tryz.func124,Tryz.ntmps124;go_wp2_with fail;go_ret;exact⟨bC E.out.symm,HB.out⟩)
 cases n0:lJ o.rev with
 |false=>
  rw[n0]at q0;have E:Hid (tC o=false):=bA.out (fun h=>by obtain⟨_,_,_,_,_,_,_,_,r1,r2,l1,l2⟩:=h;simp[lJ]at n0;omega);clear n0;rcases vU.out with⟨f1,f2⟩|⟨f1,f2⟩<;>(go_enter Tryz.func124,Tryz.ntmps124;go_wp2_with fail;((with_reducible refine(q0 _).mono ?_);rintro e W1 ⟨rfl,rfl⟩);go_wp2_with fail;go_ret;exact⟨bC E.out.symm,HB.out⟩)
 |true=>
  rw[n0]at q0;have N0:=ah n0;clear n0
  cases n1:lJ o.life with
  |false=>
   rw[n1]at q1;have E:Hid (tC o=false):=bA.out (fun h=>by obtain⟨_,_,_,_,_,_,_,_,r1,r2,l1,l2⟩:=h;simp[lJ]at n1;omega);clear n1;rcases vU.out with⟨f1,f2⟩|⟨f1,f2⟩<;>(go_enter Tryz.func124,Tryz.ntmps124;go_wp2_with fail;((with_reducible refine(q0 _).mono ?_);rintro e W1 ⟨rfl,rfl⟩);go_wp2_with fail;((with_reducible refine(q1 _).mono ?_);rintro e W1 ⟨rfl,rfl⟩);go_wp2_with fail;go_ret;exact⟨bC E.out.symm,HB.out⟩)
  |true=>
   rw[n1]at q1;have N1:=ah n1;clear n1;have E:Hid (tC o=true):=iF.out (by have n0:=N0.out;have n1:=N1.out;simp[lJ]at n0 n1;exact⟨fun h=>h.2 trivial,by omega,by omega,by omega,H2.out,by omega,by omega,by omega,by omega,by omega,by omega,by omega⟩);rcases vU.out with⟨f1,f2⟩|⟨f1,f2⟩<;>(go_enter Tryz.func124,Tryz.ntmps124;go_wp2_with fail;((with_reducible refine(q0 _).mono ?_);rintro e W1 ⟨rfl,rfl⟩);go_wp2_with fail;((with_reducible refine(q1 _).mono ?_);rintro e W1 ⟨rfl,rfl⟩);go_wp2_with fail;go_ret;exact⟨bC E.out.symm,HB.out⟩)
theorem aeh {v:Int} {o:aX} (hv:v=1∨v=2):qY v o↔qY 2 o:=by
 unfold qY;simp[hv]
theorem aeF (v:Int) (o:aX) (w:World):Calls Tryz.prog 82 #[.int .i64 v,gU o] w fun e w'=>e= .returned (.int .i64 (dY v o))∧Below w.heap.size w w':=by
 have q:=aq7 o;have hb1:¬(v=1∨v=2)→dY v o=1:=fun h=>if_pos (.inl h);have hb2:(v=1∨v=2)→tC o=false→dY v o=1:=fun h h2=>if_pos ((aeh h).2 (Classical.byContradiction fun h3=>by unfold tC at h2;rw[decide_eq_true h3]at h2;cases h2));have hb3:(v=1∨v=2)→tC o=true→dY v o=if v=1∧o.kind=5 then 22 else 0:=fun h h2=>if_neg fun h3=>by unfold tC at h2;exact(of_decide_eq_true h2) ((aeh h).1 h3)
 have HB1:=ah hb1;clear hb1;have HB2:=ah hb2;clear hb2;have HB3:=ah hb3;clear hb3;unfold gU at q ⊢;have hbx:=fH.new w o;have hb0:Below w.heap.size w (w.alloc (.cells (aO o) 29)):=ak _ _;obtain⟨W0,hW0⟩:=aQ (w.alloc (.cells (aO o) 29));rw[hW0]at hbx hb0;obtain⟨c0,c1,c2,c3,c4,c5,c6⟩:=hbx.cells;have vQ:=ah hbx;have HB:=ah hb0;clear hb0 hbx
 by_cases v1:v=1
 ·have e1:(v != 1)=false:=by simp[v1]
  have e2:(v==1)=true:=by simp[v1]
  cases hq:tC o with
  |false=>
   rw[hq]at q;have E:Hid (dY v o=1):=HB2.out (.inl v1) hq;clear hq v1;go_enter Tryz.func82,Tryz.ntmps82;go_wp2_with fail
   ((with_reducible refine(q _).mono ?_);rintro e W1 ⟨rfl,b1⟩)
   have aU:=ah (aA HB.out b1);go_wp2_with fail;go_ret;exact⟨by rw[E.out];rfl,aU.out⟩
  |true=>
   rw[hq]at q;have hg:=HB3.out (.inl v1) hq;clear hq
   by_cases k5:o.kind=5
   ·have E:Hid (dY v o=22):=by show _=_;rw[hg];simp[v1,k5]
    have e3:(o.kind==5)=true:=by simpa using k5
    clear k5 hg v1;go_enter Tryz.func82,Tryz.ntmps82;go_wp2_with fail
    ((with_reducible refine(q _).mono ?_);rintro e W1 ⟨rfl,b1⟩)
    have aU:=ah (aA HB.out b1);have hx1:=vQ.out.below b1;clear c0 c1 c2 c3 c4 c5 c6 b1;obtain⟨c0,c1,c2,c3,c4,c5,c6⟩:=hx1.cells;clear hx1;go_wp2_with fail;go_ret;exact⟨by rw[E.out];rfl,aU.out⟩
   ·have E:Hid (dY v o=0):=by show _=_;rw[hg];simp[k5]
    have e3:(o.kind==5)=false:=by simpa using k5
    clear k5 hg v1;go_enter Tryz.func82,Tryz.ntmps82;go_wp2_with fail
    ((with_reducible refine(q _).mono ?_);rintro e W1 ⟨rfl,b1⟩)
    have aU:=ah (aA HB.out b1);have hx1:=vQ.out.below b1;clear c0 c1 c2 c3 c4 c5 c6 b1;obtain⟨c0,c1,c2,c3,c4,c5,c6⟩:=hx1.cells;clear hx1;go_wp2_with fail;go_ret;exact⟨by rw[E.out];rfl,aU.out⟩
 ·have e1:(v != 1)=true:=by simpa using v1
  have e2:(v==1)=false:=by simpa using v1
  by_cases v2:v=2
  ·have e4:(v != 2)=false:=by simp[v2]
   cases hq:tC o with
   |false=>
    rw[hq]at q;have E:Hid (dY v o=1):=HB2.out (.inr v2) hq;clear hq v1 v2;go_enter Tryz.func82,Tryz.ntmps82;go_wp2_with fail
    ((with_reducible refine(q _).mono ?_);rintro e W1 ⟨rfl,b1⟩)
    have aU:=ah (aA HB.out b1);go_wp2_with fail;go_ret;exact⟨by rw[E.out];rfl,aU.out⟩
   |true=>
    rw[hq]at q;have hg:=HB3.out (.inr v2) hq;have E:Hid (dY v o=0):=by show _=_;rw[hg];simp[v1]
    clear hq hg v1 v2;go_enter Tryz.func82,Tryz.ntmps82;go_wp2_with fail
    ((with_reducible refine(q _).mono ?_);rintro e W1 ⟨rfl,b1⟩)
    have aU:=ah (aA HB.out b1);have hx1:=vQ.out.below b1;clear c0 c1 c2 c3 c4 c5 c6 b1;obtain⟨c0,c1,c2,c3,c4,c5,c6⟩:=hx1.cells;clear hx1;go_wp2_with fail;go_ret;exact⟨by rw[E.out];rfl,aU.out⟩
  ·have e4:(v != 2)=true:=by simpa using v2
   have E:Hid (dY v o=1):=HB1.out (fun h=>by omega);clear v1 v2 q;go_enter Tryz.func82,Tryz.ntmps82;go_wp2_with fail;go_ret;exact⟨by rw[E.out];rfl,HB.out⟩
theorem anp:air:=fun v o _ _ w=>aeF v o w
theorem au5 (o:aX) (w:World):Calls Tryz.prog 40 #[gU o] w fun e w'=>e= .returned (.bool (gL o))∧Below w.heap.size w w':=by
 unfold gU;have hbx:=fH.new w o;have hb0:Below w.heap.size w (w.alloc (.cells (aO o) 29)):=ak _ _;obtain⟨W0,hW0⟩:=aQ (w.alloc (.cells (aO o) 29));rw[hW0]at hbx hb0;obtain⟨c0,c1,c2,c3,c4,c5,c6⟩:=hbx.cells;have vQ:=ah hbx;have HB:=ah hb0;clear hb0 hbx
 by_cases k2:o.kind=2
 ·have E:Hid (gL o=true):=by show _=_;unfold gL;rw[k2];rfl
  have e2:(o.kind==2)=true:=by simpa using k2
  clear k2;go_enter Tryz.func40,Tryz.ntmps40;go_wp2_with fail;go_ret;exact⟨bC E.out.symm,HB.out⟩
 have e2:(o.kind==2)=false:=by simpa using k2
 by_cases k3:o.kind=3
 ·have E:Hid (gL o=true):=by show _=_;unfold gL;rw[k3];rfl
  have e3:(o.kind==3)=true:=by simpa using k3
  clear k2 k3;go_enter Tryz.func40,Tryz.ntmps40;go_wp2_with fail;go_ret;exact⟨bC E.out.symm,HB.out⟩
 have e3:(o.kind==3)=false:=by simpa using k3
 by_cases k4:o.kind=4
 ·have E:Hid (gL o=true):=by show _=_;unfold gL;rw[k4];rfl
  have e4:(o.kind==4)=true:=by simpa using k4
  clear k2 k3 k4;go_enter Tryz.func40,Tryz.ntmps40;go_wp2_with fail;go_ret;exact⟨bC E.out.symm,HB.out⟩
 have e4:(o.kind==4)=false:=by simpa using k4
 by_cases k5:o.kind=5
 ·have E:Hid (gL o=true):=by show _=_;unfold gL;rw[k5];rfl
  have e5:(o.kind==5)=true:=by simpa using k5
  clear k2 k3 k4 k5;go_enter Tryz.func40,Tryz.ntmps40;go_wp2_with fail;go_ret;exact⟨bC E.out.symm,HB.out⟩
 have e5:(o.kind==5)=false:=by simpa using k5
 have E:Hid (gL o=false):=by show _=_;unfold gL;rw[Bool.and_eq_false_iff];by_cases h:2≤o.kind;exact .inr (decide_eq_false (by omega));exact .inl (decide_eq_false h)
 clear k2 k3 k4 k5;go_enter Tryz.func40,Tryz.ntmps40;go_wp2_with fail;go_ret;exact⟨bC E.out.symm,HB.out⟩
end Go.Proofs.YtodaapcohdpenaaGreat
namespace Go.Proofs.YtodaapcohdpenaaGreat
open Go.RowKit
theorem ahm (t:List au) (A:Option Addr) (n cap:Nat) (w:World) (h:gW w A n t):
  Calls Tryz.prog 30 #[.slice A n cap] w fun e w'=>e= .returned (.bool (wN t))∧Below w.heap.size w w':=by
 have jy:=h.2.1;unfold maxLen at jy;have HN:Hid (n=t.length):=h.1;have HT:=ah h;clear h;have bA:Hid (¬iO t→wN t=false):=abw;have iF:Hid (iO t→wN t=true):=Lb.2;generalize wN t=R at*
 by_cases h20:(20:Int)<(n:Int)
 ·have HE:Hid (R=false):=bA.out fun h=>by have:=h.2.2;have:=HN.out;omega
  go_enter Tryz.func30,Tryz.ntmps30;go_wp2_with fail;go_ret;exact⟨by rw[HE.out];rfl,Below.refl _ _⟩
 go_enter Tryz.func30,Tryz.ntmps30;go_wp2_with fail;go_loopw [10] (fun i wy=>∃(j:Nat) (wr:World),wr=wy∧j≤n∧i= .int .i64 j∧(∀q,q<j→eP 2 (atR t q)=true)∧jN (t.take j)∧Below w.heap.size w wr) (fun i _=>n-(intOf i).toNat)
 case atStart=>exact⟨0,_,rfl,by omega,rfl,(fun q hq=>by omega),List.Pairwise.nil,Below.refl _ _⟩
 case round=>
  obtain⟨j,wr,rfl,hj,rfl,yS,hrs,hb⟩:=hrel;have HB:=ah hb;clear hb;have sI:=ah yS;clear yS;have gu:=ah hrs;clear hrs
  by_cases hlt:j<n
  ·have hji:(j:Int)<(n:Int):=by omega
   have hj0:(0:Int)≤(j:Int):=by omega
   have hjl:j<t.length:=by have:=HN.out;omega
   obtain⟨b,off,hA,_⟩:=HT.out.block (by omega);subst hA;obtain⟨E,m,c,hx,_,hfs⟩:=HT.out.at hjl HB.out;have hbw:Below wr.heap.size wr (wr.alloc (.cells (aC (atR t j) (.slice E m c)) 68)):=ak _ _;have hrb:=aj.new wr (.cells (aC (atR t j) (.slice E m c)) 68);have hgx:=World.size_alloc wr (.cells (aC (atR t j) (.slice E m c)) 68);have q0:=fun W (hb:Below (wr.alloc (.cells (aC (atR t j) (.slice E m c)) 68)).heap.size (wr.alloc (.cells (aC (atR t j) (.slice E m c)) 68)) W)=>RU 2 (atR t j) E m c W (HT.out.2.2.1 _ (sK hjl)).1 ((hfs.below hbw).below hb);have kG:=ah hjl;have SF:Hid (∀(i:Nat),i<t.length→∀W,Below (wr.alloc (.cells (aC (atR t j) (.slice E m c)) 68)).heap.size (wr.alloc (.cells (aC (atR t j) (.slice E m c)) 68)) W→∃E2 m2 c2,kH W b (off+i*6) (atR t i) (.slice E2 m2 c2)):=fun i hi W hb=>by
    obtain⟨E2,m2,c2,hz,_,_⟩:=HT.out.at hi HB.out;exact⟨E2,m2,c2,(hz.below hbw).below hb⟩
   clear hfs hjl;obtain⟨x0,x1,x2,x3,x4,x5⟩:=hx;unfold iL at q0;have bI:Hid (∀i,j=i+1→fM (atR t i).key (atR t j).key=true→jN (t.take (j+1))):=fun i e hl=>ahu e gu.out kG.out hl;have ji:Hid (∀i,j=i+1→fM (atR t i).key (atR t j).key=false→¬iO t):=fun i e hl h=>by have:=F3 h.2.1 (i:=i) (j:=j) (by omega) kG.out;rw[hl]at this;cases this
   have JV:Hid (j=0→jN (t.take (j+1))):=fun hz=>by rw[NY kG.out,hz];exact List.pairwise_singleton _ _
   have Yo:Hid (∀v,eP 2 (atR t j)=v→v=false→¬iO t):=fun v e1 e2 h=>by have:=h.1 _ (sK kG.out);rw[e1,e2]at this;cases this
   have Yp:Hid (∀v,eP 2 (atR t j)=v→v=true→eP 2 (atR t j)=true):=fun v e1 e2=>e1.trans e2
   cases hr:eP 2 (atR t j)with
   |false=>
    rw[hr]at q0;have HE:Hid (R=false):=bA.out (Yo.out _ hr rfl);clear hr SF bI ji JV Yo Yp;generalize atR t j=r at*;go_upto_region 6 with fail;obtain⟨V,hV⟩:∃V,wr.alloc (.cells (aC r (.slice E m c)) 68)=V:=⟨_,rfl⟩;rw[hV]at hbw hrb hgx ⊢;have qs:∀W,Below V.heap.size V W→Calls Tryz.prog 70 _ W _:=fun W hb=>q0 W (by rw[hV];exact hb);clear q0 hV x0 x1 x2 x3 x4 x5;have mQ:=ah hrb;clear hrb;have eT:=ah (aA HB.out hbw);clear hbw;have Gw:=ah hgx;clear hgx;refine wp_region_noPanic ?_;refine wp_region_held_drew (S:=fun W=>Below V.heap.size V W) (by kernel_rfl) ((Below.refl _ _).drew) (fun hHeld=>?_);refine ay 0 ?_ (hy:=fun w hSw=>by((try dsimp only at hSw);(have jE:=aj.below mQ.out hSw);(have y0:=aj.cell jE 0);(have y1:=aj.cell jE 1);(have y2:=aj.cell jE 2);(have y3:=aj.cell jE 3);(have y4:=aj.cell jE 4);(have y5:=aj.cell jE 5);simp only[aM]at y0 y1 y2 y3 y4 y5;go_simp;(try with_reducible rfl)));refine bH 1 fun K hK=>?_;go_simp
    ((with_reducible refine(qs _ hHeld).mono ?_);rintro e w' ⟨rfl,bq⟩)
    refine hK.out _ _ (aA hHeld bq) fun hHeld=>?_;clear hK K;refine ay 2 ?_;refine ay 3 ?_;refine eG 4 ?_;refine eG 5 ?_;refine eG 6 ?_;refine eG 7 ?_;refine eG 8 ?_;refine eG 9 ?_;refine eG 10 ?_;refine eG 11 ?_;refine eG 12 ?_;refine eG 13 ?_;refine eG 14 ?_;refine eG 15 ?_;refine eG 16 ?_;refine ay 17 ?_;refine wpAnyH_done (by kernel_rfl) ?_ _;refine NoPanic.normal ?_;have aU:=ah (aA eT.out hHeld);clear hHeld;go_wp2_with fail;go_ret;exact⟨by rw[HE.out];rfl,aU.out⟩
   |true=>
    rw[hr]at q0;have Pk:=ah (Yp.out _ hr rfl);clear hr Yo Yp;rcases Nat.eq_zero_or_pos j with hz|hp
    ·have lT:=ah (JV.out hz);clear SF bI ji JV;have dj:decide ((0:Int)<(j:Int))=false:=decide_eq_false (by omega);have ZT:decide (0<j)=false:=decide_eq_false (by omega);have HZ:=ah hz;clear hz;have HAT:Hid (atR t j=atR t j):=rfl;generalize hrr:atR t j=r at*;have HRR:=ah hrr;clear hrr;go_upto_region 6 with fail;obtain⟨V,hV⟩:∃V,wr.alloc (.cells (aC r (.slice E m c)) 68)=V:=⟨_,rfl⟩;rw[hV]at hbw hrb hgx ⊢;have qs:∀W,Below V.heap.size V W→Calls Tryz.prog 70 _ W _:=fun W hb=>q0 W (by rw[hV];exact hb);clear q0 hV x0 x1 x2 x3 x4 x5;have mQ:=ah hrb;clear hrb;have eT:=ah (aA HB.out hbw);clear hbw;have Gw:=ah hgx;clear hgx;refine wp_region_noPanic ?_;refine wp_region_held_drew (S:=fun W=>Below V.heap.size V W) (by kernel_rfl) ((Below.refl _ _).drew) (fun hHeld=>?_);refine ay 0 ?_ (hy:=fun w hSw=>by((try dsimp only at hSw);(have jE:=aj.below mQ.out hSw);(have y0:=aj.cell jE 0);(have y1:=aj.cell jE 1);(have y2:=aj.cell jE 2);(have y3:=aj.cell jE 3);(have y4:=aj.cell jE 4);(have y5:=aj.cell jE 5);simp only[aM]at y0 y1 y2 y3 y4 y5;go_simp;(try with_reducible rfl)));refine bH 1 fun K hK=>?_;go_simp
     ((with_reducible refine(qs _ hHeld).mono ?_);rintro e w' ⟨rfl,bq⟩)
     refine hK.out _ _ (aA hHeld bq) fun hHeld=>?_;clear hK K;refine ay 2 ?_;refine ay 3 ?_;refine ay 4 ?_;refine ay 5 ?_;refine ay 6 ?_;refine eG 7 ?_;refine eG 8 ?_;refine eG 9 ?_;refine eG 10 ?_;refine eG 11 ?_;refine eG 12 ?_;refine eG 13 ?_;refine eG 14 ?_;refine eG 15 ?_;refine ay 16 ?_;refine ay 17 ?_;refine wpAnyH_done (by kernel_rfl) ?_ _;refine NoPanic.normal ?_;have aU:=ah (aA eT.out hHeld);clear hHeld;go_wp2_with fail;go_roundw
     case rel=>
      refine⟨j+1,_,rfl,by omega,by go_num,fun q hq=>?_,lT.out,aU.out⟩;rw[show q=j from by have:=HZ.out;omega,HRR.out];exact Pk.out
     case measure=>simp[intOf];omega
    ·obtain⟨i,hij⟩:∃i,j=i+1:=⟨j-1,by omega⟩;have SG:=ah hij;have HZG:=ah (SF.out i (by have:=kG.out;omega));clear SF;have OX:=ah (bI.out i hij);clear bI;have X8:=ah (ji.out i hij);clear ji JV;have hi1:(j:Int)-1=(i:Int):=by omega
     have hin:(i:Int)<(n:Int):=by omega
     have hiw:IntKind.i64.wrap (i:Int)=(i:Int):=IntWalk.i64_in _ (by omega);have hi0:(0:Int)≤(i:Int):=by omega
     have dj:decide ((0:Int)<(j:Int))=true:=decide_eq_true (by omega);have ZT:decide (0<j)=true:=decide_eq_true (by omega);have g3:decide ((i:Int)<0)=false:=decide_eq_false (by omega);have g4:decide ((n:Int)≤(i:Int))=false:=decide_eq_false (by omega);have g4n:decide (n≤i)=false:=decide_eq_false (by omega);clear hp hij;generalize hrr:atR t j=r at*;generalize hss:atR t i=s at*;have HRR:=ah hrr;clear hrr;have uS:=ah hss;clear hss;go_upto_region 6 with fail;obtain⟨V,hV⟩:∃V,wr.alloc (.cells (aC r (.slice E m c)) 68)=V:=⟨_,rfl⟩;rw[hV]at hbw hrb hgx ⊢;have qs:∀W,Below V.heap.size V W→Calls Tryz.prog 70 _ W _:=fun W hb=>q0 W (by rw[hV];exact hb);have HZ:Hid (∀W,Below V.heap.size V W→∃E2 m2 c2,kH W b (off+i*6) s (.slice E2 m2 c2)):=fun W hb=>HZG.out W (by rw[hV];exact hb);clear q0 hV x0 x1 x2 x3 x4 x5 HZG;have mQ:=ah hrb;clear hrb;have eT:=ah (aA HB.out hbw);clear hbw;have Gw:=ah hgx;clear hgx
     cases hl:fM s.key r.key with
     |true=>
      have lT:=ah (OX.out hl);have e1:Go.Op.bytesLess r.key.toList s.key.toList=false:=Vm hl;have e2:(r.key.toList==s.key.toList)=false:=ED (fun e=>Rz hl e.symm);have e3:(Go.Op.bytesLess r.key.toList s.key.toList||(r.key.toList==s.key.toList))=false:=by rw[e1,e2];rfl
      clear hl e1 e2 X8 OX;refine wp_region_noPanic ?_;refine wp_region_held_drew (S:=fun W=>Below V.heap.size V W) (by kernel_rfl) ((Below.refl _ _).drew) (fun hHeld=>?_);refine ay 0 ?_ (hy:=fun w hSw=>by((try dsimp only at hSw);(have jE:=aj.below mQ.out hSw);(have y0:=aj.cell jE 0);(have y1:=aj.cell jE 1);(have y2:=aj.cell jE 2);(have y3:=aj.cell jE 3);(have y4:=aj.cell jE 4);(have y5:=aj.cell jE 5);simp only[aM]at y0 y1 y2 y3 y4 y5;go_simp;(try with_reducible rfl)));refine bH 1 fun K hK=>?_;go_simp
      ((with_reducible refine(qs _ hHeld).mono ?_);rintro e w' ⟨rfl,bq⟩)
      refine hK.out _ _ (aA hHeld bq) fun hHeld=>?_;clear hK K;refine ay 2 ?_;refine ay 3 ?_;refine ay 4 ?_;refine ay 5 ?_;refine ay 6 ?_;refine ay 7 ?_;refine ay 8 ?_ (hy:=fun w hSw=>by((try dsimp only at hSw);(have jE:=aj.below mQ.out hSw);(have y0:=aj.cell jE 0);(have y1:=aj.cell jE 1);(have y2:=aj.cell jE 2);(have y3:=aj.cell jE 3);(have y4:=aj.cell jE 4);(have y5:=aj.cell jE 5);simp only[aM]at y0 y1 y2 y3 y4 y5;go_simp;(try with_reducible rfl)));refine ay 9 ?_;refine ay 10 ?_;refine ay 11 ?_;refine ay 12 ?_;refine ay 13 ?_;refine ay 14 ?_ (hy:=fun w hSw=>by((try dsimp only at hSw);obtain⟨_,_,_,z0,_,_,_,_,_⟩:=HZ.out _ hSw;go_simp;(try with_reducible rfl)));refine ay 15 ?_;refine ay 16 ?_;refine ay 17 ?_;refine wpAnyH_done (by kernel_rfl) ?_ _;refine NoPanic.normal ?_;have aU:=ah (aA eT.out hHeld);clear hHeld;go_wp2_with fail;go_roundw
      case rel=>exact⟨j+1,_,rfl,by omega,by go_num,fun q hq=>by rcases(by omega:q<j∨q=j)with h|rfl;exact sI.out q h;rw[HRR.out];exact Pk.out,lT.out,aU.out⟩
      case measure=>simp[intOf];omega
     |false=>
      have HE:Hid (R=false):=bA.out (X8.out hl);have e3:(Go.Op.bytesLess r.key.toList s.key.toList||(r.key.toList==s.key.toList))=true:=by
       cases hg:Go.Op.bytesLess r.key.toList s.key.toList
       ·rw[EC (RA (by exact hg) hl)];rfl
       ·rfl
      clear hl X8 OX;refine wp_region_noPanic ?_;refine wp_region_held_drew (S:=fun W=>Below V.heap.size V W) (by kernel_rfl) ((Below.refl _ _).drew) (fun hHeld=>?_);refine ay 0 ?_ (hy:=fun w hSw=>by((try dsimp only at hSw);(have jE:=aj.below mQ.out hSw);(have y0:=aj.cell jE 0);(have y1:=aj.cell jE 1);(have y2:=aj.cell jE 2);(have y3:=aj.cell jE 3);(have y4:=aj.cell jE 4);(have y5:=aj.cell jE 5);simp only[aM]at y0 y1 y2 y3 y4 y5;go_simp;(try with_reducible rfl)));refine bH 1 fun K hK=>?_;go_simp
      ((with_reducible refine(qs _ hHeld).mono ?_);rintro e w' ⟨rfl,bq⟩)
      refine hK.out _ _ (aA hHeld bq) fun hHeld=>?_;clear hK K;refine ay 2 ?_;refine ay 3 ?_;refine ay 4 ?_;refine ay 5 ?_;refine ay 6 ?_;refine ay 7 ?_;refine ay 8 ?_ (hy:=fun w hSw=>by((try dsimp only at hSw);(have jE:=aj.below mQ.out hSw);(have y0:=aj.cell jE 0);(have y1:=aj.cell jE 1);(have y2:=aj.cell jE 2);(have y3:=aj.cell jE 3);(have y4:=aj.cell jE 4);(have y5:=aj.cell jE 5);simp only[aM]at y0 y1 y2 y3 y4 y5;go_simp;(try with_reducible rfl)));refine ay 9 ?_;refine ay 10 ?_;refine ay 11 ?_;refine ay 12 ?_;refine ay 13 ?_;refine ay 14 ?_ (hy:=fun w hSw=>by((try dsimp only at hSw);obtain⟨_,_,_,z0,_,_,_,_,_⟩:=HZ.out _ hSw;go_simp;(try with_reducible rfl)));refine ay 15 ?_;refine ay 16 ?_;refine ay 17 ?_;refine wpAnyH_done (by kernel_rfl) ?_ _;refine NoPanic.normal ?_;have aU:=ah (aA eT.out hHeld);clear hHeld;go_wp2_with fail;go_ret;exact⟨by rw[HE.out];rfl,aU.out⟩
  ·have iw:j=n:=by omega
   subst iw;have htl:t.take j=t:=by rw[List.take_of_length_le];have:=HN.out;omega
   rw[htl]at gu;have hall:∀r∈t,eP 2 r=true:=fun r hr=>by
    obtain⟨q,hq,rfl⟩:=List.getElem_of_mem hr;have:=sI.out q (by have:=HN.out;omega);rw[jw hq]at this;exact this
   have HE:Hid (R=true):=iF.out ⟨hall,gu.out,by have:=HN.out;omega⟩;clear hlt htl hall;go_wp2_with fail;go_ret;exact⟨by rw[HE.out];rfl,HB.out⟩
theorem asy:alU:=fun t A n cap w _ h _=>ahm t A n cap w h
theorem Ez {P:Program} {f:FuncId} {fn:Func} (hf:P.funcs[f]? =some fn) (hname:(fn.name== "runtime.NumGoroutine")=false) (hb:fn.body.isNone=false) (args:Array Value) (w:World):
  (callFunc f args).run P w= .ok (.enter f args) w:=by
 have h1:fn.name≠ "runtime.NumGoroutine" :=by simpa using hname
 have h2:fn.body≠none:=by intro h;rw[h]at hb;cases hb
 simp[callFunc,hf,h1,h2]
theorem ank (args:Array Value) (w:World):(callFunc 76 args).run Tryz.prog w= .ok (.enter 76 args) w:=Ez Tryz.func76 (by kernel_rfl) (by kernel_rfl) args w
theorem aoz (t u:List au) (A B:Option Addr) (n m cap cap2:Nat) (w:World) (h:gW w A n t) (h2:gW w B m u):
  Calls Tryz.prog 75 #[.slice A n cap,.slice B m cap2,.func (.func 76) #[] #[]] w fun e w'=>e= .returned (.bool (zi t u))∧Below w.heap.size w w':=by
 have jy:=h.2.1;have Ah:=h2.2.1;unfold maxLen at jy Ah;have HN:Hid (n=t.length):=h.1;have HM:Hid (m=u.length):=h2.1;have HT:=ah h;clear h;have HU:=ah h2;clear h2;have bA:Hid (t≠u→zi t u=false):=fun h=>by rw[Bool.eq_false_iff];exact fun e=>h (Jp.1 e)
 have iF:Hid (t=u→zi t u=true):=Jp.2;generalize zi t u=R at*
 by_cases hnm:n=m
 rotate_left
 ·have HE:Hid (R=false):=bA.out fun e=>hnm (by rw[HN.out,HM.out,e]);have e1:((n:Int) != (m:Int))=true:=by simp;omega
  clear hnm;go_enter Tryz.func75,Tryz.ntmps75;go_wp2_with fail;go_ret;exact⟨by rw[HE.out];rfl,Below.refl _ _⟩
 subst hnm;have e1:((n:Int) != (n:Int))=false:=by simp
 go_enter Tryz.func75,Tryz.ntmps75;go_wp2_with fail;go_loopw [17] (fun i wy=>∃(j:Nat) (wr:World),wr=wy∧j≤n∧i= .int .i64 j∧(∀q,q<j→atR t q=atR u q)∧Below w.heap.size w wr) (fun i _=>n-(intOf i).toNat)
 case atStart=>exact⟨0,_,rfl,by omega,rfl,(fun q hq=>by omega),Below.refl _ _⟩
 case round=>
  obtain⟨j,wr,rfl,hj,rfl,hsm,hb⟩:=hrel;have HB:=ah hb;clear hb;have oh:=ah hsm;clear hsm
  by_cases hlt:j<n
  ·have hji:(j:Int)<(n:Int):=by omega
   have hj0:(0:Int)≤(j:Int):=by omega
   have hjl:j<t.length:=by have:=HN.out;omega
   have z_:j<u.length:=by have:=HM.out;omega
   obtain⟨b,off,hA,_⟩:=HT.out.block (by omega);subst hA;obtain⟨b2,off2,hA2,_⟩:=HU.out.block (by omega);subst hA2;obtain⟨E,m1,c,hx,_,hfs⟩:=HT.out.at hjl HB.out;obtain⟨E2,m2,c2,hy,_,mD⟩:=HU.out.at z_ HB.out;have HX:Hid (∀b,kM (atR t j) (atR u j)=b→(b=true↔atR t j=atR u j)):=fun b hb=>by rw[←hb];exact abG
   obtain⟨s,hs⟩:∃s,kM (atR t j) (atR u j)=s:=⟨_,rfl⟩;have HS:=ah (HX.out s hs);have uS:=ah hs;clear hs HX;have m_:Hid (s=false→t≠u):=fun e h=>by subst e;have:=HS.out.2 (by rw[h]);cases this
   have HST:Hid (s=true→atR t j=atR u j):=HS.out.1;clear HS hjl z_;have Ov:=ah hfs;clear hfs;have Xq:=ah mD;clear mD;generalize Et:atR t j=x at*;generalize Rn:atR u j=y at*;have Ea:=ah Et;clear Et;have YU:=ah Rn;clear Rn;have hb1:Below wr.heap.size wr (wr.alloc (.cells (aC x (.slice E m1 c)) 68)):=ak _ _;have hbx:=aj.new wr (.cells (aC x (.slice E m1 c)) 68);have hgx:=World.size_alloc wr (.cells (aC x (.slice E m1 c)) 68);have hy1:=hy.below hb1;obtain⟨x0,x1,x2,x3,x4,x5⟩:=hx;clear hy;go_upto_region 6 with fail;clear x0 x1 x2 x3 x4 x5;obtain⟨V1,hV1⟩:∃V,wr.alloc (.cells (aC x (.slice E m1 c)) 68)=V:=⟨_,rfl⟩;rw[hV1]at hb1 hbx hgx hy1 ⊢;clear hV1;have HB1:=ah hb1;clear hb1;have Gw:=ah hgx;clear hgx;have Oo:=ah hbx;clear hbx;have hb2:Below V1.heap.size V1 (V1.alloc (.cells (aC y (.slice E2 m2 c2)) 68)):=ak _ _;have hby:=aj.new V1 (.cells (aC y (.slice E2 m2 c2)) 68);have sS:=aj.below Oo.out hb2;have kC:=World.size_alloc V1 (.cells (aC y (.slice E2 m2 c2)) 68);obtain⟨y0,y1,y2,y3,y4,y5⟩:=hy1;go_upto_region 7 with fail;clear y0 y1 y2 y3 y4 y5;obtain⟨V2,hV2⟩:∃V,V1.alloc (.cells (aC y (.slice E2 m2 c2)) 68)=V:=⟨_,rfl⟩;rw[hV2]at hb2 hby sS kC ⊢;clear hV2 Oo;have DJ:=ah kC;clear kC;have HB2:=ah (aA HB1.out hb2);clear hb2;have q:=arO x y E E2 m1 m2 c c2 V2 (Ov.out.below HB2.out) (Xq.out.below HB2.out);rw[uS.out]at q;unfold iL at q;have y0:=aj.cell sS 0;have y1:=aj.cell sS 1;have y2:=aj.cell sS 2;have y3:=aj.cell sS 3;have y4:=aj.cell sS 4;have y5:=aj.cell sS 5;have z0:=aj.cell hby 0;have z1:=aj.cell hby 1;have z2:=aj.cell hby 2;have z3:=aj.cell hby 3;have z4:=aj.cell hby 4;have z5:=aj.cell hby 5;simp only[aM]at y0 y1 y2 y3 y4 y5 z0 z1 z2 z3 z4 z5;have HBY:=ah hby;clear hby;have aiD:=ah sS;clear sS;have cf:=ank
   cases s with
   |true=>
    go_wp2_with fail
    ((with_reducible refine q.mono ?_);rintro e W3 ⟨rfl,b3⟩)
    have HB3:=ah (aA HB.out (aA HB2.out b3));clear b3 q;clear y0 y1 y2 y3 y4 y5 z0 z1 z2 z3 z4 z5;go_wp2_with fail;go_roundw
    case rel=>exact⟨j+1,_,rfl,by omega,by go_num,fun q hq=>by rcases(by omega:q<j∨q=j)with h|rfl;exact oh.out q h;rw[Ea.out,YU.out];exact HST.out (by first|trivial|rfl),HB3.out⟩
    case measure=>simp[intOf];omega
   |false=>
    have HE:Hid (R=false):=bA.out (m_.out rfl);go_wp2_with fail
    ((with_reducible refine q.mono ?_);rintro e W3 ⟨rfl,b3⟩)
    have HB3:=ah (aA HB.out (aA HB2.out b3));clear b3 q;clear y0 y1 y2 y3 y4 y5 z0 z1 z2 z3 z4 z5;go_wp2_with fail;go_ret;exact⟨by rw[HE.out];rfl,HB3.out⟩
  ·have iw:j=n:=by omega
   subst iw;have HE:Hid (R=true):=iF.out (by
    refine List.ext_getElem (by rw[←HN.out,←HM.out]) fun i hi hj2=>?_;have:=oh.out i (by have:=HN.out;omega);rw[jw hi,jw hj2]at this;exact this)
   clear hlt;go_wp2_with fail;go_ret;exact⟨by rw[HE.out];rfl,HB.out⟩
theorem asT (t u:List au) (A B:Option Addr) (n m cap cap2:Nat) (w:World) (h:gW w A n t) (h2:gW w B m u):
  Calls Tryz.prog 34 #[.slice A n cap,.slice B m cap2] w fun e w'=>e= .returned (.bool (zi t u))∧Below w.heap.size w w':=by
 have q:=aoz t u A B n m cap cap2 w h h2;clear h h2;go_enter Tryz.func34,Tryz.ntmps34;go_wp2_with fail
 ((with_reducible refine q.mono ?_);rintro e W1 ⟨rfl,b1⟩)
 go_wp2_with fail;go_ret;exact⟨rfl,b1⟩
theorem asZ:alX:=fun t u A B n m cap cap2 w _ _ h h2 _ _=>asT t u A B n m cap cap2 w h h2
end Go.Proofs.YtodaapcohdpenaaGreat
namespace Go.Proofs.YtodaapcohdpenaaGreat
open Go.RowKit Go.Lib
def uh (a b:ByteArray):Int:=if fM a b then -1 else if a=b then 0 else 1
theorem aek:∀l m:List UInt8,compareBytes l m=if Go.Op.bytesLess l m then -1 else if l=m then 0 else 1
 |[],[]=>rfl
 |[],_::_=>rfl
 |_::_,[]=>by simp[compareBytes,Go.Op.bytesLess]
 |x::a,y::b=>by
  unfold compareBytes;simp only[Go.Op.bytesLess,aek a b]
  by_cases h1:x<y
  ·simp[h1]
  ·by_cases h2:y<x
   ·have h3:¬x=y:=fun e=>by subst e;exact h1 h2
    simp[h1,h2,h3]
   ·have h3:x=y:=by
     rw[UInt8.lt_iff_toNat_lt]at h1 h2;exact UInt8.toNat_inj.1 (by omega)
    subst h3;simp[h1]
theorem anF (a b:ByteArray):compareBytes a.data.toList b.data.toList=uh a b:=by
 rw[aek,←Wn,←Wn];unfold uh fM
 by_cases h:a=b
 ·subst h;simp
 ·have:¬a.toList=b.toList:=fun e=>h (Zw e);simp[h,this]
theorem anC {a b:ByteArray} (h:fM a b=true):uh a b= -1:=by unfold uh;rw[if_pos h]
theorem anB {a b:ByteArray} (h:fM a b=false):0≤uh a b:=by unfold uh;rw[if_neg (by rw[h];decide)];split<;>decide
theorem aeJ {a b:ByteArray}:uh a b=0↔a=b:=by
 unfold uh;constructor
 ·intro h;split at h
  ·cases h
  ·split at h
   ·assumption
   ·cases h
 ·intro h;subst h;rw[Ry];simp
theorem anE (a b:ByteArray) (w:World):Calls Tryz.prog 127 #[.string a,.string b] w fun e w'=>e= .returned (.int .i64 (uh a b))∧w=w':=by
 have hcall:(callFunc 192 #[.string a,.string b]).run Tryz.prog w= .ok (.value (.int .i64 (uh a b))) w:=by
  rw[run_callFunc_extern Tryz.func192 (by kernel_rfl) (by kernel_rfl) (by kernel_rfl) (e:=Extern.BytealgCompare.compare) (by kernel_rfl),run_compareString,anF];rfl
 have h1:Calls Tryz.prog 169 #[.string a,.string b] w fun e w'=>e= .returned (.int .i64 (uh a b))∧w=w':=by
  generalize uh a b=c at*;go_enter Tryz.func169,Tryz.ntmps169;go_wp2_with (simp only[hcall]);go_ret;exact⟨rfl,rfl⟩
 clear hcall;generalize uh a b=c at*;go_enter Tryz.func127,Tryz.ntmps127;go_wp2_with fail
 ((with_reducible refine h1.mono ?_);rintro e W1 ⟨rfl,rfl⟩)
 go_wp2_with fail;go_ret;exact⟨rfl,rfl⟩
theorem aej (r:au) (x:Value) (k:ByteArray) (w:World):Calls Tryz.prog 126 #[iL r x,.string k] w fun e w'=>e= .returned (.int .i64 (uh r.key k))∧Below w.heap.size w w':=by
 have hbw:Below w.heap.size w (w.alloc (.cells (aC r x) 68)):=ak _ _;have q:=fun W=>anE r.key k W;generalize uh r.key k=c at*;unfold iL;go_enter Tryz.func126,Tryz.ntmps126;go_wp2_with fail
 ((with_reducible refine(q _).mono ?_);rintro e W1 ⟨rfl,rfl⟩)
 go_wp2_with fail;go_ret;exact⟨rfl,hbw⟩
theorem am9 (args:Array Value) (w:World):(callFunc 126 args).run Tryz.prog w= .ok (.enter 126 args) w:=Ez Tryz.func126 (by kernel_rfl) (by kernel_rfl) args w
def Ct (t:List au) (k:ByteArray) (i:Nat) (th:Bool):Prop:=
 i≤t.length∧(∀j,j<i→fM (atR t j).key k=true)∧(∀j,i≤j→j<t.length→fM (atR t j).key k=false)∧th=decide (i<t.length∧(atR t i).key=k)
theorem FW {t:List au} {k:ByteArray} {i:Nat} (h:Ct t k i true):i<t.length∧(atR t i).key=k∧jS t k=some i:=by
 obtain⟨_,h1,_,h3⟩:=h;have h4:=of_decide_eq_true h3.symm;exact⟨h4.1,h4.2,af8 (fun j hj e=>by have:=h1 j hj;rw[e,Ry]at this;cases this) h4.1 h4.2⟩
theorem RO {t:List au} {k:ByteArray} {i:Nat} (hr:jN t) (h:Ct t k i false):jS t k=none:=by
 obtain⟨_,h1,h2,h3⟩:=h;have h4:=of_decide_eq_false h3.symm;refine af9 fun j hj e=>?_;rcases Nat.lt_or_ge j i with h5|h5
 ·have:=h1 j h5;rw[e,Ry]at this;cases this
 ·rcases Nat.lt_or_eq_of_le h5 with h6|rfl
  ·have a1:=F3 hr h6 hj;have a2:=h2 i (Nat.le_refl _) (by omega);rw[e]at a1;rw[a1]at a2;cases a2
  ·exact h4 ⟨hj,e⟩
theorem arz {t:List au} {r:au} {i:Nat} (h1:i≤t.length) (h2:∀j,j<i→fM (atR t j).key r.key=true) (h3:∀j,i≤j→j<t.length→fM (atR t j).key r.key=false) (hn:∀x∈t,x.key≠r.key):
    uw t r=t.take i++r::t.drop i:=by
  induction t generalizing i with
  |nil=>
   have:i=0:=by simpa using h1
   subst this;rfl
  |cons x l ih=>
    cases i with
    |zero=>
      have h:=h3 0 (Nat.le_refl _) (by simp);rw[show atR (x::l) 0=x from rfl]at h;have:fM r.key x.key=true:=by
        cases e:fM r.key x.key with
        |true=>rfl
        |false=>exact absurd (RA h e) (hn x (List.mem_cons_self ..))
      unfold uw;rw[if_pos this];rfl
    |succ i=>
      have h:=h2 0 (by omega);rw[show atR (x::l) 0=x from rfl]at h;unfold uw;rw[if_neg (by rw[Vm h];decide)];rw[ih (i:=i) (by simpa using h1) (fun j hj=>h2 (j+1) (by omega)) (fun j hj hl=>h3 (j+1) (by omega) (by simpa using hl)) (fun y hy=>hn y (List.mem_cons_of_mem _ hy))];rfl
theorem as6 (A:Option Addr) (n cap:Nat) (t:List au) (k:ByteArray) (w:World) (h:gW w A n t) (hr:jN t) (h20:n≤20):
  Calls Tryz.prog 125 #[.slice A n cap,.string k,.func (.func 126) #[] #[]] w fun e w'=>(∃(i:Nat) (th:Bool),Ct t k i th∧e= .returned (.tuple #[.int .i64 i,.bool th]))∧Below w.heap.size w w':=by
 have HN:Hid (n=t.length):=h.1;have HT:=ah h;clear h;have S:Hid (∀a b,a≤b→b<n→fM (atR t b).key k=true→fM (atR t a).key k=true):=fun a b h1 h2 h3=>by
  rcases Nat.lt_or_eq_of_le h1 with h4|rfl
  ·exact lt_trans (F3 hr h4 (by have:=HN.out;omega)) h3
  ·exact h3
 have cf:=am9;clear hr;go_enter Tryz.func125,Tryz.ntmps125;go_wp2_with fail
 go_loopg [9,10] n (fun g s7 s8 wr=>∃lo hi:Nat,s7= .int .i64 lo∧s8= .int .i64 hi∧lo≤hi∧hi≤n∧hi-lo≤g∧Below w.heap.size w wr∧(∀j,j<lo→fM (atR t j).key k=true)∧(∀j,hi≤j→j<n→fM (atR t j).key k=false))
 case atStart=>exact⟨0,n,rfl,rfl,Nat.zero_le _,Nat.le_refl _,by omega,Below.refl _ _,fun j hj=>absurd hj (Nat.not_lt_zero _),fun j h1 h2=>by omega⟩
 case round=>
  obtain⟨lo,hi,rfl,rfl,hlh,hin,hg,hb,h1,h2⟩:=hrel;have I:Hid ((∀j,j<lo→fM (atR t j).key k=true)∧(∀j,hi≤j→j<n→fM (atR t j).key k=false)):=⟨h1,h2⟩;clear h1 h2;have HB:=ah hb;clear hb
  by_cases hlt:lo<hi
  ·obtain⟨b,off,hA,_⟩:=HT.out.block (by omega);subst hA;obtain⟨E,m,c,hx,_,_⟩:=HT.out.at (i:=(lo+hi) / 2) (by have:=HN.out;omega) HB.out;have q:=fun W=>aej (atR t ((lo+hi) / 2)) (.slice E m c) k W;unfold iL at q;have Y:Hid (∀v,fM (atR t ((lo+hi) / 2)).key k=v→fM (atR t ((lo+hi) / 2)).key k=v):=fun v h=>h;obtain⟨x0,x1,x2,x3,x4,x5⟩:=hx
   cases hl:fM (atR t ((lo+hi) / 2)).key k with
   |true=>
    have YY:=ah (Y.out _ hl);clear Y;have hc:=anC hl;rw[hc]at q;clear hl hc;have dK:Hid (∀j,j<(lo+hi) / 2+1→fM (atR t j).key k=true):=fun j hj=>S.out j _ (by omega) (by omega) YY.out;clear YY;generalize atR t ((lo+hi) / 2)=r at*;go_wp2_with fail
    ((with_reducible refine(q _).mono ?_);rintro e W1 ⟨rfl,b1⟩)
    have HB1:=ah (aA HB.out b1);clear b1 x0 x1 x2 x3 x4 x5 q;go_wp2_with fail
    go_roundg (hi-((lo+hi) / 2+1))
    case measure=>omega
    case rel=>exact⟨(lo+hi) / 2+1,hi,by rw[show((lo:Int)+(hi:Int)) / 2+1=(((lo+hi) / 2+1:Nat):Int) by omega],rfl,by omega,hin,Nat.le_refl _,HB1.out,dK.out,I.out.2⟩
   |false=>
    have YY:=ah (Y.out _ hl);clear Y;have hc:=anB hl;clear hl;have dK:Hid (∀j,(lo+hi) / 2≤j→j<n→fM (atR t j).key k=false):=fun j hj hjn=>by
     cases e:fM (atR t j).key k with
     |false=>rfl
     |true=>have:=S.out _ j hj hjn e;rw[YY.out]at this;cases this
    clear YY;generalize uh (atR t ((lo+hi) / 2)).key k=z at*;generalize atR t ((lo+hi) / 2)=r at*;have hz:¬z<0:=by omega
    clear hc;go_wp2_with fail
    ((with_reducible refine(q _).mono ?_);rintro e W1 ⟨rfl,b1⟩)
    have HB1:=ah (aA HB.out b1);clear b1 x0 x1 x2 x3 x4 x5 q;go_wp2_with fail
    go_roundg ((lo+hi) / 2-lo)
    case measure=>omega
    case rel=>exact⟨lo,(lo+hi) / 2,rfl,by rw[show((lo:Int)+(hi:Int)) / 2=(((lo+hi) / 2:Nat):Int) by omega],by omega,by omega,Nat.le_refl _,HB1.out,I.out.1,dK.out⟩
  ·have:hi=lo:=by omega
   subst this;clear hlh hlt hg
   by_cases hn2:hi<n
   ·obtain⟨b,off,hA,_⟩:=HT.out.block (by omega);subst hA;obtain⟨E,m,c,hx,_,_⟩:=HT.out.at (i:=hi) (by have:=HN.out;omega) HB.out;have q:=fun W=>aej (atR t (hi)) (.slice E m c) k W;unfold iL at q;have hnl:hi<t.length:=by have:=HN.out;omega
    obtain⟨x0,x1,x2,x3,x4,x5⟩:=hx
    by_cases he:(atR t hi).key=k
    ·have HP:Hid (Ct t k hi true):=⟨by omega,I.out.1,fun j h1 h2=>I.out.2 j h1 (by have:=HN.out;omega),(decide_eq_true ⟨hnl,he⟩).symm⟩;rw[aeJ.2 he]at q;clear he hnl;generalize atR t hi=r at*;go_wp2_with fail
     ((with_reducible refine(q _).mono ?_);rintro e W1 ⟨rfl,b1⟩)
     have HB1:=ah (aA HB.out b1);clear b1 x0 x1 x2 x3 x4 x5 q;go_wp2_with fail;go_ret2;exact⟨⟨hi,true,HP.out,rfl⟩,by first|exact HB1.out|exact HB1.out.drew|exact jL HB1.out _⟩
    ·have HP:Hid (Ct t k hi false):=⟨by omega,I.out.1,fun j h1 h2=>I.out.2 j h1 (by have:=HN.out;omega),(decide_eq_false fun h=>he h.2).symm⟩;have hz:(uh (atR t hi).key k==0)=false:=by rw[beq_eq_false_iff_ne];exact fun e=>he (aeJ.1 e)
     generalize uh (atR t hi).key k=z at*;clear he hnl;generalize atR t hi=r at*;go_wp2_with fail
     ((with_reducible refine(q _).mono ?_);rintro e W1 ⟨rfl,b1⟩)
     have HB1:=ah (aA HB.out b1);clear b1 x0 x1 x2 x3 x4 x5 q;go_wp2_with fail;go_ret2;exact⟨⟨hi,false,HP.out,rfl⟩,by first|exact HB1.out|exact HB1.out.drew|exact jL HB1.out _⟩
   ·have HP:Hid (Ct t k hi false):=⟨by have:=HN.out;omega,I.out.1,fun j h1 h2=>I.out.2 j h1 (by have:=HN.out;omega),(decide_eq_false fun h=>hn2 (by have:=HN.out;have:=h.1;omega)).symm⟩;go_wp2_with fail;go_ret2;exact⟨⟨hi,false,HP.out,rfl⟩,by first|exact HB.out|exact HB.out.drew|exact jL HB.out _⟩
def iV (A:Option Addr) (n cap:Nat) (o:aX) (p:Nat) (th:Bool):Value:=.agg (aW A n cap o p th)
def gX (W:World) (g:Nat) (A:Option Addr) (n cap:Nat) (o:aX) (p:Nat) (th:Bool):Prop:=aj W g (.cells (aW A n cap o p th) 117 (0,0))
theorem gX.below {w w':World} {g n cap p:Nat} {A:Option Addr} {o:aX} {th:Bool} (h:gX w g A n cap o p th) (hb:Below w.heap.size w w'):gX w' g A n cap o p th:=aj.below h hb
theorem gX.new (W:World) (A:Option Addr) (n cap:Nat) (o:aX) (p:Nat) (th:Bool):gX (W.alloc (.cells (aW A n cap o p th) 117)) W.heap.size A n cap o p th:=aj.new W _
theorem gX.cells {W:World} {g n cap p:Nat} {A:Option Addr} {o:aX} {th:Bool} (h:gX W g A n cap o p th):
  W.cell? ⟨g,0,none⟩=some (.slice A n cap)∧W.cell? ⟨g,1,none⟩=some (.int .i64 o.kind)∧W.cell? ⟨g,2,none⟩=some (.string o.key)∧W.cell? ⟨g,3,none⟩=some (.string o.value)∧W.cell? ⟨g,4,none⟩=some (.int .i64 o.rev)∧W.cell? ⟨g,5,none⟩=some (.string o.upto)∧W.cell? ⟨g,6,none⟩=some (.int .i64 o.life)∧W.cell? ⟨g,7,none⟩=some (.string o.note)∧W.cell? ⟨g,8,none⟩=some (.int .i64 p)∧W.cell? ⟨g,9,none⟩=some (.bool th):=
 ⟨aj.cell h 0,aj.cell h 1,aj.cell h 2,aj.cell h 3,aj.cell h 4,aj.cell h 5,aj.cell h 6,aj.cell h 7,aj.cell h 8,aj.cell h 9⟩
theorem auY {W:World} {g:Nat} {a0 a1 a2 a3 a4 a5 a6 a7 a8 a9:Value} {T:TypeId} (h:aj W g (.cells #[a0,a1,a2,a3,a4,a5,a6,a7,a8,a9] T (0,0))) (x0 x1 x2 x3 x4 x5 x6 x7 x8 x9:Value):
  aj (((((((((((W).setCell ⟨g,0,none⟩ x0).setCell ⟨g,1,none⟩ x1).setCell ⟨g,2,none⟩ x2).setCell ⟨g,3,none⟩ x3).setCell ⟨g,4,none⟩ x4).setCell ⟨g,5,none⟩ x5).setCell ⟨g,6,none⟩ x6).setCell ⟨g,7,none⟩ x7).setCell ⟨g,8,none⟩ x8).setCell ⟨g,9,none⟩ x9) g (.cells #[x0,x1,x2,x3,x4,x5,x6,x7,x8,x9] T (0,0)):=(aj.set (aj.set (aj.set (aj.set (aj.set (aj.set (aj.set (aj.set (aj.set (aj.set h 0 x0 #[x0,a1,a2,a3,a4,a5,a6,a7,a8,a9] rfl) 1 x1 #[x0,x1,a2,a3,a4,a5,a6,a7,a8,a9] rfl) 2 x2 #[x0,x1,x2,a3,a4,a5,a6,a7,a8,a9] rfl) 3 x3 #[x0,x1,x2,x3,a4,a5,a6,a7,a8,a9] rfl) 4 x4 #[x0,x1,x2,x3,x4,a5,a6,a7,a8,a9] rfl) 5 x5 #[x0,x1,x2,x3,x4,x5,a6,a7,a8,a9] rfl) 6 x6 #[x0,x1,x2,x3,x4,x5,x6,a7,a8,a9] rfl) 7 x7 #[x0,x1,x2,x3,x4,x5,x6,x7,a8,a9] rfl) 8 x8 #[x0,x1,x2,x3,x4,x5,x6,x7,x8,a9] rfl) 9 x9 #[x0,x1,x2,x3,x4,x5,x6,x7,x8,x9] rfl)
def ace (w:World) (A:Option Addr) (n cap:Nat) (t:List au) (o:aX) (e:Ending) (w':World):Prop:=
 (∃(p:Nat) (th:Bool),Ct t o.key p th∧e= .returned (iV A n cap o p th))∧Below w.heap.size w w'
theorem amv (t:List au) (o:aX) (A:Option Addr) (n cap:Nat) (w:World) (h:gW w A n t) (hr:jN t) (h20:n≤20):
  Calls Tryz.prog 83 #[.slice A n cap,gU o] w (ace w A n cap t o):=by
 have hb1:Below w.heap.size w (w.alloc (.cells (aO o) 29)):=ak _ _;have hb2:Below w.heap.size w ((w.alloc (.cells (aO o) 29)).alloc (.cells #[.slice none 0 0,.int .i64 0,.string ⟨#[]⟩,.string ⟨#[]⟩,.int .i64 0,.string ⟨#[]⟩,.int .i64 0,.string ⟨#[]⟩,.int .i64 0,.bool false] 117)):=hb1.alloc (by simp) _;have pK:fH ((w.alloc (.cells (aO o) 29)).alloc (.cells #[.slice none 0 0,.int .i64 0,.string ⟨#[]⟩,.string ⟨#[]⟩,.int .i64 0,.string ⟨#[]⟩,.int .i64 0,.string ⟨#[]⟩,.int .i64 0,.bool false] 117)) w.heap.size o:=(fH.new w o).below (ak _ _);have hzb:aj ((w.alloc (.cells (aO o) 29)).alloc (.cells #[.slice none 0 0,.int .i64 0,.string ⟨#[]⟩,.string ⟨#[]⟩,.int .i64 0,.string ⟨#[]⟩,.int .i64 0,.string ⟨#[]⟩,.int .i64 0,.bool false] 117)) (w.heap.size+1) (.cells #[.slice none 0 0,.int .i64 0,.string ⟨#[]⟩,.string ⟨#[]⟩,.int .i64 0,.string ⟨#[]⟩,.int .i64 0,.string ⟨#[]⟩,.int .i64 0,.bool false] 117 (0,0)):=by have h:=aj.new (w.alloc (.cells (aO o) 29)) (.cells #[.slice none 0 0,.int .i64 0,.string ⟨#[]⟩,.string ⟨#[]⟩,.int .i64 0,.string ⟨#[]⟩,.int .i64 0,.string ⟨#[]⟩,.int .i64 0,.bool false] 117);rw[World.size_alloc]at h;exact h
 obtain⟨W0,hW0⟩:=aQ ((w.alloc (.cells (aO o) 29)).alloc (.cells #[.slice none 0 0,.int .i64 0,.string ⟨#[]⟩,.string ⟨#[]⟩,.int .i64 0,.string ⟨#[]⟩,.int .i64 0,.string ⟨#[]⟩,.int .i64 0,.bool false] 117));rw[hW0]at hb2 pK hzb;have q:=as6 A n cap t o.key W0 (h.below hb2) hr h20;have oK:=ah pK;clear pK;have gQ:=ah hzb;clear hzb hb1;have HB:=ah hb2;clear hb2 h hr h20;obtain⟨c0,c1,c2,c3,c4,c5,c6⟩:=oK.out.cells;have hgz:w.heap.size+1<W0.heap.size:=aj.lt gQ.out;have HGZ:=ah hgz;clear hgz;unfold gU;go_enter Tryz.func83,Tryz.ntmps83;go_wp2_with fail
 ((with_reducible refine q.mono ?_);rintro e W1 ⟨⟨p,th,hp,rfl⟩,b1⟩)
 have afV:=oK.out.below b1;have qE:=aj.below gQ.out b1;have HB1:=ah (aA HB.out b1);have HP:=ah hp;clear hp;clear q b1 c0 c1 c2 c3 c4 c5 c6 oK gQ;obtain⟨c0,c1,c2,c3,c4,c5,c6⟩:=afV.cells;obtain⟨z0,z1,z2,z3,z4,z5,z6,z7,z8,z9⟩:=aei qE;have f0:=aj.frozen qE 0;have f1:=aj.frozen qE 1;have f2:=aj.frozen qE 2;have f3:=aj.frozen qE 3;have f4:=aj.frozen qE 4;have f5:=aj.frozen qE 5;have f6:=aj.frozen qE 6;have f7:=aj.frozen qE 7;have f8:=aj.frozen qE 8;have f9:=aj.frozen qE 9;have hfin:=auY qE (.slice A n cap) (.int .i64 o.kind) (.string o.key) (.string o.value) (.int .i64 o.rev) (.string o.upto) (.int .i64 o.life) (.string o.note) (.int .i64 p) (.bool th);obtain⟨e0,e1,e2,e3,e4,e5,e6,e7,e8,e9⟩:=aei hfin;have aU:Hid (Below w.heap.size w (((((((((((W1).setCell ⟨(w.heap.size+1),0,none⟩ (.slice A n cap)).setCell ⟨(w.heap.size+1),1,none⟩ (.int .i64 o.kind)).setCell ⟨(w.heap.size+1),2,none⟩ (.string o.key)).setCell ⟨(w.heap.size+1),3,none⟩ (.string o.value)).setCell ⟨(w.heap.size+1),4,none⟩ (.int .i64 o.rev)).setCell ⟨(w.heap.size+1),5,none⟩ (.string o.upto)).setCell ⟨(w.heap.size+1),6,none⟩ (.int .i64 o.life)).setCell ⟨(w.heap.size+1),7,none⟩ (.string o.note)).setCell ⟨(w.heap.size+1),8,none⟩ (.int .i64 p)).setCell ⟨(w.heap.size+1),9,none⟩ (.bool th))):=((((((((((HB1.out.setCell (p:=⟨w.heap.size+1,0,none⟩) (Nat.le_succ _) (.slice A n cap)).setCell (p:=⟨w.heap.size+1,1,none⟩) (Nat.le_succ _) (.int .i64 o.kind)).setCell (p:=⟨w.heap.size+1,2,none⟩) (Nat.le_succ _) (.string o.key)).setCell (p:=⟨w.heap.size+1,3,none⟩) (Nat.le_succ _) (.string o.value)).setCell (p:=⟨w.heap.size+1,4,none⟩) (Nat.le_succ _) (.int .i64 o.rev)).setCell (p:=⟨w.heap.size+1,5,none⟩) (Nat.le_succ _) (.string o.upto)).setCell (p:=⟨w.heap.size+1,6,none⟩) (Nat.le_succ _) (.int .i64 o.life)).setCell (p:=⟨w.heap.size+1,7,none⟩) (Nat.le_succ _) (.string o.note)).setCell (p:=⟨w.heap.size+1,8,none⟩) (Nat.le_succ _) (.int .i64 p)).setCell (p:=⟨w.heap.size+1,9,none⟩) (Nat.le_succ _) (.bool th));clear hfin;have HZ1:=ah qE;clear qE afV;go_wp2_with fail;refine bodyPost_ret (v:=iV A n cap o p th) (by simp[iV,results,Tryz.results83,go_sem,e0,e1,e2,e3,e4,e5,e6,e7,e8,e9]) rfl ⟨⟨p,th,HP.out,rfl⟩,aU.out⟩
end Go.Proofs.YtodaapcohdpenaaGreat
namespace Go.Proofs.YtodaapcohdpenaaGreat
open Go.RowKit
def WL (w:World) (l:List (au×Value)):Prop:=∀p∈l,om p.1∧∃E m c,p.2= .slice E m c∧m≤c∧dh w E m p.1.extra
theorem WL.sl {w:World} {l:List (au×Value)} (h:WL w l):wm l:=fun p hp=>by
 obtain⟨_,E,m,c,e,_⟩:=h p hp;exact⟨E,m,c,e⟩
theorem gW.pairs {w:World} {A:Option Addr} {n:Nat} {t:List au} (h:gW w A n t):∃l:List (au×Value),l.map Prod.fst=t∧uV w A n l∧WL w l:=by
 obtain⟨hn,hm,hw,hc⟩:=h;rcases Nat.eq_zero_or_pos n with h0|hp
 ·have ht:t=[]:=List.eq_nil_of_length_eq_zero (by omega);subst ht;exact⟨[],rfl,⟨by simpa using h0,hm,fun h=>by omega⟩,fun p hp=>nomatch hp⟩
 ·obtain⟨b,off,hA,hb,hat⟩:=hc hp;have hch:∀i:Nat,∃x:Value,i<t.length→∃E m c,x= .slice E m c∧kH w b (off+i*6) (atR t i) x∧m≤c∧dh w E m (atR t i).extra:=fun i=>by
   by_cases hi:i<t.length
   ·obtain⟨E,m,c,h1,h2,h3⟩:=hat i hi;exact⟨_,fun _=>⟨E,m,c,rfl,h1,h2,h3⟩⟩
   ·exact⟨undef,fun h=>absurd h hi⟩
  obtain⟨f,hf⟩:=Classical.axiomOfChoice hch;have hlen:((List.range t.length).map fun i=>(atR t i,f i)).length=t.length:=by simp
  have CY:∀i,i<t.length→aK ((List.range t.length).map fun i=>(atR t i,f i)) i=(atR t i,f i):=fun i hi=>by
   rw[sJ (by rw[hlen];exact hi)];simp
  refine⟨(List.range t.length).map fun i=>(atR t i,f i),?_,⟨by rw[hlen,hn],hm,fun _=>⟨b,off,hA,hb,fun i hi=>?_⟩⟩,fun p hp=>?_⟩
  ·refine List.ext_getElem (by simp) fun i h1 h2=>?_;simp only[List.getElem_map,List.getElem_range];exact jw h2
  ·rw[hlen]at hi;rw[CY i hi];obtain⟨E,m,c,_,h1,_⟩:=hf i hi;exact h1
  ·obtain⟨i,hi,rfl⟩:=List.mem_map.1 hp;have hi2:i<t.length:=by simpa using hi
   obtain⟨E,m,c,e,_,h2,h3⟩:=hf i hi2;exact⟨hw _ (sK hi2),E,m,c,e,h2,h3⟩
theorem aeH (A:Option Addr) (n cap:Nat) (l:List (au×Value)) (w:World) (h:uV w A n l) (hs:wm l) (h20:n≤1000):
  Calls Tryz.prog 141 #[.slice A n cap] w fun e w'=>∃v,e= .returned v∧bf w' w.heap.size v l∧Below w.heap.size w w':=by
 have q22:∀(w:World) (a:Option Addr) (n c n' c':Nat),(binOp .eql 23 (.slice a n c) (.slice none n' c')).run Tryz.prog w= .ok (.bool a.isNone) w:=fun w a n c n' c'=>Lib.run_eql_slice_nil w _ _ a n c n' c' Tryz.underlying23;have HN:=ah h.1;have EW:=ah h;clear h;have HSL:=ah hs;clear hs;go_enter Tryz.func141,Tryz.ntmps141
 cases A with
 |none=>
  have hn0:n=0:=by
   rcases Nat.eq_zero_or_pos n with h|h
   ·exact h
   ·obtain⟨b,off,e,_⟩:=EW.out.2.2 h;cases e
  have hl:l=[]:=List.eq_nil_of_length_eq_zero (by rw[←HN.out,hn0]);subst hl;clear hn0;go_wp2_with fail;go_ret;exact⟨_,rfl,R5 _ _,Below.refl _ _⟩
 |some a=>
  go_wp2_with (at_builtin;refine Jv rfl _ _ rfl w.heap.size _ [] rfl (World.ownsRow_made w #[] 0 (Nat.le_refl _) (Nat.zero_le _) rfl) (some a) n cap l rfl (EW.out.below ((Below.refl _ w).alloc (Nat.le_refl _) _)) HSL.out (by simp;omega) (by simp) ?_);intro v1 w1 hrow hgrow;have hb:Below w.heap.size w w1:=((Below.refl _ w).alloc (Nat.le_refl _) _).grown hgrow (by simp) (by intro k hk;simp[Value.ownBlock]at hk;omega);have HR:Hid (bf w1 w.heap.size v1 l):=hrow;clear hrow hgrow;go_wp2_with fail;go_ret;exact⟨_,rfl,HR.out,hb⟩
def acf (w:World) (fs:List aT) (e:Ending) (w':World):Prop:=
 ∃E m c,e= .returned (.slice E m c)∧m≤c∧dh w' E m fs∧Gc w' E m∧Below w.heap.size w w'
theorem aeG (A:Option Addr) (n cap:Nat) (fs:List aT) (w:World) (h:dh w A n fs) (M0:n*24≤140737488351232):
  Calls Tryz.prog 142 #[.slice A n cap] w (acf w fs):=by
 have q22:∀(w:World) (a:Option Addr) (n c n' c':Nat),(binOp .eql 66 (.slice a n c) (.slice none n' c')).run Tryz.prog w= .ok (.bool a.isNone) w:=fun w a n c n' c'=>Lib.run_eql_slice_nil w _ _ a n c n' c' Tryz.underlying66;have HN:=ah h.1;have tX:=ah h;clear h;have WS:=ah M0;clear M0;go_enter Tryz.func142,Tryz.ntmps142
 cases A with
 |none=>
  have hn0:n=0:=by
   rcases Nat.eq_zero_or_pos n with h|h
   ·exact h
   ·obtain⟨b,off,e,_⟩:=tX.out.2.2.2 h;cases e
  have hl:fs=[]:=List.eq_nil_of_length_eq_zero (by rw[←HN.out,hn0]);subst hl;clear hn0;go_wp2_with fail;go_ret;exact⟨none,0,0,rfl,Nat.le_refl _,vE _ _,fun h=>by omega,Below.refl _ _⟩
 |some a=>
  go_wp2_with (at_builtin;refine aif rfl _ _ rfl w.heap.size _ [] rfl (World.ownsRow_made w #[] 0 (Nat.le_refl _) (Nat.zero_le _) rfl) (some a) n cap fs rfl (tX.out.below ((Below.refl _ w).alloc (Nat.le_refl _) _)) (by have:=WS.out;simp;omega) (by simp) ?_);intro v1 w1 hrow hgrow;obtain⟨A2,cap2,hv2,hcap2,mD⟩:=sV hrow tX.out.2.2.1;subst hv2;have vg:=agQ hrow;have hb:Below w.heap.size w w1:=((Below.refl _ w).alloc (Nat.le_refl _) _).grown hgrow (by simp) (by intro k hk;simp[Value.ownBlock]at hk;omega);have HR:Hid (acf w fs (.returned (.slice A2 fs.length cap2)) w1):=⟨A2,_,cap2,rfl,hcap2,mD,vg,hb⟩;clear hrow hgrow vg mD hb;go_wp2_with fail;go_ret;exact HR.out
theorem aeM (t:List au) (A:Option Addr) (n cap:Nat) (w:World) (h:gW w A n t) (h20:n≤1000):
  Calls Tryz.prog 174 #[.slice A n cap] w (PW w t):=by
 obtain⟨l,hlm,hps,hex⟩:=h.pairs;have HN:Hid (n=l.length):=hps.1;have q:=aeH A n cap l w hps hex.sl h20;have OW:=ah hlm;clear hlm hps h;have wW:=ah hex;clear hex;go_enter Tryz.func174,Tryz.ntmps174;go_wp2_with fail
 ((with_reducible refine q.mono ?_);rintro e W1 ⟨v,rfl,hrow,b1⟩)
 clear q;obtain⟨A1,dP,hv,hc1,_⟩:=hrow.parts;rw[←HN.out]at hv;subst hv;have HR1:=ah hrow;clear hrow;have HB1:=ah b1;clear b1;go_wp2_with fail;go_loopw [9] (fun i wy=>∃(k:Nat) (wr:World) (lk:List (au×Value)),wr=wy∧k≤n∧i= .int .i64 k∧bf wr w.heap.size (.slice A1 n dP) lk∧lk.map Prod.fst=l.map Prod.fst∧(∀j,j<k→oQ wr (aK lk j))∧(∀j,k≤j→aK lk j=aK l j)∧Below w.heap.size w wr) (fun i _=>n-(intOf i).toNat)
 case atStart=>exact⟨0,_,l,rfl,by omega,rfl,HR1.out,rfl,(fun j hj=>by omega),(fun j hj=>rfl),HB1.out⟩
 case round=>
  clear HR1 HB1;obtain⟨k,wr,lk,rfl,hk,rfl,hrow,hmap,hdone,hrest,hb⟩:=hrel;have eY:=ah hrow;clear hrow;have g_:=ah hmap;clear hmap;have Gt:=ah hdone;clear hdone;have Ch:=ah hrest;clear hrest;have HB:=ah hb;clear hb;have lq:Hid (lk.length=n):=by have:=congrArg List.length g_.out;simp only[List.length_map]at this;show _=_;have:=HN.out;omega
  by_cases hlt:k<n
  ·have hki:(k:Int)<(n:Int):=by omega
   have hk0:(0:Int)≤(k:Int):=by omega
   have qM:Hid (k<lk.length):=by have:=lq.out;show k<_;omega
   have AZ:Hid (k<l.length):=by have:=HN.out;show k<_;omega
   obtain⟨g,hA,hbg⟩:=eY.out.qh qM.out;subst hA;obtain⟨hrw,E,m,c,he,hmc,hfs⟩:=wW.out _ (yM AZ.out);have hx:=eY.out.six qM.out;rw[Ch.out k (Nat.le_refl _),he]at hx;obtain⟨x0,x1,x2,x3,x4,x5⟩:=hx;have HRW:=ah hrw;clear hrw;have HKK:Hid ((aK lk k).1=(aK l k).1):=by show _=_;rw[Ch.out k (Nat.le_refl _)]
   have q:=aeG E m c (aK l k).1.extra wr (hfs.below HB.out) (by have h1:=HRW.out.2.2.2;have h2:=hfs.1;omega);have Pb:Hid (∀E2 m2 c2 (W:World),m2≤c2→dh W E2 m2 (aK l k).1.extra→Gc W E2 m2→oQ W ((aK l k).1,.slice E2 m2 c2)):=fun E2 m2 c2 W h1 h2 h3=>⟨E2,m2,c2,rfl,h1,h2,h3⟩;clear hfs he;have rO:wr.frozen? ⟨g,k*6+5,none⟩=false:=eY.out.frozen;have gu:Hid (∀(W:World) (u:Value),bf W w.heap.size (.slice (some ⟨g,0,none⟩) n dP) lk→bf (W.setCell ⟨g,k*6+5,none⟩ u) w.heap.size (.slice (some ⟨g,0,none⟩) n dP) (lk.set k ((aK l k).1,u))):=fun W u h=>(bf.set h k 5 u ((aK l k).1,u) qM.out (by omega) (by rw[←HKK.out];rfl)).1;have Gr:Hid (∀(W:World),bf W w.heap.size (.slice (some ⟨g,0,none⟩) n dP) lk→∃cs fr,W.heap[g]? =some (.cells cs 68 fr)):=fun W h=>h.block g (by simp[Value.ownBlock]);have zA:Hid (∀u,(lk.set k ((aK l k).1,u)).map Prod.fst=l.map Prod.fst):=fun u=>by
    rw[Jb,g_.out];refine List.ext_getElem (by simp) fun i h1 h2=>?_;rw[List.getElem_set];split
    ·rename_i e;subst e;rw[List.getElem_map,sJ AZ.out]
    ·rfl
   have vo:g<wr.heap.size:=by obtain⟨cs,fr,h2⟩:=Gr.out wr eY.out;exact fF h2
   generalize(aK l k).1=r at*;go_wp2_with fail
   ((with_reducible refine q.mono ?_);rintro e W2 ⟨E2,m2,c2,rfl,IU,mD,vg,b2⟩)
   clear q;have y5:=(b2.cell (p:=⟨g,k*6+5,none⟩) vo).trans x5;have g5:=(b2.frozen (p:=⟨g,k*6+5,none⟩) vo).trans rO;have hrow2:=eY.out.below b2;have HR3:=ah (gu.out W2 (.slice E2 m2 c2) hrow2);obtain⟨cs2,zR,hblk2⟩:=Gr.out W2 hrow2;have hkeep:=rG W2 g (k*6+5) (.slice E2 m2 c2);have jP:Hid (oQ (W2.setCell ⟨g,k*6+5,none⟩ (.slice E2 m2 c2)) (r,.slice E2 m2 c2)):=(Pb.out E2 m2 c2 W2 IU mD vg).kept hkeep (fun q hq=>by cases hq;exact⟨_,_,hblk2⟩);have HD3:Hid (∀j,j<k→oQ (W2.setCell ⟨g,k*6+5,none⟩ (.slice E2 m2 c2)) (aK lk j)):=fun j hj=>((Gt.out j hj).below b2).kept hkeep (fun q hq=>by cases hq;exact⟨_,_,hblk2⟩);have HB3:Hid (Below w.heap.size w (W2.setCell ⟨g,k*6+5,none⟩ (.slice E2 m2 c2))):=(aA HB.out b2).setCell (p:=⟨g,k*6+5,none⟩) hbg _;clear x0 x1 x2 x3 x4 x5 rO hrow2 hblk2 hkeep mD vg IU b2 vo;go_wp2_with fail;go_roundw
   case rel=>
    refine⟨k+1,_,lk.set k (r,.slice E2 m2 c2),rfl,by omega,by go_num,HR3.out,zA.out _,fun j hj=>?_,fun j hj=>?_,HB3.out⟩
    ·rcases(by omega:j<k∨j=k)with h|rfl
     ·have:aK (lk.set k (r,.slice E2 m2 c2)) j=aK lk j:=by
       have h1:=lq.out;rw[sJ (by rw[List.length_set];omega),List.getElem_set_ne (by omega),sJ (by omega)]
      rw[this];exact HD3.out j h
     ·rw[xD qM.out];exact jP.out
    ·have:aK (lk.set k (r,.slice E2 m2 c2)) j=aK lk j:=by
      unfold aK;rw[List.getD_eq_getElem?_getD,List.getD_eq_getElem?_getD,List.getElem?_set_ne (by omega)]
     rw[this];exact Ch.out j (by omega)
   case measure=>simp[intOf];omega
  ·have hke:k=n:=by omega
   subst hke;have iH:Hid (fK wr lk):=fun p hp=>by
    obtain⟨j,hj,rfl⟩:=List.getElem_of_mem hp;have h1:=Gt.out j (by have:=lq.out;omega);rw[sJ hj]at h1;refine⟨?_,h1⟩;have hj2:j<l.length:=by have:=lq.out;have:=HN.out;omega
    have h2:=(wW.out _ (yM hj2)).1;have h3:(aK l j).1=(aK lk j).1:=by
     rw[Cz l hj2,Cz lk hj,g_.out]
    rw[h3,sJ hj]at h2;exact h2
   have zB:Hid (lk.map Prod.fst=t):=g_.out.trans OW.out;clear hlt;go_wp2_with fail;go_ret;exact⟨_,lk,rfl,eY.out,zB.out,iH.out,HB.out⟩
end Go.Proofs.YtodaapcohdpenaaGreat
namespace Go.Proofs.YtodaapcohdpenaaGreat
open Go.RowKit
def EB:Array Value→Nat→List Value→Array Value
 |cur,_,[]=>cur
 |cur,o,v::r=>EB (cur.setIfInBounds o v) (o+1) r
theorem Fx {g:Nat} {T:TypeId}:∀(vs:List Value) (o:Nat) (cur:Array Value) (W:World),aj W g (.cells cur T (0,0))→aj (W.setCells g o vs) g (.cells (EB cur o vs) T (0,0))
 |[],_,_,_,h=>h
 |v::r,o,cur,W,h=>Fx r (o+1) _ _ (aj.set h o v _ rfl)
theorem Ar:∀(vs:List Value) (o:Nat) (cur:Array Value),(EB cur o vs).size=cur.size
 |[],_,_=>rfl
 |v::r,o,cur=>by rw[EB,Ar r];simp
theorem Le:∀(vs:List Value) (o:Nat) (cur:Array Value),o+vs.length≤cur.size→(EB cur o vs).toList=cur.toList.take o++(vs++cur.toList.drop (o+vs.length))
 |[],o,cur,_=>by simp[EB]
 |v::r,o,cur,h=>by
  rw[List.length_cons]at h;have ho:o<cur.toList.length:=by simp;omega
  rw[EB,Le r (o+1) _ (by simp;omega),Array.toList_setIfInBounds,List.set_eq_take_append_cons_drop,if_pos ho];have hl:(cur.toList.take o).length=o:=by rw[List.length_take];omega
  have e1:(cur.toList.take o++v::cur.toList.drop (o+1)).take (o+1)=cur.toList.take o++[v]:=by
   rw[List.take_append,hl,List.take_of_length_le (by rw[hl];omega),show o+1-o=1 by omega];rfl
  have e2:(cur.toList.take o++v::cur.toList.drop (o+1)).drop (o+1+r.length)=cur.toList.drop (o+(v::r).length):=by
   rw[List.drop_append,hl,List.drop_of_length_le (by rw[hl];omega),show o+1+r.length-o=r.length+1 by omega,List.nil_append,List.drop_succ_cons,List.drop_drop,List.length_cons,show o+1+r.length=o+(r.length+1) by omega]
  rw[e1,e2,List.append_assoc];rfl
theorem FC (g:Nat):∀(vs:List Value) (o:Nat) (w:World),w.grownBy (w.setCells g o vs) (some g)
 |[],_,w=>⟨rfl,rfl,rfl,Nat.le_refl _,fun _ _ _=>rfl⟩
 |v::r,o,w=>(rG w g o v).trans (FC g r (o+1) _)
theorem afr (w:World) (row:Option Nat):w.grownBy w.drew row:=⟨rfl,rfl,rfl,Nat.le_refl _,fun _ _ _=>rfl⟩
theorem ahE (b:Nat):∀(vs:List Value) (o:Nat) (w:World),w.drew.setCells b o vs=(w.setCells b o vs).drew
 |[],_,_=>rfl
 |v::r,o,w=>ahE b r (o+1) (w.setCell ⟨b,o,none⟩ v)
theorem Ig (p:au×Value):(kK p).length=6:=rfl
theorem ahY {l:List (au×Value)} {i:Nat} (hi:i≤l.length):(bV l).take (i*6)=bV (l.take i):=by
 have hl:(l.take i).length=i:=by rw[List.length_take];omega
 have e:bV l=bV (l.take i)++bV (l.drop i):=by rw[←CJ,List.take_append_drop]
 rw[e,List.take_left' (by rw[qy,hl])]
theorem ae1 {l:List (au×Value)} {i:Nat} (hi:i≤l.length):(bV l).drop (i*6)=bV (l.drop i):=by
 have hl:(l.take i).length=i:=by rw[List.length_take];omega
 have e:bV l=bV (l.take i)++bV (l.drop i):=by rw[←CJ,List.take_append_drop]
 rw[e,List.drop_left' (by rw[qy,hl])]
theorem abA {W:World} {base g cap n:Nat} {cur:Array Value} {l:List (au×Value)} (hb:base≤g) (hk:aj W g (.cells cur 68 (0,0))) (hs:cur.size=cap*6) (hc:cap≤maxLen) (hl:l.length=n) (hn:n≤cap) (ht:cur.toList.take (n*6)=bV l):bf W base (.slice (some ⟨g,0,none⟩) n cap) l:=
 ⟨by rw[qy],.inr ⟨g,cap,cur,by rw[hl],hb,hk,by rw[hl];exact hn,hc,hs,by rw[hl];exact ht⟩⟩
theorem bf.blk {W:World} {base g cap n:Nat} {l:List (au×Value)} (h:bf W base (.slice (some ⟨g,0,none⟩) n cap) l):∃cur,base≤g∧aj W g (.cells cur 68 (0,0))∧cur.size=cap*6∧cap≤maxLen∧n=l.length∧n≤cap∧cur.toList.take (n*6)=bV l:=by
 rcases h.2 with⟨h1,_⟩|⟨g2,cap2,cur,h1,hb,hh,hnc,hcm,hcs,htk⟩
 ·simp at h1
 ·simp only[Value.slice.injEq,Option.some.injEq,Addr.mk.injEq,and_true]at h1;obtain⟨rfl,rfl,rfl⟩:=h1;exact⟨cur,hb,hh,hcs,hcm,rfl,hnc,htk⟩
theorem aa0 {l:List (au×Value)} {q:au×Value} {i:Nat} (hi:i≤l.length):(l.take i++q::l.drop i).length=l.length+1:=by
 rw[List.length_append,List.length_cons,List.length_take,List.length_drop];omega
theorem agf {l:List (au×Value)} {q:au×Value} {i:Nat}:bV (l.take i++q::l.drop i)=bV (l.take i)++(kK q++bV (l.drop i)):=by rw[CJ,Qh]
theorem asM {W:World} {base g cap i:Nat} {cur:Array Value} {l:List (au×Value)} {q:au×Value} (hb:base≤g) (hk:aj W g (.cells cur 68 (0,0))) (hs:cur.size=cap*6) (hc:cap≤maxLen) (hn:l.length+1≤cap) (hi:i≤l.length) (ht:cur.toList.take (i*6)=bV (l.take i)):
  bf ((W.setCells g ((i+1)*6) (bV (l.drop i))).setCells g (i*6) (kK q)) base (.slice (some ⟨g,0,none⟩) (l.length+1) cap) (l.take i++q::l.drop i):=by
 have hd:(bV (l.drop i)).length=(l.length-i)*6:=by rw[qy,List.length_drop]
 have hcl:cur.toList.length=cap*6:=by simp[hs]
 have hT:(bV (l.take i)).length=i*6:=by rw[qy,List.length_take];omega
 refine abA hb (Fx _ _ _ _ (Fx _ _ _ _ hk)) (by rw[Ar,Ar];exact hs) hc (aa0 hi) hn ?_;rw[Le _ _ _ (by rw[Ar,Ig];omega),Le _ _ _ (by rw[hd];omega),agf];have e1:(cur.toList.take ((i+1)*6)++(bV (l.drop i)++cur.toList.drop ((i+1)*6+(bV (l.drop i)).length))).take (i*6)=bV (l.take i):=by
  rw[List.take_append_of_le_length (by rw[List.length_take];omega),List.take_take,Nat.min_eq_left (by omega)];exact ht
 have e2:(cur.toList.take ((i+1)*6)++(bV (l.drop i)++cur.toList.drop ((i+1)*6+(bV (l.drop i)).length))).drop (i*6+(kK q).length)=bV (l.drop i)++cur.toList.drop ((i+1)*6+(bV (l.drop i)).length):=by
  rw[List.drop_left' (by rw[List.length_take,Ig];omega)]
 rw[e1,e2,←List.append_assoc,←List.append_assoc,List.append_assoc (bV (l.take i)),List.take_left' (by rw[List.length_append,List.length_append,hT,Ig,hd];omega)]
theorem asN {W:World} {base g cap i:Nat} {cur:Array Value} {l:List (au×Value)} {q:au×Value} (hb:base≤g) (hk:aj W g (.cells cur 68 (0,0))) (hs:cur.size=cap*6) (hc:cap≤maxLen) (hn:l.length+1≤cap) (hi:i≤l.length) (ht:cur.toList.take (i*6)=bV (l.take i)):
  bf ((W.setCells g (i*6) (kK q)).setCells g ((i+1)*6) (bV (l.drop i))) base (.slice (some ⟨g,0,none⟩) (l.length+1) cap) (l.take i++q::l.drop i):=by
 have hd:(bV (l.drop i)).length=(l.length-i)*6:=by rw[qy,List.length_drop]
 have hcl:cur.toList.length=cap*6:=by simp[hs]
 have hT:(bV (l.take i)).length=i*6:=by rw[qy,List.length_take];omega
 refine abA hb (Fx _ _ _ _ (Fx _ _ _ _ hk)) (by rw[Ar,Ar];exact hs) hc (aa0 hi) hn ?_;rw[Le _ _ _ (by rw[Ar,hd];omega),Le _ _ _ (by rw[Ig];omega),agf,ht];have e1:(bV (l.take i)++(kK q++cur.toList.drop (i*6+(kK q).length))).take ((i+1)*6)=bV (l.take i)++kK q:=by
  rw[←List.append_assoc,List.take_left' (by rw[List.length_append,hT,Ig];omega)]
 rw[e1,←List.append_assoc,List.take_left' (by rw[List.length_append,List.length_append,hT,Ig,hd];omega),List.append_assoc]
theorem VU (w:World) (ty:TypeId) (b o dLen dCap:Nat) (a:Addr) (sLen sCap k:Nat) (cs:List Value) (hk:Nat.min sLen dLen=k) (hn:cs.length=k*6)
  (hsrc:∀j v,cs[j]? =some v→w.cell? (a.add j)=some v) (hc:∀j,j<cs.length→(w.cell? ⟨b,o+j,none⟩).isSome=true) (hf:∀j,j<cs.length→w.frozen? ⟨b,o+j,none⟩=false) (h1:∀v∈cs,v.oneCell'=true):
  (Builtin.copy_ #[23,23] ty #[.slice (some ⟨b,o,none⟩) dLen dCap,.slice (some a) sLen sCap]).run Tryz.prog w= .ok (.int .i64 k) (w.setCells b o cs):=by
 obtain⟨i0,hi,_,hz1,_⟩:=info_parts KS;have hl:=run_loadCells_list (P:=Tryz.prog) w a cs hsrc;have hst:=run_storeCells_cells (P:=Tryz.prog) b o cs 0 w (by simpa using hc) (by simpa using hf) h1;rw[hn]at hl;simp[Builtin.copy_,run_underlying Tryz.underlying23,Builtin.lenOf,Builtin.firstCells,sizeOf,typeInfo,hi,hz1,hk,hl,hst,goInt]
theorem ahU {w:World} {ops:Array Oper} {o:Oper} {a:Act} {K:Act→World→Prop} {Q:Exit→Act→World→Prop} {E:Prop} (hgd:o.guard=none) (d x:Operand)
  (ho:o.op= .call { callee:=.builtin .copy,args:=#[d,x],argTypes:=#[23,23] }) (v u:Value) (hd:a.eval d=v) (hx:a.eval x=u) {v1:Value} {w1:World}
  (hr:(Builtin.copy_ #[23,23] o.type #[v,u]).run Tryz.prog w= .ok v1 w1) (h:K (a.put o.dst v1) w1):
  if Region.wanted o (yielded ops a.tmps)=true then Oper.wp Tryz.prog o a w K Q else E:=by
 have hw:Region.wanted o (yielded ops a.tmps)=true:=by simp[Region.wanted,hgd]
 rw[if_pos hw];unfold Oper.wp execOp;simp only[ho,resolve,invoke,builtin,Sem.run_bind,Sem.run_pure,Result.andThen_ok,List.map_toArray,List.map_cons,List.map_nil,hd,hx,hr];exact h
theorem amW {q:au×Value} {E:Option Addr} {m c:Nat} (h:q.2= .slice E m c):∀v∈kK q,v.oneCell'=true:=by
 intro v hv;simp[kK,h]at hv;rcases hv with rfl|rfl|rfl|rfl|rfl|rfl<;>rfl
theorem ahL {W:World} {b o:Nat} {q:au×Value} (h:kH W b o q.1 q.2):∀j u,(kK q)[j]? =some u→W.cell? ((⟨b,o,none⟩:Addr).add j)=some u:=by
 intro j u hj;have hl:j<6:=(List.getElem?_eq_some_iff.1 hj).1;rw[addr_add];obtain⟨c0,c1,c2,c3,c4,c5⟩:=h;rcases(by omega:j=0∨j=1∨j=2∨j=3∨j=4∨j=5)with rfl|rfl|rfl|rfl|rfl|rfl
 ·rw[←hj];exact c0
 ·rw[←hj];exact c1
 ·rw[←hj];exact c2
 ·rw[←hj];exact c3
 ·rw[←hj];exact c4
 ·rw[←hj];exact c5
theorem MF {W:World} {g:Nat} {cur:Array Value} {T:TypeId} (h:aj W g (.cells cur T (0,0))) {j:Nat} (hj:j<cur.size):(W.cell? ⟨g,j,none⟩).isSome=true:=by
 rw[aj.cell h j,Array.getElem?_eq_getElem hj];rfl
theorem Ui {W:World} {g o:Nat} {cur:Array Value} {T:TypeId} {cs:List Value} (h:aj W g (.cells cur T (0,0))) (hc:(cur.toList.drop o).take cs.length=cs):∀j u,cs[j]? =some u→W.cell? ((⟨g,o,none⟩:Addr).add j)=some u:=by
 intro j u hj;have hl:j<cs.length:=(List.getElem?_eq_some_iff.1 hj).1;rw[addr_add,aj.cell h,←Array.getElem?_toList,←hj];have e:cs[j]? =((cur.toList.drop o).take cs.length)[j]? :=by rw[hc]
 rw[e,List.getElem?_take,if_pos hl,List.getElem?_drop]
end Go.Proofs.YtodaapcohdpenaaGreat
namespace Go.Proofs.YtodaapcohdpenaaGreat
open Go.RowKit
def alJ (w:World) (base:Nat) (row:Option Nat) (l:List (au×Value)) (q:au×Value) (i:Nat) (e:Ending) (w':World):Prop:=
 ∃v,e= .returned v∧bf w' base v (l.take i++q::l.drop i)∧w.grownBy w' row
theorem arB {w:World} {vb:Nat} {q:au×Value} (h:aj w vb (.cells (aC q.1 q.2) 68 (0,0))):uV w (some ⟨vb,0,none⟩) 1 [q]:=
 ⟨rfl,by unfold maxLen;omega,fun _=>⟨vb,0,rfl,aj.lt h,fun i hi=>by
  have:i=0:=by simpa using hi
  subst this;exact⟨aj.cell h 0,aj.cell h 1,aj.cell h 2,aj.cell h 3,aj.cell h 4,aj.cell h 5⟩⟩⟩
theorem ap2 (l:List (au×Value)) (q:au×Value) (A:Option Addr) (n cap i base vb:Nat) (w:World) (hrow:bf w base (.slice A n cap) l) (hn:n=l.length) (hi:i≤n) (h20:n≤20) (hbase:base≤w.heap.size)
  (hv:aj w vb (.cells (aC q.1 q.2) 68 (0,0))) (hq:∃E m c,q.2= .slice E m c) (hvb:(Value.slice A n cap).ownBlock≠some vb) (hsl:wm l):
  Calls Tryz.prog 194 #[.slice A n cap,.int .i64 i,.slice (some ⟨vb,0,none⟩) 1 1] w (alJ w base (Value.slice A n cap).ownBlock l q i):=by
 have nL:Hid (wm [q]):=fun p hp=>by rw[List.mem_singleton]at hp;rw[hp];exact hq
 have EW:=ah (arB hv);have HSL:=ah hsl;clear hsl;have HN:=ah hn;clear hn;have Ol:=ah hbase;clear hbase;have hcap:n≤cap:=by
  rcases hrow.2 with⟨h1,h2⟩|⟨g,cp,cur,h1,_,_,h3,_⟩
  ·simp only[Value.slice.injEq]at h1;omega
  ·simp only[Value.slice.injEq]at h1;have:=HN.out;omega
 have hin:(i:Int)≤(n:Int):=by omega
 have hi0:(0:Int)≤(i:Int):=by omega
 rcases Nat.lt_or_eq_of_le hi with hlt|heq;rotate_left
 ·subst heq;have JY:Hid (l.take i++q::l.drop i=l++[q]):=by show _=_;rw[HN.out,List.take_length,List.drop_length]
  have eY:=ah hrow;clear hrow;obtain⟨X,hX⟩:∃X,(if cap=i then A else Option.map (fun x=>x.add (i*6)) A)=X:=⟨_,rfl⟩;clear hvb hq hv;go_enter Tryz.func194,Tryz.ntmps194;go_wp2_with (at_builtin;refine Jv rfl _ _ rfl base _ l rfl eY.out (some ⟨vb,0,none⟩) 1 1 [q] rfl EW.out nL.out (by have:=HN.out;omega) Ol.out ?_)
  all_goals
   intro v1 w1 vC KN;have HR1:=ah vC;clear vC;have nZ:=ah KN;clear KN;go_wp2_with fail;go_ret;exact⟨_,rfl,by rw[JY.out];exact HR1.out,nZ.out⟩
 obtain⟨g,hA,hbg⟩:=hrow.qh (i:=i) (by have:=HN.out;omega);subst hA;obtain⟨cur,IG,hblk,hcs,hcm,jy,pJ,htk⟩:=hrow.blk;clear IG jy pJ;have Rl:vb≠g:=fun e=>hvb (by rw[e];rfl);have jB:Hid (i<l.length):=by have:=HN.out;show i<_;omega
 have hpre:cur.toList.take (i*6)=bV (l.take i):=by
  rw[←ahY (Nat.le_of_lt jB.out),←htk,List.take_take,Nat.min_eq_left (by omega)]
 have BA:(cur.toList.drop (i*6)).take (bV (l.drop i)).length=bV (l.drop i):=by
  have hd:(bV (l.drop i)).length=(n-i)*6:=by rw[qy,List.length_drop,HN.out]
  rw[←ae1 (Nat.le_of_lt jB.out),←htk,List.drop_take,List.length_take,List.length_drop,Array.length_toList,hcs];exact congrArg (fun k=>(cur.toList.drop (i*6)).take k) (by simp only[Nat.min_def];split<;>omega)
 have hd:(bV (l.drop i)).length=(n-i)*6:=by rw[qy,List.length_drop,HN.out]
 have hone:∀v∈bV (l.drop i),v.oneCell'=true:=Qi (fun p hp=>HSL.out p (List.mem_of_mem_drop hp));obtain⟨Eq,mq,cq,hq2⟩:=hq;have FP:=amW hq2;have KP:kH w vb 0 q.1 q.2:=⟨aj.cell hv 0,aj.cell hv 1,aj.cell hv 2,aj.cell hv 3,aj.cell hv 4,aj.cell hv 5⟩;have hc1:¬(cap=i):=by omega
 have hz1:¬((i:Int)=(n:Int)):=by omega
 have hz2:((i:Int)==(n:Int))=false:=by rw[beq_eq_false_iff_ne];exact hz1
 have hwn:IntKind.i64.wrap ((n:Int)+1)=(n:Int)+1:=IntWalk.i64_in _ (by omega);have hwi:IntKind.i64.wrap ((i:Int)+1)=(i:Int)+1:=IntWalk.i64_in _ (by omega)
 by_cases hroom:n+1≤cap
 ·have rz:Hid (∀W:World,aj W g (.cells cur 68 (0,0))→bf ((W.setCells g ((i+1)*6) (bV (l.drop i))).setCells g (i*6) (kK q)) base (.slice (some ⟨g,0,none⟩) (n+1) cap) (l.take i++q::l.drop i)):=fun W hk=>by
   have:=asM (q:=q) hbg hk hcs hcm (by have:=HN.out;omega) (Nat.le_of_lt jB.out) hpre;rw[←HN.out]at this;exact this
  have hov:∀(lb cb:Nat),(callFunc 207 #[.slice (some ⟨vb,0,none⟩) 1 1,.slice (some ⟨g,(i+1)*6,none⟩) lb cb]).run Tryz.prog w= .ok (.value (.bool false)) w:=fun lb cb=>by
   have aaO:w.shape? vb=some (68,6):=by unfold World.shape?;rw[show w.heap[vb]? =_ from hv];rfl
   have aaN:w.shape? g=some (68,cap*6):=by unfold World.shape?;rw[show w.heap[g]? =_ from hblk];exact congrArg (fun k=>some (68,k)) hcs
   obtain⟨i0,hi0,_,hs0,_⟩:=info_parts KS;rw[run_callFunc_extern Tryz.func207 (by kernel_rfl) (by kernel_rfl) (by kernel_rfl) (e:=Extern.SlicesOverlaps.overlaps #[23,23] #[4]) (by kernel_rfl),
    Lib.run_overlaps_apart w 23 4 68 Tryz.underlying23 6 (fun w=>by simp[sizeOf,typeInfo,hi0,hs0]) ⟨vb,0,none⟩ ⟨g,(i+1)*6,none⟩ 1 1 lb cb Rl 68 68 6 (cap*6) aaO aaN (by omega) (aj.frozen hv 0) (aj.frozen hv 6)]
   rfl
  have hcp1:∀(ty:TypeId) (o2 dl dc o3 sl sc:Nat),o2=(i+1)*6→o3=i*6→Nat.min sl dl=n-i→(Builtin.copy_ #[23,23] ty #[.slice (some ⟨g,o2,none⟩) dl dc,.slice (some ⟨g,o3,none⟩) sl sc]).run Tryz.prog w.drew= .ok (.int .i64 (n-i:Nat)) (w.drew.setCells g ((i+1)*6) (bV (l.drop i))):=fun ty o2 dl dc o3 sl sc h2 h3 hm=>by
   subst h2 h3;exact VU w.drew ty g _ dl dc ⟨g,_,none⟩ sl sc (n-i) _ hm hd (Ui (aj.drew hblk) BA) (fun j hj=>MF (aj.drew hblk) (by rw[hcs];omega)) (fun j hj=>aj.frozen (aj.drew hblk) _) hone
  obtain⟨W1,hW1⟩:=aQ (w.drew.setCells g ((i+1)*6) (bV (l.drop i)));have hblk1:aj W1 g (.cells (EB cur ((i+1)*6) (bV (l.drop i))) 68 (0,0)):=by rw[←hW1];exact Fx _ _ _ _ (aj.drew hblk)
  have hv1:kH W1 vb 0 q.1 q.2:=by
   have hk:=FC g (bV (l.drop i)) ((i+1)*6) w.drew;rw[hW1]at hk;have hvk:aj W1 vb (.cells (aC q.1 q.2) 68 (0,0)):=aj.kept (aj.drew hv) hk (fun e=>Rl (by cases e;rfl));exact⟨aj.cell hvk 0,aj.cell hvk 1,aj.cell hvk 2,aj.cell hvk 3,aj.cell hvk 4,aj.cell hvk 5⟩
  have hcp2:∀(ty:TypeId) (o2 dl dc sl sc:Nat),o2=i*6→Nat.min sl dl=1→(Builtin.copy_ #[23,23] ty #[.slice (some ⟨g,o2,none⟩) dl dc,.slice (some ⟨vb,0,none⟩) sl sc]).run Tryz.prog W1= .ok (.int .i64 (1:Nat)) (W1.setCells g (i*6) (kK q)):=fun ty o2 dl dc sl sc h2 hm=>by
   subst h2;exact VU W1 ty g _ dl dc ⟨vb,0,none⟩ sl sc 1 _ hm rfl (ahL hv1) (fun j hj=>MF hblk1 (by rw[Ar,hcs];rw[Ig]at hj;omega)) (fun j hj=>aj.frozen hblk1 _) FP
  have HF:=ah (rz.out w.drew (aj.drew hblk));rw[hW1]at HF hcp1;have HG:Hid (w.grownBy (W1.setCells g (i*6) (kK q)) (some g)):=by
   have h1:=FC g (bV (l.drop i)) ((i+1)*6) w.drew;rw[hW1]at h1;exact((afr w _).trans h1).trans (FC g _ _ _)
  have hb1:(n:Int)+1≤(cap:Int):=by omega
  have hb2:¬((cap:Int)<(n:Int)+1):=by omega
  have hb3:(0:Int)≤(n:Int)+1:=by omega
  have hb4:(0:Int)≤(i:Int)+1:=by omega
  have hb5:(i:Int)+1≤(n:Int)+1:=by omega
  have hb6:(i:Int)≤(n:Int)+1:=by omega
  have hc2:¬(cap=i+1):=by omega
  have HL:Hid (i<n∧n+1≤cap):=⟨hlt,hroom⟩;have Sr:=ah hblk;have J8:=ah hv;have HW1:=ah hW1;clear hrow hblk hcs hcm htk hpre BA hd hone FP KP hq2 hblk1 hv1 rz hW1 hv hvb hbg;go_enter Tryz.func194,Tryz.ntmps194;go_wp2_with (simp only[hov]);go_upto_region 15 with(simp only[hov]);refine wp_region_noPanic ?_;refine wp_region_held_drew (S:=(fun _=>True)) (by kernel_rfl) (trivial) (fun hHeld=>?_);refine ay 0 ?_;refine ay 1 ?_;refine ay 2 ?_;refine ay 3 ?_;refine ay 4 ?_;refine ay 5 ?_;refine ay 6 ?_;refine ay 7 ?_;refine wpAnyH_ready (rs:=[8]) (by kernel_rfl) (by simp) ?_;refine AllReadyH.cons rfl (fun K hK=>?_) AllReadyH.nil;refine ahU rfl _ _ rfl _ _ rfl rfl (hcp1 _ _ _ _ _ _ _ (by omega) (by omega) (by have:=HL.out;simp only[Nat.min_def];split<;>omega)) ?_;refine hK.out _ _ trivial fun hHeld=>?_;clear hK K;refine wpAnyH_done (by kernel_rfl) ?_ _;refine NoPanic.normal ?_;have hx2:=hcp2 3 (i*6) (n+1-i) (cap-i) 1 1 rfl (by have:=HL.out;simp only[Nat.min_def];split<;>omega);clear hcp1 hcp2;go_wp2_with fail;go_ret;exact⟨_,rfl,HF.out,HG.out⟩
 ·have hcn:cap=n:=by omega
  subst hcn;clear hroom hcap;obtain⟨i0,hi0,hz0,hs0,hb0⟩:=info_parts KS;have yQ:(bV (l.take i)).length=i*6:=by rw[qy,List.length_take];have:=jB.out;omega
  have hold:(Builtin.firstCells i0.size i (.slice (some ⟨g,0,none⟩) i cap)).run Tryz.prog w.drew= .ok (bV (l.take i)).toArray w.drew:=by
   rw[hs0];refine run_firstCells_some w.drew 6 i ⟨g,0,none⟩ i cap (bV (l.take i)) yQ ?_;refine Ui (aj.drew hblk) ?_;rw[List.drop_zero,yQ];exact hpre
  have hrz:∀(ty:TypeId) (k:Int),k=((cap+1-i:Nat):Int)→(Builtin.append_ #[23,3] ty #[.slice (some ⟨g,0,none⟩) i cap,.int .i64 k]).run Tryz.prog w=
    .ok (.slice (some ⟨w.heap.size,0,none⟩) (cap+1) (grownCap w (cap+1) cap 68)) (w.drew.alloc (.cells ((bV (l.take i)).toArray++Builtin.zeroCells (Value.agg z6).cells (cap+1-i)++Builtin.zeroCells (Value.agg z6).cells (grownCap w (cap+1) cap 68-(cap+1))) 68)):=fun ty k hk=>by
   subst hk;have h:=Lib.run_append_grow_zeros w 23 3 ty 68 i0 (Value.agg z6) .i64 .i64 Tryz.underlying23 Tryz.underlying3 hi0 hz0 (some ⟨g,0,none⟩) i cap _ hold (cap+1-i) (by omega) (by rw[hs0];omega) (by omega) (by omega)
    (by rw[hb0];omega)
    (by rw[show i+(cap+1-i)=cap+1 by omega];exact growslice_fits (by omega) (by rw[hb0];omega))
   rw[show i+(cap+1-i)=cap+1 by omega]at h;exact h
  have hGn:cap+1≤grownCap w (cap+1) cap 68:=grownCap_ge w _ _ _;have hG63:grownCap w (cap+1) cap 68≤maxLen:=grownCap_le_maxLen w _ _ _ (by unfold maxLen;omega);obtain⟨G,hG⟩:∃G,grownCap w (cap+1) cap 68=G:=⟨_,rfl⟩;rw[hG]at hrz hGn hG63;obtain⟨Z,hZ⟩:∃Z,(bV (l.take i)).toArray++Builtin.zeroCells (Value.agg z6).cells (cap+1-i)++Builtin.zeroCells (Value.agg z6).cells (G-(cap+1))=Z:=⟨_,rfl⟩;rw[hZ]at hrz;have hZs:Z.size=G*6:=by
   rw[←hZ];simp[size_zeroCells,Value.cells,yQ];omega
  have QJ:Z.toList.take (i*6)=bV (l.take i):=by
   rw[←hZ];rw[Array.toList_append,Array.toList_append,List.append_assoc,List.toList_toArray,List.take_left' yQ]
  clear hold hZ hG hi0 hz0 hs0 hb0 i0;obtain⟨W0,hW0⟩:=aQ (w.drew.alloc (.cells Z 68));have hzb:aj W0 w.heap.size (.cells Z 68 (0,0)):=by rw[←hW0];exact aj.new w.drew _
  have hb0:Below w.heap.size w W0:=by rw[←hW0];exact((Below.refl _ w).drew).alloc (Nat.le_refl _) _
  have hv0:kH W0 vb 0 q.1 q.2:=KP.below hb0;have QU:aj W0 g (.cells cur 68 (0,0)):=aj.below hblk hb0;rw[hW0]at hrz;have hcp1:∀(ty:TypeId) (o2 dl dc sl sc:Nat),o2=i*6→Nat.min sl dl=1→(Builtin.copy_ #[23,23] ty #[.slice (some ⟨w.heap.size,o2,none⟩) dl dc,.slice (some ⟨vb,0,none⟩) sl sc]).run Tryz.prog W0= .ok (.int .i64 (1:Nat)) (W0.setCells w.heap.size (i*6) (kK q)):=fun ty o2 dl dc sl sc h2 hm=>by
   subst h2;exact VU W0 ty w.heap.size _ dl dc ⟨vb,0,none⟩ sl sc 1 _ hm rfl (ahL hv0) (fun j hj=>MF hzb (by rw[hZs];rw[Ig]at hj;omega)) (fun j hj=>aj.frozen hzb _) FP
  have hgw:g≠w.heap.size:=by have:=aj.lt hblk;omega
  obtain⟨W1,hW1⟩:=aQ (W0.setCells w.heap.size (i*6) (kK q));have hk1:=FC w.heap.size (kK q) (i*6) W0;have qE:aj W1 w.heap.size (.cells (EB Z (i*6) (kK q)) 68 (0,0)):=by rw[←hW1];exact Fx _ _ _ _ hzb
  rw[hW1]at hk1;have QV:aj W1 g (.cells cur 68 (0,0)):=aj.kept QU hk1 (fun e=>hgw (by cases e;rfl));have hcp2:∀(ty:TypeId) (o2 dl dc o3 sl sc:Nat),o2=(i+1)*6→o3=i*6→Nat.min sl dl=cap-i→(Builtin.copy_ #[23,23] ty #[.slice (some ⟨w.heap.size,o2,none⟩) dl dc,.slice (some ⟨g,o3,none⟩) sl sc]).run Tryz.prog W1.drew= .ok (.int .i64 (cap-i:Nat)) (W1.drew.setCells w.heap.size ((i+1)*6) (bV (l.drop i))):=fun ty o2 dl dc o3 sl sc h2 h3 hm=>by
   subst h2 h3;exact VU W1.drew ty w.heap.size _ dl dc ⟨g,_,none⟩ sl sc (cap-i) _ hm hd (Ui (aj.drew QV) BA) (fun j hj=>MF (aj.drew qE) (by rw[Ar,hZs];omega)) (fun j hj=>aj.frozen (aj.drew qE) _) hone
  have HF:Hid (bf (W1.drew.setCells w.heap.size ((i+1)*6) (bV (l.drop i))) base (.slice (some ⟨w.heap.size,0,none⟩) (cap+1) G) (l.take i++q::l.drop i)):=by
   have h:=asN (q:=q) (W:=W0.drew) Ol.out (aj.drew hzb) hZs hG63 (by have:=HN.out;omega) (Nat.le_of_lt jB.out) QJ;have e:W0.drew.setCells w.heap.size (i*6) (kK q)=W1.drew:=by rw[←hW1];exact ahE _ _ _ _
   rw[e,←HN.out]at h;exact h
  have HG:Hid (w.grownBy (W1.drew.setCells w.heap.size ((i+1)*6) (bV (l.drop i))) (some g)):=by
   have h1:=hb0.trans ((Below.refl W0.heap.size W0).mono hb0.size);have hz:∀k,k<w.heap.size→(W1.drew.setCells w.heap.size ((i+1)*6) (bV (l.drop i))).heap[k]? =w.heap[k]? :=fun k hk=>by
    have h2:=(FC w.heap.size (bV (l.drop i)) ((i+1)*6) W1.drew).block k (by show k<W1.heap.size;have:=hk1.size;have:=hb0.size;omega) (by simp;omega);have h3:=hk1.block k (by have:=hb0.size;omega) (by simp;omega);exact h2.trans (h3.trans (hb0.block k hk))
   have hs2:=FC w.heap.size (bV (l.drop i)) ((i+1)*6) W1.drew;exact⟨hs2.os.trans (hk1.os.trans hb0.os),hs2.tape.trans (hk1.tape.trans hb0.tape),hs2.output.trans (hk1.output.trans hb0.output),Nat.le_trans hb0.size (Nat.le_trans hk1.size hs2.size),fun k hk _=>hz k hk⟩
  have hb1:¬((cap:Int)+1≤(cap:Int)):=by omega
  have hb2:(cap:Int)<(cap:Int)+1:=by omega
  have hws:IntKind.i64.wrap ((cap:Int)+1-(i:Int))=((cap+1-i:Nat):Int):=by rw[IntWalk.i64_in _ (by omega)];omega
  have hb4:(0:Int)≤(i:Int)+1:=by omega
  have hb5:(i:Int)+1≤(cap:Int)+1:=by omega
  have hb6:(i:Int)≤(cap:Int)+1:=by omega
  have CZ:i≤cap+1:=by omega
  have hc2:¬(G=i):=by omega
  have hc3:¬(G=i+1):=by omega
  have HL:Hid (i<cap∧cap+1≤G):=⟨hlt,hGn⟩;have hGG:G≤9223372036854775807:=by unfold maxLen at hG63;omega
  have HV0:=ah hv0;clear hv0;rw[hW1]at hcp1;have HW1:=ah hW1;clear hrow hblk hcs hcm htk hpre BA hd hone FP KP hq2 hW1 hv hvb hbg hzb hb0 QU qE QV hk1 hgw hW0 hZs QJ yQ hGn hG63;go_enter Tryz.func194,Tryz.ntmps194;have hx1:=hcp1 3 (i*6) (cap+1-i) (G-i) 1 1 rfl (by have:=HL.out;simp only[Nat.min_def];split<;>omega);go_upto_region 9 with fail;go_upto_region 10 with(at_builtin;refine Lib.wpList_append_run _ rfl _ _ _ _ rfl _ _ rfl rfl _ _ (hrz _ _ rfl) ?_);go_upto_region 11 with fail;clear hx1;refine wp_region_noPanic ?_;refine wp_region_held_drew (S:=(fun _=>True)) (by kernel_rfl) (trivial) (fun hHeld=>?_);refine ay 0 ?_;refine ay 1 ?_;refine ay 2 ?_;refine ay 3 ?_;refine ay 4 ?_;refine ay 5 ?_;refine ay 6 ?_;refine ay 7 ?_;refine wpAnyH_ready (rs:=[8]) (by kernel_rfl) (by simp) ?_;refine AllReadyH.cons rfl (fun K hK=>?_) AllReadyH.nil;refine ahU rfl _ _ rfl _ _ rfl rfl (hcp2 _ _ _ _ _ _ _ (by omega) (by omega) (by have:=HL.out;simp only[Nat.min_def];split<;>omega)) ?_;refine hK.out _ _ trivial fun hHeld=>?_;clear hK K;refine wpAnyH_done (by kernel_rfl) ?_ _;refine NoPanic.normal ?_;go_wp2_with fail;go_ret;exact⟨_,rfl,HF.out,HG.out⟩
end Go.Proofs.YtodaapcohdpenaaGreat
namespace Go.Proofs.YtodaapcohdpenaaGreat
open Go.RowKit
theorem atT {w:World} {ops:Array Oper} {o:Oper} {a:Act} {K:Act→World→Prop} {Q:Exit→Act→World→Prop} {E:Prop} (hgd:o.guard=none) (d x:Operand)
  (ho:o.op= .call { callee:=.builtin .append,args:=#[d,x],argTypes:=#[23,23] }) (v u:Value) (hd:a.eval d=v) (hx:a.eval x=u) {v1:Value} {w1:World}
  (hr:(Builtin.append_ #[23,23] o.type #[v,u]).run Tryz.prog w= .ok v1 w1) (h:K (a.put o.dst v1) w1):
  if Region.wanted o (yielded ops a.tmps)=true then Oper.wp Tryz.prog o a w K Q else E:=by
 have hw:Region.wanted o (yielded ops a.tmps)=true:=by simp[Region.wanted,hgd]
 rw[if_pos hw];unfold Oper.wp execOp;simp only[ho,resolve,invoke,builtin,Sem.run_bind,Sem.run_pure,Result.andThen_ok,List.map_toArray,List.map_cons,List.map_nil,hd,hx,hr];exact h
theorem au9 (w:World):(zeroValue 68).run Tryz.prog w= .ok (.agg z6) w:=by kernel_rfl
theorem asO (w:World) (ty:TypeId) (b o c:Nat) (hc:∀j,j<6→(w.cell? ⟨b,o+j,none⟩).isSome=true) (hf:∀j,j<6→w.frozen? ⟨b,o+j,none⟩=false):
  (Builtin.clear_ #[23] ty #[.slice (some ⟨b,o,none⟩) 1 c]).run Tryz.prog w= .ok (.tuple #[]) (w.setCells b o [.string ⟨#[]⟩,.string ⟨#[]⟩,.int .i64 0,.int .i64 0,.string ⟨#[]⟩,.slice none 0 0]):=by
 have hst:=run_storeCells_cells (P:=Tryz.prog) b o [.string ⟨#[]⟩,.string ⟨#[]⟩,.int .i64 0,.int .i64 0,.string ⟨#[]⟩,.slice none 0 0] 0 w (by simpa using hc) (by simpa using hf) (by intro v hv;simp at hv;rcases hv with rfl|rfl|rfl|rfl|rfl|rfl<;>rfl);have hz:(Builtin.zeroCells (Value.agg z6).cells 1).toList=[.string ⟨#[]⟩,.string ⟨#[]⟩,.int .i64 0,.int .i64 0,.string ⟨#[]⟩,.slice none 0 0]:=by simp[Builtin.zeroCells,Value.cells];rfl
 simp[Builtin.clear_,run_underlying Tryz.underlying23,au9,hz,hst]
def aiw (w:World) (base:Nat) (row:Option Nat) (l:List (au×Value)) (i:Nat) (e:Ending) (w':World):Prop:=
 ∃v,e= .returned v∧bf w' base v (l.take i++l.drop (i+1))∧w.grownBy w' row
theorem an4 (l:List (au×Value)) (A:Option Addr) (n cap i base:Nat) (w:World) (hrow:bf w base (.slice A n cap) l) (hn:n=l.length) (hi:i<n) (h20:n≤20) (hsl:wm l):
  Calls Tryz.prog 173 #[.slice A n cap,.int .i64 i,.int .i64 ((i:Int)+1)] w (aiw w base (Value.slice A n cap).ownBlock l i):=by
 have HN:=ah hn;clear hn;obtain⟨g,hA,hbg⟩:=hrow.qh (i:=i) (by have:=HN.out;omega);subst hA;obtain⟨cur,IG,hblk,hcs,hcm,jy,hnc,htk⟩:=hrow.blk;clear IG jy;have jB:Hid (i<l.length):=by have:=HN.out;show i<_;omega
 have hpre:cur.toList.take (i*6)=bV (l.take i):=by
  rw[←ahY (Nat.le_of_lt jB.out),←htk,List.take_take,Nat.min_eq_left (by omega)]
 have hd:(bV (l.drop (i+1))).length=(n-(i+1))*6:=by rw[qy,List.length_drop,HN.out]
 have BA:(cur.toList.drop ((i+1)*6)).take (bV (l.drop (i+1))).length=bV (l.drop (i+1)):=by
  rw[←ae1 (l:=l) (i:=i+1) jB.out,←htk,List.drop_take,List.length_take,List.length_drop,Array.length_toList,hcs];exact congrArg (fun k=>(cur.toList.drop ((i+1)*6)).take k) (by simp only[Nat.min_def];split<;>omega)
 have hone:∀v∈bV (l.drop (i+1)),v.oneCell'=true:=Qi (fun p hp=>hsl p (List.mem_of_mem_drop hp));have yQ:(bV (l.take i)).length=i*6:=by rw[qy,List.length_take];have:=jB.out;omega
 obtain⟨X,hX⟩:∃X:Addr,(if cap=i+1 then some (⟨g,0,none⟩:Addr)else some ⟨g,(i+1)*6,none⟩)=some X:=by
  by_cases h:cap=i+1
  ·exact⟨⟨g,0,none⟩,by rw[if_pos h]⟩
  ·exact⟨⟨g,(i+1)*6,none⟩,by rw[if_neg h]⟩
 have hsrc:∀j u,(bV (l.drop (i+1)))[j]? =some u→w.drew.cell? (X.add j)=some u:=fun j u hj=>by
  have hlen:j<(n-(i+1))*6:=by rw[←hd];exact(List.getElem?_eq_some_iff.1 hj).1
  have UY:X=⟨g,(i+1)*6,none⟩:=by rw[if_neg (by omega)]at hX;cases hX;rfl
  rw[UY];exact Ui (aj.drew hblk) BA j u hj
 obtain⟨W1,hW1⟩:=aQ (w.drew.setCells g (i*6) (bV (l.drop (i+1))));have hap:∀(ty:TypeId),(Builtin.append_ #[23,23] ty #[.slice (some ⟨g,0,none⟩) i cap,.slice (some X) (n-(i+1)) (cap-(i+1))]).run Tryz.prog w.drew= .ok (.slice (some ⟨g,0,none⟩) (n-1) cap) W1:=fun ty=>by
  obtain⟨i0,hi0,hz0,hs0,hb0⟩:=info_parts KS;have hs:=Src.ofSlice (P:=Tryz.prog) (size:=i0.size) w.drew Tryz.underlying23 X (n-(i+1)) (cap-(i+1)) (bV (l.drop (i+1))) (by rw[hd,hs0]) hsrc hone;have h:=run_append_room_src (P:=Tryz.prog) w.drew 23 23 ty 68 i0 Tryz.underlying23 hi0 g 0 i cap _ _ _ hs (by omega)
   (fun j hj=>MF (aj.drew hblk) (by rw[hcs,hs0];omega)) (fun j hj=>aj.frozen (aj.drew hblk) _)
  rw[show i+(n-(i+1))=n-1 by omega,hs0,Nat.zero_add,hW1]at h;exact h
 have hblk1:aj W1 g (.cells (EB cur (i*6) (bV (l.drop (i+1)))) 68 (0,0)):=by rw[←hW1];exact Fx _ _ _ _ (aj.drew hblk)
 have hcl:∀(ty:TypeId) (o2 c:Nat),o2=(n-1)*6→(Builtin.clear_ #[23] ty #[.slice (some ⟨g,o2,none⟩) 1 c]).run Tryz.prog W1= .ok (.tuple #[]) (W1.setCells g ((n-1)*6) [.string ⟨#[]⟩,.string ⟨#[]⟩,.int .i64 0,.int .i64 0,.string ⟨#[]⟩,.slice none 0 0]):=fun ty o2 c h2=>by
  subst h2;exact asO W1 ty g _ c (fun j hj=>MF hblk1 (by rw[Ar,hcs];omega)) (fun j hj=>aj.frozen hblk1 _)
 have HF:Hid (bf (W1.setCells g ((n-1)*6) [.string ⟨#[]⟩,.string ⟨#[]⟩,.int .i64 0,.int .i64 0,.string ⟨#[]⟩,.slice none 0 0]) base (.slice (some ⟨g,0,none⟩) (n-1) cap) (l.take i++l.drop (i+1))):=by
  have avG:cur.toList.length=cap*6:=by simp[hcs]
  refine abA hbg (Fx _ _ _ _ hblk1) (by rw[Ar,Ar];exact hcs) hcm (by rw[List.length_append,List.length_take,List.length_drop];have:=jB.out;have:=HN.out;omega) (by omega) ?_;rw[Le _ _ _ (by rw[Ar];simp;omega),Le _ _ _ (by rw[hd];omega),List.take_append_of_le_length (by rw[List.length_take,List.length_append,List.length_append,List.length_drop,List.length_take,hd];omega),List.take_take,Nat.min_self,hpre,←List.append_assoc,List.take_left' (by rw[List.length_append,yQ,hd];omega),CJ]
 have HG:Hid (w.grownBy (W1.setCells g ((n-1)*6) [.string ⟨#[]⟩,.string ⟨#[]⟩,.int .i64 0,.int .i64 0,.string ⟨#[]⟩,.slice none 0 0]) (some g)):=by
  have h1:=FC g (bV (l.drop (i+1))) (i*6) w.drew;rw[hW1]at h1;exact((afr w _).trans h1).trans (FC g _ _ _)
 have hi0:(0:Int)≤(i:Int):=by omega
 have hi1:(i:Int)≤(i:Int)+1:=by omega
 have hi2:(i:Int)+1≤(n:Int):=by omega
 have hi3:(0:Int)≤(i:Int)+1:=by omega
 have hi4:(n:Int)≤(cap:Int):=by omega
 have hi5:(i:Int)≤(cap:Int):=by omega
 have hi6:i≤cap:=by omega
 have hi7:i+1≤n:=by omega
 have he1:((i:Int)==(i:Int)+1)=false:=by rw[beq_eq_false_iff_ne];omega
 have U3:n-1≤n:=by omega
 have hi9:((n-1:Nat):Int)≤(n:Int):=by omega
 have hc1:¬(cap=n-1):=by omega
 have hsub:n-(n-1)=1:=by omega
 have hcy:=fun ty=>hcl ty ((n-1)*6) (cap-(n-1)) rfl;have HW1:=ah hW1;clear hrow hblk hcs hcm htk hpre BA hd hone hW1 hbg yQ hsrc hblk1 hcl hsl;go_enter Tryz.func173,Tryz.ntmps173;go_upto_region 5 with fail;refine wp_region_noPanic ?_;refine wp_region_held_drew (S:=(fun _=>True)) (by kernel_rfl) (trivial) (fun hHeld=>?_);refine ay 0 ?_;refine ay 1 ?_;refine ay 2 ?_;refine ay 3 ?_;refine ay 4 ?_;refine ay 5 ?_;refine wpAnyH_ready (rs:=[6]) (by kernel_rfl) (by simp) ?_;refine AllReadyH.cons rfl (fun K hK=>?_) AllReadyH.nil;refine atT rfl _ _ rfl _ _ rfl rfl (hap _) ?_;refine hK.out _ _ trivial fun hHeld=>?_;clear hK K;refine ay 7 ?_;refine wpAnyH_done (by kernel_rfl) ?_ _;refine NoPanic.normal ?_;go_wp2_with fail;go_ret;exact⟨_,rfl,HF.out,HG.out⟩
end Go.Proofs.YtodaapcohdpenaaGreat
