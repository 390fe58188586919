-- eB
import Derived.Test.YtodaapcohdpenaaGreatGSq
import Derived.Test.YtodaapcohdpenaaGreatGTabD
namespace Go.Proofs.YtodaapcohdpenaaGreat
open Go.RowKit
set_option linter.unusedSimpArgs false
set_option linter.unusedVariables false
set_option maxHeartbeats 8000000
set_option maxRecDepth 100000
noncomputable def tL (a b:dx):Bool:=@decide (a=b) (Classical.propDecidable _)
theorem F6 {a b:dx}:tL a b=true↔a=b:=by unfold tL;simp
theorem R7 (a:dx):tL a a=true:=F6.2 rfl
theorem ahi (a b:dx) (A B:Option Addr) (n cap m cap2:Nat) (w:World) (ha:dw w A n a.keys) (hb:dw w B m b.keys):
  Calls Tryz.prog 20 #[bX a (.slice A n cap),bX b (.slice B m cap2)] w fun e w'=>e= .returned (.bool (tL a b))∧Below w.heap.size w w':=by
 have bA:Hid (a≠b→tL a b=false):=fun h=>by rw[Bool.eq_false_iff];exact fun e=>h (F6.1 e)
 have iF:Hid (a=b→tL a b=true):=F6.2;generalize tL a b=R at*;have hbw:Below w.heap.size w ((w.alloc (.cells (aR a (.slice A n cap)) 43)).alloc (.cells (aR b (.slice B m cap2)) 43)):=(ak _ _).alloc (by simp) _;have h1:aj ((w.alloc (.cells (aR a (.slice A n cap)) 43)).alloc (.cells (aR b (.slice B m cap2)) 43)) w.heap.size (.cells (aR a (.slice A n cap)) 43 (0,0)):=aj.below (aj.new w (.cells (aR a (.slice A n cap)) 43)) (ak _ _);have h2:aj ((w.alloc (.cells (aR a (.slice A n cap)) 43)).alloc (.cells (aR b (.slice B m cap2)) 43)) (w.heap.size+1) (.cells (aR b (.slice B m cap2)) 43 (0,0)):=by have h:=aj.new (w.alloc (.cells (aR a (.slice A n cap)) 43)) (.cells (aR b (.slice B m cap2)) 43);rw[World.size_alloc]at h;exact h
 obtain⟨W0,hW0⟩:=aQ ((w.alloc (.cells (aR a (.slice A n cap)) 43)).alloc (.cells (aR b (.slice B m cap2)) 43));rw[hW0]at hbw h1 h2;have c0:=aj.cell h1 0;have c1:=aj.cell h1 1;have c2:=aj.cell h1 2;have c3:=aj.cell h1 3;have d0:=aj.cell h2 0;have d1:=aj.cell h2 1;have d2:=aj.cell h2 2;have d3:=aj.cell h2 3;simp only[aM]at c0 c1 c2 c3 d0 d1 d2 d3;have HA:=ah (ha.below hbw);clear ha;have HB:=ah (hb.below hbw);clear hb;have HB0:=ah hbw;clear hbw;have H1:=ah h1;clear h1;have H2:=ah h2;clear h2;have yA:Hid (n=a.keys.length):=HA.out.1;have Cc:Hid (m=b.keys.length):=HB.out.1;have jy:=HA.out.2.1;have Ah:=HB.out.2.1;unfold maxLen at jy Ah;unfold bX
 by_cases g0:a.errno=b.errno
 rotate_left
 ·have HE:Hid (R=false):=bA.out fun e=>g0 (by rw[e]);have e0:((a.errno:Int) != (b.errno:Int))=true:=by simp;omega
  clear g0;go_enter Tryz.func20,Tryz.ntmps20;go_wp2_with fail;go_ret;exact⟨by rw[HE.out];rfl,HB0.out⟩
 have e0:((a.errno:Int) != (b.errno:Int))=false:=by simp;omega
 by_cases g1:a.rev=b.rev
 rotate_left
 ·have HE:Hid (R=false):=bA.out fun e=>g1 (by rw[e]);have e1:(a.rev != b.rev)=true:=by simpa using g1
  clear g1 g0;go_enter Tryz.func20,Tryz.ntmps20;go_wp2_with fail;go_ret;exact⟨by rw[HE.out];rfl,HB0.out⟩
 have e1:(a.rev != b.rev)=false:=by simpa using g1
 by_cases g2:a.value=b.value
 rotate_left
 ·have HE:Hid (R=false):=bA.out fun e=>g2 (by rw[e]);have e2:(a.value.toList==b.value.toList)=false:=ED g2;clear g2 g1 g0;go_enter Tryz.func20,Tryz.ntmps20;go_wp2_with fail;go_ret;exact⟨by rw[HE.out];rfl,HB0.out⟩
 have e2:(a.value.toList==b.value.toList)=true:=EC g2
 by_cases g3:n=m
 rotate_left
 ·have HE:Hid (R=false):=bA.out fun e=>g3 (by rw[yA.out,Cc.out,e]);have e3:((n:Int) != (m:Int))=true:=by simp;omega
  clear g3 g2 g1 g0;go_enter Tryz.func20,Tryz.ntmps20;go_wp2_with fail;go_ret;exact⟨by rw[HE.out];rfl,HB0.out⟩
 have e3:((n:Int) != (m:Int))=false:=by simp;omega
 have G:Hid (a.errno=b.errno∧a.rev=b.rev∧a.value=b.value):=⟨g0,g1,g2⟩;have G3:=ah g3;clear g0 g1 g2 g3;go_enter Tryz.func20,Tryz.ntmps20;go_wp2_with fail;clear hW0 c0 c1 c2 c3 d0 d1 d2 d3;go_loopw [5] (fun i wy=>∃(j:Nat) (wr:World),wr=wy∧j≤n∧i= .int .i64 j∧(∀q,q<j→a.keys.getD q ByteArray.empty=b.keys.getD q ByteArray.empty)∧Hid (Below W0.heap.size W0 wr)) (fun i _=>n-(intOf i).toNat)
 case atStart=>exact⟨0,_,rfl,by omega,rfl,(fun q hq=>by omega),Below.refl _ _⟩
 case round=>
  obtain⟨j,wr,rfl,hj,rfl,hsm,hb⟩:=hrel;have oh:=ah hsm;clear hsm;have h1:=aj.below H1.out hb.out;have h2:=aj.below H2.out hb.out;have c3:=aj.cell h1 3;have d3:=aj.cell h2 3;simp only[aM]at c3 d3;have aU:Hid (Below w.heap.size w wr):=aA HB0.out hb.out;clear h1 h2
  by_cases hlt:j<n
  ·have hji:(j:Int)<(n:Int):=by omega
   have hj0:(0:Int)≤(j:Int):=by omega
   have hjm:j<m:=by have:=G3.out;omega
   have hg1:decide ((j:Int)<0)=false:=decide_eq_false (by omega);have hg2:decide ((n:Int)≤(j:Int))=false:=decide_eq_false (by omega);have QS:decide (n≤j)=false:=decide_eq_false (by omega);have hg3:decide ((m:Int)≤(j:Int))=false:=decide_eq_false (by omega);have afG:decide (m≤j)=false:=decide_eq_false (by omega);obtain⟨p,off,Qz,hp,hc⟩:=HA.out.2.2.2 (by omega);obtain⟨q,off2,KI,hq,hd⟩:=HB.out.2.2.2 (by omega);subst Qz;subst KI;have x0:=(hb.out.cell (p:=⟨p,off+j,none⟩) hp).trans (hc j (by have:=yA.out;omega));have y0:=(hb.out.cell (p:=⟨q,off2+j,none⟩) hq).trans (hd j (by have:=Cc.out;omega));clear hc hd
   by_cases hk:a.keys.getD j ByteArray.empty=b.keys.getD j ByteArray.empty
   ·have lT:Hid (∀q,q<j+1→a.keys.getD q ByteArray.empty=b.keys.getD q ByteArray.empty):=fun q hq=>by rcases(by omega:q<j∨q=j)with h|rfl;exact oh.out q h;exact hk
    have ek:((a.keys.getD j ByteArray.empty).toList==(b.keys.getD j ByteArray.empty).toList)=true:=EC hk;clear hk;generalize a.keys.getD j ByteArray.empty=s at*;generalize b.keys.getD j ByteArray.empty=t at*;go_wp2_with fail;go_quiet (fail);go_wp2_with fail;go_roundw
    case rel=>exact⟨j+1,_,rfl,by omega,by go_num,lT.out,jL hb.out _⟩
    case measure=>simp[intOf];omega
   ·have HE:Hid (R=false):=bA.out fun e=>hk (by rw[e]);have ek:((a.keys.getD j ByteArray.empty).toList==(b.keys.getD j ByteArray.empty).toList)=false:=ED hk;clear hk;generalize a.keys.getD j ByteArray.empty=s at*;generalize b.keys.getD j ByteArray.empty=t at*;go_wp2_with fail;go_quiet (fail);go_wp2_with fail;go_ret;exact⟨by rw[HE.out];rfl,jL aU.out _⟩
  ·have iw:j=n:=by omega
   have HE:Hid (R=true):=iF.out (by
    have hk:a.keys=b.keys:=List.ext_getElem (by rw[←yA.out,←Cc.out,G3.out]) fun i hi hj2=>by
     have:=oh.out i (by have:=yA.out;omega);rw[List.getD_eq_getElem?_getD,List.getD_eq_getElem?_getD,List.getElem?_eq_getElem hi,List.getElem?_eq_getElem hj2]at this;exact this
    obtain⟨k0,k1,k2⟩:=G.out
    cases a;cases b
    simp only at k0 k1 k2 hk;rw[k0,k1,k2,hk])
   have hji:¬((j:Int)<(n:Int)):=by omega
   clear hlt iw;go_wp2_with fail;go_ret;exact⟨by rw[HE.out];rfl,aU.out⟩
theorem VH (a b:dx) (A B:Option Addr) (n cap m cap2:Nat) (w:World) (ha:dw w A n a.keys) (hb:dw w B m b.keys):
  Calls Tryz.prog 26 #[bX a (.slice A n cap),bX b (.slice B m cap2)] w fun e w'=>e= .returned (.bool (tL a b))∧Below w.heap.size w w':=by
 have bA:Hid (a≠b→tL a b=false):=fun h=>by rw[Bool.eq_false_iff];exact fun e=>h (F6.1 e)
 have iF:Hid (a=b→tL a b=true):=F6.2;generalize tL a b=R at*;have hbw:Below w.heap.size w ((w.alloc (.cells (aR a (.slice A n cap)) 43)).alloc (.cells (aR b (.slice B m cap2)) 43)):=(ak _ _).alloc (by simp) _;have h1:aj ((w.alloc (.cells (aR a (.slice A n cap)) 43)).alloc (.cells (aR b (.slice B m cap2)) 43)) w.heap.size (.cells (aR a (.slice A n cap)) 43 (0,0)):=aj.below (aj.new w (.cells (aR a (.slice A n cap)) 43)) (ak _ _);have h2:aj ((w.alloc (.cells (aR a (.slice A n cap)) 43)).alloc (.cells (aR b (.slice B m cap2)) 43)) (w.heap.size+1) (.cells (aR b (.slice B m cap2)) 43 (0,0)):=by have h:=aj.new (w.alloc (.cells (aR a (.slice A n cap)) 43)) (.cells (aR b (.slice B m cap2)) 43);rw[World.size_alloc]at h;exact h
 obtain⟨W0,hW0⟩:=aQ ((w.alloc (.cells (aR a (.slice A n cap)) 43)).alloc (.cells (aR b (.slice B m cap2)) 43));rw[hW0]at hbw h1 h2;have c0:=aj.cell h1 0;have c1:=aj.cell h1 1;have c2:=aj.cell h1 2;have c3:=aj.cell h1 3;have d0:=aj.cell h2 0;have d1:=aj.cell h2 1;have d2:=aj.cell h2 2;have d3:=aj.cell h2 3;simp only[aM]at c0 c1 c2 c3 d0 d1 d2 d3;have HA:=ah (ha.below hbw);clear ha;have HB:=ah (hb.below hbw);clear hb;have HB0:=ah hbw;clear hbw;have H1:=ah h1;clear h1;have H2:=ah h2;clear h2;have yA:Hid (n=a.keys.length):=HA.out.1;have Cc:Hid (m=b.keys.length):=HB.out.1;have jy:=HA.out.2.1;have Ah:=HB.out.2.1;unfold maxLen at jy Ah;unfold bX
 by_cases g0:a.errno=b.errno
 rotate_left
 ·have HE:Hid (R=false):=bA.out fun e=>g0 (by rw[e]);have e0:((a.errno:Int) != (b.errno:Int))=true:=by simp;omega
  clear g0;go_enter Tryz.func26,Tryz.ntmps26;go_wp2_with fail;go_ret;exact⟨by rw[HE.out];rfl,HB0.out⟩
 have e0:((a.errno:Int) != (b.errno:Int))=false:=by simp;omega
 by_cases g1:a.rev=b.rev
 rotate_left
 ·have HE:Hid (R=false):=bA.out fun e=>g1 (by rw[e]);have e1:(a.rev != b.rev)=true:=by simpa using g1
  clear g1 g0;go_enter Tryz.func26,Tryz.ntmps26;go_wp2_with fail;go_ret;exact⟨by rw[HE.out];rfl,HB0.out⟩
 have e1:(a.rev != b.rev)=false:=by simpa using g1
 by_cases g2:a.value=b.value
 rotate_left
 ·have HE:Hid (R=false):=bA.out fun e=>g2 (by rw[e]);have e2:(a.value.toList==b.value.toList)=false:=ED g2;clear g2 g1 g0;go_enter Tryz.func26,Tryz.ntmps26;go_wp2_with fail;go_ret;exact⟨by rw[HE.out];rfl,HB0.out⟩
 have e2:(a.value.toList==b.value.toList)=true:=EC g2
 by_cases g3:n=m
 rotate_left
 ·have HE:Hid (R=false):=bA.out fun e=>g3 (by rw[yA.out,Cc.out,e]);have e3:((n:Int) != (m:Int))=true:=by simp;omega
  clear g3 g2 g1 g0;go_enter Tryz.func26,Tryz.ntmps26;go_wp2_with fail;go_ret;exact⟨by rw[HE.out];rfl,HB0.out⟩
 have e3:((n:Int) != (m:Int))=false:=by simp;omega
 have G:Hid (a.errno=b.errno∧a.rev=b.rev∧a.value=b.value):=⟨g0,g1,g2⟩;have G3:=ah g3;clear g0 g1 g2 g3;go_enter Tryz.func26,Tryz.ntmps26;go_wp2_with fail;clear hW0 c0 c1 c2 c3 d0 d1 d2 d3;go_loopw [5] (fun i wy=>∃(j:Nat) (wr:World),wr=wy∧j≤n∧i= .int .i64 j∧(∀q,q<j→a.keys.getD q ByteArray.empty=b.keys.getD q ByteArray.empty)∧Hid (Below W0.heap.size W0 wr)) (fun i _=>n-(intOf i).toNat)
 case atStart=>exact⟨0,_,rfl,by omega,rfl,(fun q hq=>by omega),Below.refl _ _⟩
 case round=>
  obtain⟨j,wr,rfl,hj,rfl,hsm,hb⟩:=hrel;have oh:=ah hsm;clear hsm;have h1:=aj.below H1.out hb.out;have h2:=aj.below H2.out hb.out;have c3:=aj.cell h1 3;have d3:=aj.cell h2 3;simp only[aM]at c3 d3;have aU:Hid (Below w.heap.size w wr):=aA HB0.out hb.out;clear h1 h2
  by_cases hlt:j<n
  ·have hji:(j:Int)<(n:Int):=by omega
   have hj0:(0:Int)≤(j:Int):=by omega
   have hjm:j<m:=by have:=G3.out;omega
   have hg1:decide ((j:Int)<0)=false:=decide_eq_false (by omega);have hg2:decide ((n:Int)≤(j:Int))=false:=decide_eq_false (by omega);have QS:decide (n≤j)=false:=decide_eq_false (by omega);have hg3:decide ((m:Int)≤(j:Int))=false:=decide_eq_false (by omega);have afG:decide (m≤j)=false:=decide_eq_false (by omega);obtain⟨p,off,Qz,hp,hc⟩:=HA.out.2.2.2 (by omega);obtain⟨q,off2,KI,hq,hd⟩:=HB.out.2.2.2 (by omega);subst Qz;subst KI;have x0:=(hb.out.cell (p:=⟨p,off+j,none⟩) hp).trans (hc j (by have:=yA.out;omega));have y0:=(hb.out.cell (p:=⟨q,off2+j,none⟩) hq).trans (hd j (by have:=Cc.out;omega));clear hc hd
   by_cases hk:a.keys.getD j ByteArray.empty=b.keys.getD j ByteArray.empty
   ·have lT:Hid (∀q,q<j+1→a.keys.getD q ByteArray.empty=b.keys.getD q ByteArray.empty):=fun q hq=>by rcases(by omega:q<j∨q=j)with h|rfl;exact oh.out q h;exact hk
    have ek:((a.keys.getD j ByteArray.empty).toList==(b.keys.getD j ByteArray.empty).toList)=true:=EC hk;clear hk;generalize a.keys.getD j ByteArray.empty=s at*;generalize b.keys.getD j ByteArray.empty=t at*;go_wp2_with fail;go_quiet (fail);go_wp2_with fail;go_roundw
    case rel=>exact⟨j+1,_,rfl,by omega,by go_num,lT.out,jL hb.out _⟩
    case measure=>simp[intOf];omega
   ·have HE:Hid (R=false):=bA.out fun e=>hk (by rw[e]);have ek:((a.keys.getD j ByteArray.empty).toList==(b.keys.getD j ByteArray.empty).toList)=false:=ED hk;clear hk;generalize a.keys.getD j ByteArray.empty=s at*;generalize b.keys.getD j ByteArray.empty=t at*;go_wp2_with fail;go_quiet (fail);go_wp2_with fail;go_ret;exact⟨by rw[HE.out];rfl,jL aU.out _⟩
  ·have iw:j=n:=by omega
   have HE:Hid (R=true):=iF.out (by
    have hk:a.keys=b.keys:=List.ext_getElem (by rw[←yA.out,←Cc.out,G3.out]) fun i hi hj2=>by
     have:=oh.out i (by have:=yA.out;omega);rw[List.getD_eq_getElem?_getD,List.getD_eq_getElem?_getD,List.getElem?_eq_getElem hi,List.getElem?_eq_getElem hj2]at this;exact this
    obtain⟨k0,k1,k2⟩:=G.out
    cases a;cases b
    simp only at k0 k1 k2 hk;rw[k0,k1,k2,hk])
   have hji:¬((j:Int)<(n:Int)):=by omega
   clear hlt iw;go_wp2_with fail;go_ret;exact⟨by rw[HE.out];rfl,aU.out⟩
end Go.Proofs.YtodaapcohdpenaaGreat
