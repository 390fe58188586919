-- eB
import Derived.Test.YtodaapcohdpenaaGreatGShM
namespace Go.Proofs.YtodaapcohdpenaaGreat
set_option linter.unusedVariables false
abbrev Rd (α:Type):=List UInt8→Option (α×List UInt8)
def jZ:Rd Nat:=fun l=>if(bY l).2.2=0 then some ((bY l).1,l.drop (bY l).2.1)else none
def oD (k:Nat):Rd Nat:=fun l=>(jZ l).bind fun x=>if x.1≤k then some x else none
def Bw (n:Nat):Rd (List UInt8):=fun l=>if n≤l.length then some (l.take n,l.drop n)else none
def tN:Rd (List UInt8):=fun l=>(jZ l).bind fun x=>Bw x.1 x.2
def ba (l:List UInt8):ByteArray:=⟨⟨l⟩⟩
def yU:Rd ByteArray:=fun l=>(tN l).map fun x=>(ba x.1,x.2)
def rowP {α:Type} (f:Rd α):Nat→Rd (List α)
 |0,l=>some ([],l)
 |n+1,l=>(f l).bind fun x=>(rowP f n x.2).map fun y=>(x.1::y.1,y.2)
def FY (v:Int) (b:List UInt8):Option au:=if(dD v b).2=0∧(toR v 2 (dD v b).1).2=0 then some (toR v 2 (dD v b).1).1 else none
def xW (v:Int):Rd au:=fun l=>(tN l).bind fun x=>(FY v x.1).map fun r=>(r,x.2)
def uj (K:Nat):Rd aF:=fun l=>
 (jZ l).bind fun c=>(jZ c.2).bind fun i=>(jZ i.2).bind fun e=>(jZ e.2).bind fun r=>(tN r.2).bind fun t=>(oD K t.2).bind fun n=>(rowP yU n.1 n.2).map fun k=>(⟨c.1,i.1,⟨e.1,r.1,ba t.1,k.1⟩⟩,k.2)
def BM (v:Int) (F M N K:Nat):Rd ShR:=fun l=>
 (jZ l).bind fun i=>(jZ i.2).bind fun e=>(oD F e.2).bind fun f=>(oD M f.2).bind fun m=>(oD N m.2).bind fun n=>(rowP (xW v) m.1 n.2).bind fun t=>(rowP (uj K) n.1 t.2).map fun c=>(⟨i.1,e.1,decide (f.1=1),t.1,c.1⟩,c.2)
theorem Am {l:List UInt8} {n:Nat} {m:List UInt8} (h:jZ l=some (n,m)):l=vb n++m∧n≤9007199254740992:=by
 unfold jZ at h;split at h
 ·rename_i h0;have h1:=Wj (l:=l) (n:=(bY l).1) (k:=(bY l).2.1) (by rw[←h0]);have h2:=Prod.mk.inj (Option.some.inj h);refine⟨?_,by rw[←h2.1];exact h1.1⟩;rw[←h2.1,←h2.2,h1.2.2.2,List.take_append_drop]
 ·cases h
theorem Dr {k:Nat} {l:List UInt8} {n:Nat} {m:List UInt8} (h:oD k l=some (n,m)):l=vb n++m∧n≤k∧n≤9007199254740992:=by
 unfold oD at h;obtain⟨x,hx,h⟩:=Option.bind_eq_some_iff.1 h;split at h
 ·rename_i hk;have:=Option.some.inj h;subst this;have:=Am hx;exact⟨this.1,hk,this.2⟩
 ·cases h
theorem Sc {l t m:List UInt8} (h:tN l=some (t,m)):l=pW t++m∧t.length≤9007199254740992:=by
 unfold tN at h;obtain⟨⟨n,r⟩,hx,h⟩:=Option.bind_eq_some_iff.1 h;obtain⟨h1,h2⟩:=Am hx;unfold Bw at h;simp only at h;split at h
 ·rename_i hk;have h3:=Prod.mk.inj (Option.some.inj h);have h4:t.length=n:=by rw[←h3.1,List.length_take];omega
  refine⟨?_,by omega⟩;unfold pW;rw[h4,List.append_assoc,←h3.1,←h3.2,List.take_append_drop,h1]
 ·cases h
theorem aa4 {l:List UInt8} {k:ByteArray} {m:List UInt8} (h:yU l=some (k,m)):l=mW k++m:=by
 unfold yU at h;obtain⟨⟨t,r⟩,hx,h⟩:=Option.map_eq_some_iff.1 h;have h2:=Prod.mk.inj h;rw[←h2.1,←h2.2];exact(Sc hx).1
theorem R3 {α:Type} {f:Rd α} {g:α→List UInt8} {P:α→Prop} (hf:∀{l x m},f l=some (x,m)→l=g x++m∧P x):∀{n:Nat} {l:List UInt8} {xs:List α} {m:List UInt8},rowP f n l=some (xs,m)→l=xs.flatMap g++m∧xs.length=n∧∀x∈xs,P x
 |0,l,xs,m,h=>by
  have h2:=Prod.mk.inj (Option.some.inj h);rw[←h2.1,←h2.2];exact⟨rfl,rfl,fun x hx=>nomatch hx⟩
 |n+1,l,xs,m,h=>by
  unfold rowP at h;obtain⟨⟨x,r⟩,hx,h⟩:=Option.bind_eq_some_iff.1 h;obtain⟨⟨ys,q⟩,hy,h⟩:=Option.map_eq_some_iff.1 h;have h2:=Prod.mk.inj h;obtain⟨a1,a2⟩:=hf hx;obtain⟨b1,b2,b3⟩:=R3 hf hy;rw[←h2.1,←h2.2];refine⟨?_,by simp[b2],fun z hz=>?_⟩
  ·rw[a1,List.flatMap_cons,List.append_assoc];simp only at b1;rw[←b1]
  ·rcases List.mem_cons.1 hz with e|e
   ·rw[e];exact a2
   ·exact b3 z e
theorem arR {v:Int} (hv:v=1∨v=2) {b:List UInt8} {r:au} (h:FY v b=some r):AJ v r∧nH v r=(b,0):=by
 unfold FY at h;split at h
 ·rename_i h0;have hr:=Option.some.inj h;have h1:dD v b=((dD v b).1,0):=by rw[←h0.1]
  obtain⟨f1,f2,f3⟩:=ag7 h1;have h2:toR v 2 (dD v b).1=(r,0):=by rw[←hr,←h0.2]
  generalize(dD v b).1=q at f1 f2 h2;unfold toR at h2;rcases hv with rfl|rfl
  ·rw[if_pos ⟨f1,.inr rfl⟩,if_neg (by omega),if_pos (by omega)]at h2;obtain⟨u1,u2,u3,u4,u5⟩:=up_down h2;have hV:nH 1 r=(b,0):=by
    unfold nH toR;rw[if_pos ⟨u2,.inl rfl⟩,if_neg (by omega),if_neg (by omega),u3];exact f2
   exact⟨⟨u2,by rw[hV]⟩,hV⟩
  ·rw[if_pos ⟨f1,.inr rfl⟩,if_pos rfl]at h2;have hq:=(Prod.mk.inj h2).1;subst hq;have hV:nH 2 q=(b,0):=by rw[RX (.inr rfl) f1];exact f2
   exact⟨⟨f1,by rw[hV]⟩,hV⟩
 ·cases h
theorem VD {v:Int} (hv:v=1∨v=2) {l:List UInt8} {r:au} {m:List UInt8} (h:xW v l=some (r,m)):l=oz v r++m∧AJ v r:=by
 unfold xW at h;obtain⟨⟨b,q⟩,hx,h⟩:=Option.bind_eq_some_iff.1 h;obtain⟨r',hr,h⟩:=Option.map_eq_some_iff.1 h;have h2:=Prod.mk.inj h;obtain⟨g1,g2⟩:=arR hv hr;have h3:=(Sc hx).1;obtain⟨rfl,rfl⟩:=h2;exact⟨by unfold oz;rw[g2];exact h3,g1⟩
theorem UA {K:Nat} {l:List UInt8} {d:aF} {m:List UInt8} (h:uj K l=some (d,m)):l=l9 d++m:=by
 unfold uj at h;obtain⟨⟨c,l1⟩,h1,h⟩:=Option.bind_eq_some_iff.1 h;obtain⟨⟨i,l2⟩,h2,h⟩:=Option.bind_eq_some_iff.1 h;obtain⟨⟨e,l3⟩,h3,h⟩:=Option.bind_eq_some_iff.1 h;obtain⟨⟨r,l4⟩,h4,h⟩:=Option.bind_eq_some_iff.1 h;obtain⟨⟨t,l5⟩,h5,h⟩:=Option.bind_eq_some_iff.1 h;obtain⟨⟨n,l6⟩,h6,h⟩:=Option.bind_eq_some_iff.1 h;obtain⟨⟨k,l7⟩,h7,h⟩:=Option.map_eq_some_iff.1 h;obtain⟨rfl,rfl⟩:=Prod.mk.inj h;simp only at h1 h2 h3 h4 h5 h6 h7;have a7:=R3 (g:=mW) (P:=fun _=>True) (fun h=>⟨aa4 h,trivial⟩) h7;unfold l9 mW;simp only[List.append_assoc];rw[(Am h1).1,(Am h2).1,(Am h3).1,(Am h4).1,(Sc h5).1,(Dr h6).1,←a7.2.1,a7.1];rfl
theorem atq {v:Int} (hv:v=1∨v=2) {F M N K:Nat} (hF:F=1) {l:List UInt8} {x:ShR} {m:List UInt8} (h:BM v F M N K l=some (x,m)):mo v::l=l8 v x++m∧¬zJ v x.table:=by
 unfold BM at h;obtain⟨⟨i,l1⟩,h1,h⟩:=Option.bind_eq_some_iff.1 h;obtain⟨⟨e,l2⟩,h2,h⟩:=Option.bind_eq_some_iff.1 h;obtain⟨⟨f,l3⟩,h3,h⟩:=Option.bind_eq_some_iff.1 h;obtain⟨⟨a,l4⟩,h4,h⟩:=Option.bind_eq_some_iff.1 h;obtain⟨⟨n,l5⟩,h5,h⟩:=Option.bind_eq_some_iff.1 h;obtain⟨⟨t,l6⟩,h6,h⟩:=Option.bind_eq_some_iff.1 h;obtain⟨⟨c,l7⟩,h7,h⟩:=Option.map_eq_some_iff.1 h;obtain⟨rfl,rfl⟩:=Prod.mk.inj h;simp only at h1 h2 h3 h4 h5 h6 h7;have a6:=R3 (g:=oz v) (P:=AJ v) (fun h=>VD hv h) h6;have a7:=R3 (g:=l9) (P:=fun _=>True) (fun h=>⟨UA h,trivial⟩) h7;have h3':=Dr h3;refine⟨?_,fun⟨r,hr,hn⟩=>hn (a6.2.2 r hr).2⟩;unfold l8;simp only[List.cons_append,List.append_assoc];have hf:(if decide (f=1)=true then 1 else 0)=f:=by
  have:=h3'.2.1
  by_cases e:f=1
  ·rw[if_pos (by simpa using e),e]
  ·rw[if_neg (by simpa using e)];omega
 rw[hf,(Am h1).1,(Am h2).1,h3'.1,(Dr h4).1,(Dr h5).1,←a6.2.1,←a7.2.1,a6.1,a7.1];rfl
theorem aa_ {n:Nat} (h:n≤9007199254740992) (m:List UInt8):jZ (vb n++m)=some (n,m):=by
 unfold jZ;rw[NV h,if_pos rfl];simp
theorem Nk {x:Int} (h:0≤x∧x≤bZ) (m:List UInt8):jZ (jH x++m)=some (x.toNat,m):=by
 unfold bZ at h;exact aa_ (by omega) m
theorem Wx {k n:Nat} (h:n≤9007199254740992) (hk:n≤k) (m:List UInt8):oD k (vb n++m)=some (n,m):=by
 unfold oD;rw[aa_ h];simp[hk]
theorem ab1 {t:List UInt8} (h:t.length≤9007199254740992) (m:List UInt8):tN (pW t++m)=some (t,m):=by
 unfold tN pW;rw[List.append_assoc,aa_ h];simp[Bw]
theorem aqc {k:ByteArray} (h:k.size≤9007199254740992) (m:List UInt8):yU (mW k++m)=some (k,m):=by
 unfold yU mW;rw[ab1 (by rw[Fy];exact h)];rfl
theorem VQ {α:Type} {f:Rd α} {g:α→List UInt8}:∀{xs:List α} (m:List UInt8),(∀x∈xs,∀m,f (g x++m)=some (x,m))→rowP f xs.length (xs.flatMap g++m)=some (xs,m)
 |[],m,_=>rfl
 |x::xs,m,h=>by
  rw[List.flatMap_cons,List.append_assoc,List.length_cons];unfold rowP;rw[h x (List.mem_cons_self ..)];simp only[Option.bind_some];rw[VQ m (fun y hy=>h y (List.mem_cons_of_mem _ hy))];rfl
theorem ar2 {v:Int} (hv:v=1∨v=2) {r:au} (h:AJ v r) (m:List UInt8):xW v (oz v r++m)=some (r,m):=by
 have hl:=VE hv h;obtain⟨hr,h0⟩:=h;unfold xW oz;rw[ab1 (by omega)];simp only[Option.bind_some];have hb:FY v (nH v r).1=some r:=by
  rw[RX hv hr]at h0 hl ⊢;have hs:(gY (fQ r)).length≤10000:=by
   rw[VB hr]at h0;split at h0
   ·assumption
   ·cases h0
  obtain⟨b1,b2⟩:=abn hr hs;rw[b1];simp only;unfold FY;rcases hv with rfl|rfl
  ·rw[arS hr hs];have hd:ou r=((ou r).1,0):=by
    have:=(UC r).2 hr;rw[←this]
   obtain⟨_,d1,d2,_⟩:=down_up hd;generalize(ou r).1=q at*;rw[hd];have ht:toR 1 2 q=(r,0):=by
    unfold toR;rw[if_pos ⟨d1,.inr rfl⟩,if_neg (by omega),if_pos (by omega)];exact d2
   simp only[ht];rw[if_pos ⟨trivial,trivial⟩]
  ·rw[b2];have ht:toR 2 2 r=(r,0):=by
    unfold toR;rw[if_pos ⟨hr,.inr rfl⟩,if_pos rfl]
   simp only[ht];rw[if_pos ⟨trivial,trivial⟩]
 rw[hb];rfl
theorem aof {K:Nat} (hK:5≤K) {d:aF} (h:Jz d) (m:List UInt8):uj K (l9 d++m)=some (d,m):=by
 obtain⟨⟨d1,d2,d3,d4,d5⟩,⟨d6,d7⟩,d8⟩:=h;have mx:bZ=9007199254740992:=rfl;unfold uj l9;simp only[List.append_assoc];rw[Nk ⟨by omega,by omega⟩];simp only[Option.bind_some];rw[Nk ⟨by omega,by omega⟩];simp only[Option.bind_some];rw[Nk ⟨by omega,by omega⟩];simp only[Option.bind_some];rw[Nk d2];simp only[Option.bind_some];unfold mW;rw[ab1 (by rw[Fy];omega)];simp only[Option.bind_some];rw[Wx (by omega) (by omega)];simp only[Option.bind_some];have hr:=VQ (f:=yU) (g:=mW) (xs:=d.rep.keys) m (fun k hk m=>aqc (by have:=d1 k hk;omega) m);unfold mW at hr;rw[hr];simp only[Option.map_some];obtain⟨c,i,⟨e,r,va,ks⟩⟩:=d;simp only at d2 d5 d6 d7 d8 ⊢;rw[Int.toNat_of_nonneg (by omega),Int.toNat_of_nonneg (by omega),Int.toNat_of_nonneg (by omega),Int.toNat_of_nonneg (by omega)];rfl
theorem ato {v:Int} (hv:v=1∨v=2) {F M N K:Nat} (hF:1≤F) (hM:20≤M) (hN:8≤N) (hK:5≤K) {x:ShR} (h:fq x) (hl:¬zJ v x.table) {l m:List UInt8} (he:mo v::l=l8 v x++m):BM v F M N K l=some (x,m):=by
 obtain⟨⟨s1,s2,s3⟩,⟨s4,s5,s6⟩,s7,s8⟩:=h;have mx:bZ=9007199254740992:=rfl;unfold l8 at he;rw[List.cons_append]at he;have he:=(List.cons.inj he).2;subst he;unfold BM;simp only[List.append_assoc];rw[Nk ⟨by omega,by omega⟩];simp only[Option.bind_some];rw[Nk ⟨by omega,by omega⟩];simp only[Option.bind_some];rw[Wx (by split<;>omega) (by split<;>omega)];simp only[Option.bind_some];rw[Wx (by omega) (by omega)];simp only[Option.bind_some];rw[Wx (by omega) (by omega)];simp only[Option.bind_some];rw[VQ (f:=xW v) (g:=oz v) (xs:=x.table) _ (fun r hr m=>ar2 hv ⟨s1 r hr,Classical.byContradiction fun e=>hl ⟨r,hr,e⟩⟩ m)];simp only[Option.bind_some];rw[VQ (f:=uj K) (g:=l9) (xs:=x.cache) _ (fun d hd m=>aof hK (s4 d hd) m)];simp only[Option.map_some];obtain⟨i,e,f,t,c⟩:=x;simp only at s7 s8 ⊢;rw[Int.toNat_of_nonneg (by omega),Int.toNat_of_nonneg (by omega)]
 cases f<;>rfl
open Classical in
noncomputable def Az (v:Int) (l:List UInt8):Option ShR:=
 match l with
 |[]=>none
 |b::l'=>if b≠mo v then none else match BM v 1 20 8 5 l' with
  |none=>none
  |some x=>if fq x.1∧x.2=oC v (l.take (l.length-x.2.length))then some x.1 else none
theorem ae5 {v:Int} (hv:v=1∨v=2) {x:ShR} (h:fq x) (hl:¬zJ v x.table):encS v x=(l8 v x++oC v (l8 v x),0):=by
 unfold encS;rw[if_neg (fun hn=>hn ⟨h,hv⟩),if_neg hl]
theorem ahZ {v:Int} (hv:v=1∨v=2) {l:List UInt8} {x:ShR}:Az v l=some x↔encS v x=(l,0):=by
 constructor
 ·intro h;unfold Az at h
  cases l with
  |nil=>cases h
  |cons b l'=>
   simp only at h;split at h
   ·cases h
   ·rename_i hb;have hb:=Classical.not_not.1 hb;subst hb;split at h
    ·cases h
    ·rename_i y hy;obtain⟨y,r⟩:=y;split at h
     ·rename_i hc;have:=Option.some.inj h;simp only at this hc;subst this;obtain⟨a1,a2⟩:=atq hv rfl hy;rw[ae5 hv hc.1 a2];have h2:=hc.2;rw[a1,List.length_append,Nat.add_sub_cancel,List.take_left]at h2;rw[←h2,←a1]
     ·cases h
 ·intro h;obtain⟨h1,_,h2,h3⟩:=Il h;have hx:∃l',l8 v x++oC v (l8 v x)=mo v::l':=⟨_,by unfold l8;rw[List.cons_append]⟩;obtain⟨l',hl'⟩:=hx;have hp:=ato hv (Nat.le_refl 1) (Nat.le_refl 20) (Nat.le_refl 8) (Nat.le_refl 5) h1 h2 hl'.symm;rw[h3,hl'];unfold Az;simp only;rw[if_neg (fun hn=>hn rfl),hp];simp only;rw[if_pos];refine⟨h1,?_⟩;rw[←hl',List.length_append,Nat.add_sub_cancel,List.take_left]
theorem an0 {v:Int} (hv:v=1∨v=2) (l:List UInt8):pz v l=match Az v l with|some x=>(x,0)|none=>(nV,11):=by
 cases h:Az v l with
 |some x=>exact MU ((ahZ hv).1 h)
 |none=>exact Uw hv fun s hs=>by rw[(ahZ hv).2 hs]at h;cases h
end Go.Proofs.YtodaapcohdpenaaGreat
