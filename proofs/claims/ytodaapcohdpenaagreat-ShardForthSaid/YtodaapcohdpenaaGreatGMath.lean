-- eB
namespace Go.Proofs.YtodaapcohdpenaaGreat
def vb (n:Nat):List UInt8:=if n<128 then[UInt8.ofNat n]else UInt8.ofNat (n % 128+128)::vb (n / 128)
termination_by n
decreasing_by omega
theorem Gb {n:Nat} (h:n<128):vb n=[UInt8.ofNat n]:=by rw[vb,if_pos h]
theorem N8 {n:Nat} (h:¬n<128):vb n=UInt8.ofNat (n % 128+128)::vb (n / 128):=by rw[vb,if_neg h]
def val:List UInt8→Nat
 |[]=>0
 |b::t=>b.toNat % 128+128*val t
def lead:List UInt8→Nat
 |[]=>0
 |b::t=>if b.toNat<128 then 0 else lead t+1
def bY (l:List UInt8):Nat×Nat×Nat:=
 if lead l<min l.length 8 then
  (if 9007199254740992<val (l.take (lead l+1))∨(0<lead l∧(l[lead l]?.getD 0).toNat=0)then(0,0,11)else(val (l.take (lead l+1)),lead l+1,0))
 else if 8≤l.length then(0,0,11)else(0,0,10)
theorem auV (n:Nat):vb n≠[]:=by rw[vb];split<;>simp
theorem Lg (n:Nat):0<(vb n).length:=List.length_pos_iff.2 (auV n)
theorem Sb {n:Nat} (h:n<256):(UInt8.ofNat n).toNat=n:=by simp;omega
theorem auT (n:Nat):val (vb n)=n:=by
 induction n using Nat.strongRecOn with
 |_ n ih=>
  by_cases h:n<128
  ·rw[Gb h];simp[val];omega
  ·rw[N8 h];simp only[val];rw[ih (n / 128) (by omega),Sb (by omega)];omega
theorem ab5 (k:Nat):∀n,n<128 ^ k→(vb n).length≤max k 1:=by
 induction k with
 |zero=>intro n h;rw[Gb (by simp at h;omega)];simp
 |succ k ih=>
  intro n h
  by_cases h1:n<128
  ·rw[Gb h1];exact Nat.le_max_right _ _
  ·rw[N8 h1];have:=ih (n / 128) (by rw[Nat.pow_succ]at h;omega);have hk:0<k:=by
    rcases Nat.eq_zero_or_pos k with rfl|hk
    ·simp at h;omega
    ·exact hk
   simp only[List.length_cons];omega
theorem BN {n:Nat} (h:n≤9007199254740992):(vb n).length≤8:=by
  have:=ab5 8 n (by
   have:(128:Nat) ^ 8=72057594037927936:=by decide
   omega)
  omega
theorem aqj (n:Nat) (m:List UInt8):lead (vb n++m)=(vb n).length-1:=by
 induction n using Nat.strongRecOn with
 |_ n ih=>
  by_cases h:n<128
  ·rw[Gb h];simp[lead];omega
  ·rw[N8 h];simp only[List.cons_append,lead];rw[Sb (by omega),if_neg (by omega),ih (n / 128) (by omega)];have:=Lg (n / 128);simp only[List.length_cons];omega
theorem auU (n:Nat) (h:128≤n) (m:List UInt8):(((vb n++m)[(vb n).length-1]?).getD 0).toNat≠0:=by
 induction n using Nat.strongRecOn with
 |_ n ih=>
  rw[N8 (by omega)];have hp:=Lg (n / 128);have e:(UInt8.ofNat (n % 128+128)::vb (n / 128)).length-1=((vb (n / 128)).length-1)+1:=by simp only[List.length_cons];omega
  rw[e,List.cons_append,List.getElem?_cons_succ]
  by_cases h1:n / 128<128
  ·rw[Gb h1];simp;omega
  ·exact ih (n / 128) (by omega) (by omega)
theorem NV {n:Nat} (h:n≤9007199254740992) (m:List UInt8):bY (vb n++m)=(n,(vb n).length,0):=by
 have hp:=Lg n;have h8:=BN h;unfold bY;rw[aqj,if_pos (by simp only[List.length_append];omega)];have e:(vb n).length-1+1=(vb n).length:=by omega
 rw[e,List.take_left,auT,if_neg];intro hc;rcases hc with hc|⟨h1,h2⟩
 ·omega
 ·by_cases h3:n<128
  ·rw[Gb h3]at h1;simp at h1
  ·exact auU n (by omega) m h2
theorem auP (l:List UInt8) (h:lead l<l.length) (hz:0<lead l→(l[lead l]?.getD 0).toNat≠0):vb (val (l.take (lead l+1)))=l.take (lead l+1):=by
 induction l with
 |nil=>simp at h
 |cons b t ih=>
  have hb:b.toNat<256:=b.toNat_lt
  by_cases h1:b.toNat<128
  ·have e:lead (b::t)=0:=by simp[lead,h1]
   rw[e];simp only[Nat.zero_add,List.take_succ_cons,List.take_zero,val];rw[Gb (by omega)];congr 1;apply UInt8.toNat_inj.1;rw[Sb (by omega)];omega
  ·have e:lead (b::t)=lead t+1:=by simp[lead,h1]
   rw[e]at h hz ⊢;have ht:lead t<t.length:=by simpa using h
   have hz':(t[lead t]?.getD 0).toNat≠0:=by simpa using hz (by omega)
   simp only[List.take_succ_cons,val];have ih':=ih ht (fun _=>hz')
   -- the rest is worth something,so that this number is 128 or more
   have hv:0<val (t.take (lead t+1)):=by
    rcases Nat.eq_zero_or_pos (val (t.take (lead t+1)))with h0|h0
    ·exfalso;rw[h0,Gb (by omega)]at ih';have hl:(t.take (lead t+1)).length=1:=by rw[←ih'];rfl
     have hl0:lead t=0:=by rw[List.length_take]at hl;omega
     rw[hl0]at ih' hz'
     cases t with
     |nil=>simp at ht
     |cons c u=>
      simp at ih' hz';subst ih';simp at hz'
    ·exact h0
   rw[N8 (by omega)];have e1:(b.toNat % 128+128*val (t.take (lead t+1))) / 128=val (t.take (lead t+1)):=by omega
   rw[e1,ih'];congr 1;apply UInt8.toNat_inj.1;rw[Sb (by omega)];omega
theorem Wj {l:List UInt8} {n k:Nat} (h:bY l=(n,k,0)):n≤9007199254740992∧1≤k∧k≤l.length∧vb n=l.take k:=by
 unfold bY at h;split at h
 ·rename_i h1;split at h
  ·simp at h
  ·rename_i h2;simp only[Prod.mk.injEq]at h;obtain⟨rfl,rfl,_⟩:=h;have h3:¬9007199254740992<val (l.take (lead l+1)):=fun hc=>h2 (.inl hc);refine⟨by omega,by omega,by omega,auP l (by omega) (fun hp hc=>h2 (.inr ⟨hp,hc⟩))⟩
 ·split at h<;>simp at h
theorem abU (l:List UInt8):(bY l).1≤9007199254740992:=by
 unfold bY;split
 ·split
  ·simp
  ·rename_i h;simp only;omega
 ·split<;>simp
theorem abV (l:List UInt8):(bY l).2.1≤l.length∧(bY l).2.1≤8:=by
 unfold bY;split
 ·split
  ·simp
  ·simp only;omega
 ·split<;>simp
theorem NU (l:List UInt8):(bY l).2.2=0∨(bY l).2.2=10∨(bY l).2.2=11:=by
 unfold bY;split
 ·split<;>simp
 ·split<;>simp
abbrev aT:=Int×ByteArray
def tg (fs:List aT) (i:Nat):Int:=(fs.getD i (0,ByteArray.empty)).1
def dt (fs:List aT) (i:Nat):ByteArray:=(fs.getD i (0,ByteArray.empty)).2
theorem AA {fs:List aT} {i:Nat} (h:i<fs.length):tg fs i=fs[i].1:=by unfold tg;rw[List.getD_eq_getElem?_getD,List.getElem?_eq_getElem h];rfl
theorem Fz {fs:List aT} {i:Nat} (h:i<fs.length):dt fs i=fs[i].2:=by unfold dt;rw[List.getD_eq_getElem?_getD,List.getElem?_eq_getElem h];rfl
theorem MX {fs:List aT} {i:Nat} (h:i<fs.length):fs[i]=(tg fs i,dt fs i):=by rw[AA h,Fz h]
def xS (t a:Int):Bool:=decide (a<t)&&decide (t≤1000000)
theorem agG {t a:Int} (h1:a<t) (h2:t≤1000000):xS t a=true:=by unfold xS;simp[h1,h2]
theorem Vn {t a:Int}:xS t a=true↔a<t∧t≤1000000:=by unfold xS;simp
theorem agF {t a:Int}:xS t a=false↔¬(a<t∧t≤1000000):=by rw[←Vn];simp
def hd (fs:List aT) (i:Nat):Int:=if i=0 then 0 else tg fs (i-1)
def qU (fs:List aT) (i:Nat):Bool:=xS (tg fs i) (hd fs i)&&decide ((dt fs i).size≤1000)
def jU (fs:List aT):Bool:=decide (fs.length≤64)&&(List.range fs.length).all (qU fs)
theorem Ap {fs:List aT}:jU fs=true↔fs.length≤64∧∀i,i<fs.length→qU fs i=true:=by unfold jU;simp
theorem abv {fs:List aT} (h1:fs.length≤64) (h2:∀i,i<fs.length→qU fs i=true):jU fs=true:=Ap.2 ⟨h1,h2⟩
theorem K9 {fs:List aT} {i:Nat} (h:i<fs.length) (h2:qU fs i=false):jU fs=false:=by
 cases hr:jU fs with
 |false=>rfl
 |true=>rw[(Ap.1 hr).2 i h]at h2;cases h2
theorem aho {fs:List aT} (h:64<fs.length):jU fs=false:=by
 cases hr:jU fs with
 |false=>rfl
 |true=>have:=(Ap.1 hr).1;omega
theorem FU {fs:List aT} {i:Nat}:qU fs i=true↔hd fs i<tg fs i∧tg fs i≤1000000∧(dt fs i).size≤1000:=by unfold qU;simp[Vn,and_assoc]
theorem RJ {fs:List aT} {i:Nat} (h:¬(hd fs i<tg fs i∧tg fs i≤1000000∧(dt fs i).size≤1000)):qU fs i=false:=by
 cases hr:qU fs i with
 |false=>rfl
 |true=>exact absurd (FU.1 hr) h
theorem QN (fs:List aT) (i:Nat):hd fs (i+1)=tg fs i:=by unfold hd;simp
theorem aam (fs:List aT):hd fs 0=0:=by unfold hd;simp
theorem afE {fs:List aT}:∀i,i≤fs.length→(∀j,j<i→qU fs j=true)→0≤hd fs i∧hd fs i≤1000000:=by
 intro i
 induction i with
 |zero=>intro _ _;rw[aam];omega
 |succ i ih=>
  intro h1 h2;have h3:=ih (by omega) (fun j hj=>h2 j (by omega));have h4:=FU.1 (h2 i (by omega));rw[QN];omega
def enc1 (f:aT):List UInt8:=vb f.1.toNat++(vb f.2.size++f.2.data.toList)
def gY (fs:List aT):List UInt8:=fs.flatMap enc1
theorem ae4 (f:aT) (fs:List aT):gY (f::fs)=enc1 f++gY fs:=by simp[gY]
theorem Z7 (a b:List aT):gY (a++b)=gY a++gY b:=by simp[gY]
theorem aot {fs:List aT} {i:Nat} (h:i<fs.length):gY (fs.take (i+1))=gY (fs.take i)++(vb (tg fs i).toNat++(vb (dt fs i).size++(dt fs i).data.toList)):=by
 rw[List.take_succ_eq_append_getElem h,Z7,MX h];simp[gY,enc1]
theorem ae3 {f:aT} (h1:f.1≤1000000) (h2:f.2.size≤1000):(enc1 f).length≤f.2.size+5:=by
  unfold enc1;have e1:=ab5 3 f.1.toNat (by
   have:(128:Nat) ^ 3=2097152:=by decide
   omega)
  have e2:=ab5 2 f.2.size (by
   have:(128:Nat) ^ 2=16384:=by decide
   omega)
  have e3:f.2.data.toList.length=f.2.size:=by simp
  simp only[List.length_append];omega
theorem aos (f:aT):2≤(enc1 f).length:=by
 unfold enc1;have e1:=Lg f.1.toNat;have e2:=Lg f.2.size;simp only[List.length_append];omega
theorem Z8 {fs:List aT} (h:∀j,j<fs.length→qU fs j=true):∀i,i≤fs.length→(gY (fs.take i)).length≤1005*i:=by
 intro i
 induction i with
 |zero=>intro _;simp[gY]
 |succ i ih=>
  intro h1;have h4:=FU.1 (h i (by omega));have h5:=ih (by omega);rw[List.take_succ_eq_append_getElem (by omega),Z7,List.length_append];have h6:=ae3 (f:=fs[i]) (by rw[←AA (by omega)];omega) (by rw[←Fz (by omega)];omega);have h7:(fs[i].2).size≤1000:=by rw[←Fz (by omega)];omega
  have h8:gY [fs[i]]=enc1 fs[i]:=by simp[gY]
  rw[h8];omega
def encR (fs:List aT):List UInt8×Nat:=if jU fs then(if(gY fs).length≤10000 then(gY fs,0)else([],12))else([],1)
def oN (fs:List aT) (t:Int):ByteArray×Bool:=match fs.find? (fun f=>f.1==t)with|some f=>(f.2,true)|none=>(ByteArray.empty,false)
theorem afh {fs:List aT} {t:Int} (h:∀j,j<fs.length→tg fs j≠t):oN fs t=(ByteArray.empty,false):=by
 have:fs.find? (fun f=>f.1==t)=none:=by
  rw[List.find?_eq_none];intro x hx;obtain⟨i,hi,rfl⟩:=List.mem_iff_getElem.1 hx;have:=h i hi;rw[AA hi]at this;simpa using this
 unfold oN;rw[this]
theorem aoO {fs:List aT} {t:Int} {k:Nat} (hk:k<fs.length) (h:∀j,j<k→tg fs j≠t) (h2:tg fs k=t):oN fs t=(dt fs k,true):=by
 have:fs.find? (fun f=>f.1==t)=some fs[k]:=by
  rw[List.find?_eq_some_iff_getElem];refine⟨by rw[←AA hk];simpa using h2,k,hk,rfl,fun j hj=>?_⟩;have:=h j hj;rw[AA (by omega)]at this;simpa using this
 unfold oN;rw[this,Fz hk]
def jJ (l:List UInt8) (a:Nat):Nat×List UInt8×Nat×Nat:=
 if(bY l).2.2≠0 then(0,[],0,(bY l).2.2)
 else if xS (bY l).1 a=false then(0,[],0,13)
 else if(bY (l.drop (bY l).2.1)).2.2≠0 then(0,[],0,(bY (l.drop (bY l).2.1)).2.2)
 else if 1000<(bY (l.drop (bY l).2.1)).1 then(0,[],0,11)
 else if l.length<(bY l).2.1+(bY (l.drop (bY l).2.1)).2.1+(bY (l.drop (bY l).2.1)).1 then(0,[],0,10)
 else((bY l).1,(l.drop ((bY l).2.1+(bY (l.drop (bY l).2.1)).2.1)).take (bY (l.drop (bY l).2.1)).1,(bY l).2.1+(bY (l.drop (bY l).2.1)).2.1+(bY (l.drop (bY l).2.1)).1,0)
def lG:Nat→List UInt8→Nat→Nat→List aT×Nat
 |0,_,_,_=>([],0)
 |fuel+1,l,a,c=>
  if l=[]then([],0)
  else if(jJ l a).2.2.2≠0 then([],(jJ l a).2.2.2)
  else if c=64 then([],11)
  else if(lG fuel (l.drop (jJ l a).2.2.1) (jJ l a).1 (c+1)).2≠0 then([],(lG fuel (l.drop (jJ l a).2.2.1) (jJ l a).1 (c+1)).2)
  else((((jJ l a).1:Int),(⟨(jJ l a).2.1.toArray⟩:ByteArray))::(lG fuel (l.drop (jJ l a).2.2.1) (jJ l a).1 (c+1)).1,0)
def nP (l:List UInt8):List aT×Nat:=if 10000<l.length then([],12)else lG l.length l 0 0
theorem Wi {l:List UInt8} {a:Nat} {t k:Nat} {d:List UInt8} (h:jJ l a=(t,d,k,0)):2≤k∧k≤l.length∧a<t∧t≤1000000∧d.length≤1000∧vb t++(vb d.length++d)=l.take k:=by
 unfold jJ at h;generalize h1:bY l=r1 at h;obtain⟨n1,k1,e1⟩:=r1;simp only at h;split at h
 ·simp only[Prod.mk.injEq]at h;omega
 rename_i he1;split at h
 ·simp only[Prod.mk.injEq]at h;omega
 rename_i hm;generalize h2:bY (l.drop k1)=r2 at h;obtain⟨n2,k2,e2⟩:=r2;simp only at h;split at h
 ·simp only[Prod.mk.injEq]at h;omega
 rename_i he2;split at h
 ·simp only[Prod.mk.injEq]at h;omega
 rename_i Qu;split at h
 ·simp only[Prod.mk.injEq]at h;omega
 rename_i hcut;simp only[Prod.mk.injEq]at h;obtain⟨rfl,rfl,rfl,_⟩:=h;have KA:e1=0:=by omega
 have e2':e2=0:=by omega
 subst KA e2';obtain⟨_,a1,a2,a3⟩:=Wj h1;obtain⟨_,b1,b2,b3⟩:=Wj h2;have hm':xS (n1:Int) (a:Int)=true:=by simpa using hm
 have hm2:=Vn.1 hm';rw[List.length_drop]at b2;have hd:((l.drop (k1+k2)).take n2).length=n2:=by rw[List.length_take,List.length_drop];omega
 refine⟨by omega,by omega,by omega,by omega,by omega,?_⟩;rw[hd,a3,b3];rw[show k1+k2+n2=k1+(k2+n2) by omega,List.take_add,List.take_add,List.drop_drop]
theorem auc {l:List UInt8} {a:Nat}:(jJ l a).2.2.2=0∨(jJ l a).2.2.2=10∨(jJ l a).2.2.2=11∨(jJ l a).2.2.2=13:=by
 have h1:=NU l;have h2:=NU (l.drop (bY l).2.1);unfold jJ;split
 ·simp only;omega
 split
 ·simp
 split
 ·simp only;omega
 split
 ·simp
 split<;>simp
def comb (pre:List aT) (r:List aT×Nat):List aT×Nat:=if r.2=0 then(pre++r.1,0)else([],r.2)
theorem anX:∀(f1 f2:Nat) (l:List UInt8) (a c:Nat),l.length≤f1→l.length≤f2→lG f1 l a c=lG f2 l a c:=by
 intro f1
 induction f1 with
 |zero=>
  intro f2 l a c h1 h2;have:l=[]:=List.eq_nil_of_length_eq_zero (by omega);subst this
  cases f2<;>simp[lG]
 |succ f1 ih=>
  intro f2 l a c h1 h2
  by_cases hl:l=[]
  ·subst hl;cases f2<;>simp[lG]
  ·have hp:0<l.length:=List.length_pos_iff.2 hl;obtain⟨f2,rfl⟩:∃q,f2=q+1:=⟨f2-1,by omega⟩;unfold lG;rw[if_neg hl,if_neg hl]
   by_cases he:(jJ l a).2.2.2≠0
   ·rw[if_pos he,if_pos he]
   ·rw[if_neg he,if_neg he];have hk:2≤(jJ l a).2.2.1:=by
     have:=Wi (l:=l) (a:=a) (t:=(jJ l a).1) (d:=(jJ l a).2.1) (k:=(jJ l a).2.2.1) (by
      rw[show(0:Nat)=(jJ l a).2.2.2 by omega])
     exact this.1
    have e:=ih f2 (l.drop (jJ l a).2.2.1) (jJ l a).1 (c+1) (by rw[List.length_drop];omega) (by rw[List.length_drop];omega);rw[e]
theorem Ur (pre:List aT) (f a c:Nat):comb pre (lG f [] a c)=(pre,0):=by cases f<;>simp[lG,comb]
theorem aeK (pre:List aT) {l:List UInt8} {f a c e:Nat} (hl:l≠[]) (hf:l.length≤f) (h:(jJ l a).2.2.2=e) (he:e≠0):comb pre (lG f l a c)=([],e):=by
 have hp:0<l.length:=List.length_pos_iff.2 hl;obtain⟨f,rfl⟩:∃q,f=q+1:=⟨f-1,by omega⟩;subst h;unfold lG comb;rw[if_neg hl,if_pos he];simp[he]
theorem aeL (pre:List aT) {l:List UInt8} {f a:Nat} (hl:l≠[]) (hf:l.length≤f) (h:(jJ l a).2.2.2=0):comb pre (lG f l a 64)=([],11):=by
 have hp:0<l.length:=List.length_pos_iff.2 hl;obtain⟨f,rfl⟩:∃q,f=q+1:=⟨f-1,by omega⟩;unfold lG comb;rw[if_neg hl,if_neg (show ¬(jJ l a).2.2.2≠0 from fun hh=>hh h),if_pos (show(64:Nat)=64 from rfl)];simp
theorem ZP (pre:List aT) {l:List UInt8} {f a t k c:Nat} {d:List UInt8} (hl:l≠[]) (hf:l.length≤f) (h:jJ l a=(t,d,k,0)) (hc:c≠64):
  comb pre (lG f l a c)=comb (pre++[((t:Int),(⟨d.toArray⟩:ByteArray))]) (lG (l.drop k).length (l.drop k) t (c+1)):=by
 have hp:0<l.length:=List.length_pos_iff.2 hl;obtain⟨f,rfl⟩:∃q,f=q+1:=⟨f-1,by omega⟩;have hk:=(Wi h).1;have e:=anX f (l.drop k).length (l.drop k) t (c+1) (by rw[List.length_drop];omega) (Nat.le_refl _);rw[←e]
 conv=>lhs;unfold lG
 rw[if_neg hl,h];simp only[ne_eq,not_true_eq_false,if_false];rw[if_neg hc];unfold comb
 by_cases hz:(lG f (l.drop k) t (c+1)).2=0
 ·simp[hz]
 ·simp[hz]
theorem aeQ {l:List UInt8} (h:10000<l.length):nP l=([],12):=by unfold nP;rw[if_pos h]
theorem ZQ {l:List UInt8} (h:¬10000<l.length):nP l=comb [] (lG l.length l 0 0):=by
 unfold nP comb;rw[if_neg h]
 by_cases hz:(lG l.length l 0 0).2=0
 ·rw[if_pos hz];generalize lG l.length l 0 0=r at hz ⊢;obtain⟨x,y⟩:=r;simp only at hz;subst hz;simp
 ·rw[if_neg hz];have:(lG l.length l 0 0).1=[]:=by
   cases hl:l.length with
   |zero=>rw[hl]at hz;simp[lG]at hz
   |succ f=>
    rw[hl]at hz;unfold lG at hz ⊢;split
    ·rfl
    ·rename_i h1;rw[if_neg h1]at hz;split
     ·rfl
     ·rename_i h2;rw[if_neg h2]at hz;split
      ·rfl
      ·rename_i h3;rw[if_neg h3]at hz;split
       ·rfl
       ·rename_i h4;rw[if_neg h4]at hz;exact absurd rfl hz
  rw[←this]
def chain:Int→List aT→Prop
 |_,[]=>True
 |a,f::t=>(a<f.1∧f.1≤1000000∧f.2.size≤1000)∧chain f.1 t
theorem ano:∀(fs:List aT) (a:Int),chain a fs↔∀i,i<fs.length→(if i=0 then a else tg fs (i-1))<tg fs i∧tg fs i≤1000000∧(dt fs i).size≤1000:=by
 intro fs
 induction fs with
 |nil=>intro a;simp[chain]
 |cons f fs ih=>
  intro a;have t0:tg (f::fs) 0=f.1:=rfl;have d0:dt (f::fs) 0=f.2:=rfl;have ts:∀i,tg (f::fs) (i+1)=tg fs i:=fun i=>by simp[tg]
  have ds:∀i,dt (f::fs) (i+1)=dt fs i:=fun i=>by simp[dt]
  constructor
  ·rintro⟨h1,h2⟩ i hi
   cases i with
   |zero=>rw[if_pos rfl,t0,d0];exact h1
   |succ i=>
    have h3:=(ih f.1).1 h2 i (by simpa using hi);rw[if_neg (by omega),ts,ds,Nat.add_sub_cancel]
    cases i with
    |zero=>rw[t0];simpa using h3
    |succ i=>rw[ts];rw[if_neg (by omega),Nat.add_sub_cancel]at h3;exact h3
  ·intro h;refine⟨?_,(ih f.1).2 fun i hi=>?_⟩
   ·have:=h 0 (by simp);rw[if_pos rfl,t0,d0]at this;exact this
   ·have h3:=h (i+1) (by simpa using hi);rw[if_neg (by omega),ts,ds,Nat.add_sub_cancel]at h3
    cases i with
    |zero=>rw[if_pos rfl];rw[t0]at h3;exact h3
    |succ i=>rw[if_neg (by omega),Nat.add_sub_cancel];rw[ts]at h3;exact h3
theorem NA {fs:List aT}:jU fs=true↔fs.length≤64∧chain 0 fs:=by
 rw[Ap,ano];constructor
 ·rintro⟨h1,h2⟩;refine⟨h1,fun i hi=>?_⟩;exact FU.1 (h2 i hi)
 ·rintro⟨h1,h2⟩;exact⟨h1,fun i hi=>FU.2 (h2 i hi)⟩
def lastT (t:Int) (a:List aT):Int:=match a.getLast? with|some f=>f.1|none=>t
theorem aqh (t:Int) (f:aT) (a:List aT):lastT t (f::a)=lastT f.1 a:=by
 unfold lastT
 cases a with
 |nil=>simp
 |cons g a=>
  rw[List.getLast?_cons_cons];have:∃x,(g::a).getLast? =some x:=⟨_,List.getLast?_eq_some_getLast (by simp)⟩;obtain⟨x,hx⟩:=this;rw[hx]
theorem ZO {a:List aT} {s t:Int} (h:chain t a) (hs:s≤t):chain s a:=by
 cases a with
 |nil=>trivial
 |cons f a=>exact⟨⟨by have:=h.1;omega,h.1.2⟩,h.2⟩
theorem bsd (d:ByteArray):(⟨d.data.toList.toArray⟩:ByteArray)=d:=by simp
theorem aeV (d:ByteArray):d.data.toList.length=d.size:=by simp
theorem aua {t a:Nat} {d rest:List UInt8} (h1:a<t) (h2:t≤1000000) (h3:d.length≤1000):
  jJ (vb t++(vb d.length++d)++rest) a=(t,d,(vb t++(vb d.length++d)).length,0):=by
 have e1:=NV (n:=t) (by omega) (vb d.length++d++rest);have e2:=NV (n:=d.length) (by omega) (d++rest);have hm:xS (t:Int) (a:Int)=true:=agG (by omega) (by omega);have hl:vb t++(vb d.length++d)++rest=vb t++(vb d.length++d++rest):=by simp
 rw[hl];unfold jJ;rw[e1];simp only[ne_eq,not_true_eq_false,if_false,hm,Bool.true_eq_false];rw[List.drop_left,show vb d.length++d++rest=vb d.length++(d++rest) by simp,e2];simp only[not_true_eq_false,if_false];rw[if_neg (by omega),if_neg (by simp only[List.length_append];omega)];have e3:(vb t++(vb d.length++(d++rest))).drop ((vb t).length+(vb d.length).length)=d++rest:=by
  rw[←List.drop_drop,List.drop_left,List.drop_left]
 rw[e3,List.take_left];simp only[List.length_append,Nat.add_assoc]
theorem aub {f:aT} {a:Nat} {rest:List UInt8} (h1:(a:Int)<f.1) (h2:f.1≤1000000) (h3:f.2.size≤1000):
  jJ (enc1 f++rest) a=(f.1.toNat,f.2.data.toList,(enc1 f).length,0):=by
 have:=aua (t:=f.1.toNat) (a:=a) (d:=f.2.data.toList) (rest:=rest) (by omega) (by omega) (by rw[aeV];exact h3);rw[aeV]at this;exact this
theorem an2:∀(fs pre:List aT) (a c:Nat) (rest:List UInt8),chain a fs→c+fs.length≤64→
  comb pre (lG (gY fs++rest).length (gY fs++rest) a c)=comb (pre++fs) (lG rest.length rest (lastT a fs).toNat (c+fs.length)):=by
 intro fs
 induction fs with
 |nil=>intro pre a c rest _ _;simp[gY,lastT]
 |cons f fs ih=>
  intro pre a c rest h hc;obtain⟨⟨h1,h2,h3⟩,h4⟩:=h;simp only[List.length_cons]at hc;have e:=aub (rest:=gY fs++rest) h1 h2 h3;have hl:gY (f::fs)++rest=enc1 f++(gY fs++rest):=by rw[ae4,List.append_assoc]
  have hne:enc1 f++(gY fs++rest)≠[]:=by
   have:=aos f;intro h;have:=congrArg List.length h;rw[List.length_append,List.length_nil]at this;omega
  rw[hl,ZP pre hne (Nat.le_refl _) e (by omega),List.drop_left,bsd];have ef:((f.1.toNat:Int),f.2)=f:=by rw[Int.toNat_of_nonneg (by omega)]
  rw[ef,ih (pre++[f]) f.1.toNat (c+1) rest (by rw[Int.toNat_of_nonneg (by omega)];exact h4) (by omega),Int.toNat_of_nonneg (by omega),aqh];simp only[List.append_assoc,List.singleton_append,List.length_cons];rw[show c+1+fs.length=c+(fs.length+1) by omega]
theorem aeS {fs:List aT} (h:jU fs=true) (hl:(gY fs).length≤10000):nP (gY fs)=(fs,0):=by
 obtain⟨h1,h2⟩:=NA.1 h;rw[ZQ (by omega)];have:=an2 fs [] 0 0 [] h2 (by omega);rw[List.append_nil,Ur]at this;simpa using this
theorem an1:∀(n:Nat) (l:List UInt8) (pre R:List aT) (a c:Nat),l.length≤n→c≤64→comb pre (lG l.length l a c)=(R,0)→∃fs,R=pre++fs∧gY fs=l∧chain a fs∧c+fs.length≤64:=by
 intro n
 induction n with
 |zero=>
  intro l pre R a c hl hc h;obtain rfl:l=[]:=List.eq_nil_of_length_eq_zero (by omega);rw[Ur]at h;simp only[Prod.mk.injEq]at h;exact⟨[],by simp[h.1],rfl,trivial,by simpa using hc⟩
 |succ n ih=>
  intro l pre R a c hl hc h
  by_cases hne:l=[]
  ·subst hne;rw[Ur]at h;simp only[Prod.mk.injEq]at h;exact⟨[],by simp[h.1],rfl,trivial,by simpa using hc⟩
  ·generalize hT:jJ l a=T;obtain⟨t,d,k,e⟩:=T
   by_cases he:e=0
   ·subst he
    by_cases h64:c=64
    ·subst h64;rw[aeL pre hne (Nat.le_refl _) (by rw[hT])]at h;simp at h
    ·have hok:=Wi hT;rw[ZP pre hne (Nat.le_refl _) hT h64]at h;obtain⟨fs,h1,h2,h3,h4⟩:=ih (l.drop k) _ R t (c+1) (by rw[List.length_drop];omega) (by omega) h;refine⟨((t:Int),(⟨d.toArray⟩:ByteArray))::fs,by rw[h1];simp,?_,⟨⟨by show(a:Int)<(t:Int);omega,by show(t:Int)≤1000000;omega,by show d.toArray.size≤1000;simpa using hok.2.2.2.2.1⟩,h3⟩,by simp only[List.length_cons];omega⟩;rw[ae4,h2];have:enc1 ((t:Int),(⟨d.toArray⟩:ByteArray))=l.take k:=by
      rw[←hok.2.2.2.2.2];show vb (t:Int).toNat++(vb d.toArray.size++d.toArray.toList)=_;simp
     rw[this,List.take_append_drop]
   ·rw[aeK pre hne (Nat.le_refl _) (by rw[hT]) he]at h;simp only[Prod.mk.injEq]at h;omega
theorem aeT {l:List UInt8} {fs:List aT} (h:nP l=(fs,0)):l.length≤10000∧gY fs=l∧jU fs=true:=by
 by_cases hl:10000<l.length
 ·rw[aeQ hl]at h;simp at h
 ·rw[ZQ hl]at h;obtain⟨gs,h1,h2,h3,h4⟩:=an1 l.length l [] fs 0 0 (Nat.le_refl _) (by omega) h;simp only[List.nil_append]at h1;subst h1;exact⟨by omega,h2,NA.2 ⟨by omega,h3⟩⟩
structure au where
 key:ByteArray
 value:ByteArray
 rev:Int
 life:Int
 note:ByteArray
 extra:List aT
def dL:au:=⟨ByteArray.empty,ByteArray.empty,0,0,ByteArray.empty,[]⟩
def rW (v:Int):Int:=if v=2 then 5 else 3
theorem Dq (v:Int):3≤rW v∧rW v≤5:=by unfold rW;split<;>omega
def fE (v t:Int):Bool:=decide (1≤t)&&decide (t≤rW v)
theorem BG {v t:Int}:fE v t=true↔1≤t∧t≤rW v:=by unfold fE;simp
theorem BH {v t:Int}:fE v t=false↔¬(1≤t∧t≤rW v):=by rw[←BG];simp
def few (l:List aT):Nat:=(l.filter fun f=>decide (f.1≠4∧f.1≠5)).length
theorem aoF (l:List aT):few l≤l.length:=List.length_filter_le _ _
theorem aoH (l:List aT) (f:aT):few (l++[f])=few l+(if f.1≠4∧f.1≠5 then 1 else 0):=by
 unfold few;rw[List.filter_append,List.length_append]
 by_cases h:f.1≠4∧f.1≠5
 ·rw[if_pos h,List.filter_cons_of_pos (by simpa using h)];simp
 ·rw[if_neg h,List.filter_cons_of_neg (by simpa using h)];simp
theorem Im (a b:List aT):few (a++b)=few a+few b:=by unfold few;rw[List.filter_append,List.length_append]
theorem MW {fs:List aT} {k:Nat} (h:k<fs.length):few (fs.take (k+1))=few (fs.take k)+(if tg fs k≠4∧tg fs k≠5 then 1 else 0):=by
 rw[List.take_succ_eq_append_getElem h,aoH,AA h]
def sP (v:Int) (l:List aT):Bool:=jU l&&decide (few l≤8)&&(List.range l.length).all fun i=>!fE v (tg l i)
theorem qB {v:Int} {l:List aT}:sP v l=true↔jU l=true∧few l≤8∧∀i,i<l.length→fE v (tg l i)=false:=by unfold sP;simp[and_assoc]
theorem MV {v:Int} {l:List aT} (h:¬(jU l=true∧few l≤8∧∀i,i<l.length→fE v (tg l i)=false)):sP v l=false:=by
 cases hr:sP v l with
 |false=>rfl
 |true=>exact absurd (qB.1 hr) h
def Kh (v:Int) (r:au):Prop:=if v=1 then r.life=0∧r.note.size=0 else 0≤r.life∧r.life≤9007199254740992∧r.note.size≤40
instance (v:Int) (r:au):Decidable (Kh v r):=by unfold Kh;infer_instance
def tq (v:Int) (r:au):Bool:=decide (Kh v r)
def kJ (v:Int) (r:au):Prop:=(v=1∨v=2)∧(1≤r.key.size∧r.key.size≤16)∧r.value.size≤200∧(0≤r.rev∧r.rev≤9007199254740992)∧tq v r=true∧sP v r.extra=true
instance (v:Int) (r:au):Decidable (kJ v r):=by unfold kJ;infer_instance
def eP (v:Int) (r:au):Bool:=decide (kJ v r)
theorem qV {v:Int} {r:au}:eP v r=true↔kJ v r:=by unfold eP;simp
theorem ahq {v:Int} {r:au} (h:¬kJ v r):eP v r=false:=by unfold eP;simpa using h
theorem aa6 {v:Int} {r:au}:tq v r=true↔Kh v r:=by unfold tq;simp
theorem Eu {r:au}:tq 1 r=true↔r.life=0∧r.note.size=0:=by rw[aa6];unfold Kh;simp
theorem BI {r:au}:tq 2 r=true↔0≤r.life∧r.life≤9007199254740992∧r.note.size≤40:=by rw[aa6];unfold Kh;simp
def iJ (n:Int):ByteArray:=if n=0 then ByteArray.empty else⟨(vb n.toNat).toArray⟩
def five (r:au):List aT:=[(1,r.key),(2,r.value),(3,iJ r.rev),(4,iJ r.life),(5,r.note)]
def full (l:List aT):List aT:=l.filter fun f=>decide (f.2.size≠0)
def fQ (r:au):List aT:=full (five r)++r.extra
def nG (v:Int) (r:au):List UInt8×Nat:=if eP v r then encR (fQ r)else([],1)
def jM (l:List UInt8):Nat:=if(bY l).2.2=0∧(bY l).2.1=l.length then(bY l).1 else 0
theorem aic (l:List UInt8):jM l≤9007199254740992:=by unfold jM;split;exact abU l;omega
def BL (r:au) (t:Int) (d:ByteArray):au:=
 if t=1 then{ r with key:=d }else if t=2 then{ r with value:=d }else if t=3 then{ r with rev:=jM d.data.toList }else if t=4 then{ r with life:=jM d.data.toList }else{ r with note:=d }
def j6 (v:Int) (r:au) (f:aT):au:=if fE v f.1 then BL r f.1 f.2 else{ r with extra:=r.extra++[f] }
def iW (v:Int) (l:List aT):au:=l.foldl (j6 v) dL
theorem al3 {v:Int} {fs:List aT} {k:Nat} (h:k<fs.length):iW v (fs.take (k+1))=j6 v (iW v (fs.take k)) (tg fs k,dt fs k):=by
 unfold iW;rw[List.take_succ_eq_append_getElem h,List.foldl_append,MX h];rfl
def okD (t:Int) (d:ByteArray):Bool:=
 if t=1 then decide (1≤d.size∧d.size≤16)else if t=2 then decide (1≤d.size∧d.size≤200)else if t=3∨t=4 then decide (0<jM d.data.toList)else decide (1≤d.size∧d.size≤40)
def Ao (t:Int) (d:ByteArray):Bool:=decide (1≤d.size)&&(if t=3∨t=4 then decide (0<jM d.data.toList)else true)
theorem Nn (d:ByteArray):okD 1 d=true↔1≤d.size∧d.size≤16:=by simp[okD]
theorem Np (d:ByteArray):okD 2 d=true↔1≤d.size∧d.size≤200:=by simp[okD]
theorem Nq (d:ByteArray):okD 3 d=true↔0<jM d.data.toList:=by simp[okD]
theorem RL (d:ByteArray):okD 4 d=true↔0<jM d.data.toList:=by simp[okD]
theorem RN (d:ByteArray):okD 5 d=true↔1≤d.size∧d.size≤40:=by simp[okD]
theorem aqY (d:ByteArray):Ao 1 d=true↔1≤d.size:=by simp[Ao]
theorem aqZ (d:ByteArray):Ao 2 d=true↔1≤d.size:=by simp[Ao]
theorem aq0 (d:ByteArray):Ao 3 d=true↔1≤d.size∧0<jM d.data.toList:=by simp[Ao]
theorem aq1 (d:ByteArray):Ao 4 d=true↔1≤d.size∧0<jM d.data.toList:=by simp[Ao]
theorem aq2 (d:ByteArray):Ao 5 d=true↔1≤d.size:=by simp[Ao]
def nU (v:Int) (l:List aT):Bool:=(List.range l.length).all (fun i=>!fE v (tg l i)||okD (tg l i) (dt l i))&&decide (few (iW v l).extra≤8)
def abl (v:Int) (l:List aT):Bool:=(List.range l.length).all (fun i=>!fE v (tg l i)||Ao (tg l i) (dt l i))&&eP v (iW v l)
theorem K8 {v:Int} {l:List aT}:nU v l=true↔(∀i,i<l.length→fE v (tg l i)=true→okD (tg l i) (dt l i)=true)∧few (iW v l).extra≤8:=by
 unfold nU;simp only[Bool.and_eq_true,List.all_eq_true,List.mem_range,Bool.or_eq_true,Bool.not_eq_true',decide_eq_true_eq];constructor
 ·rintro⟨h1,h2⟩;refine⟨fun i hi hk=>?_,h2⟩;rcases h1 i hi with h|h
  ·rw[hk]at h;cases h
  ·exact h
 ·rintro⟨h1,h2⟩;refine⟨fun i hi=>?_,h2⟩
  cases hk:fE v (tg l i)with
  |false=>exact .inl rfl
  |true=>exact .inr (h1 i hi hk)
theorem ag6 {v:Int} {l:List aT}:abl v l=true↔(∀i,i<l.length→fE v (tg l i)=true→Ao (tg l i) (dt l i)=true)∧eP v (iW v l)=true:=by
 unfold abl;simp only[Bool.and_eq_true,List.all_eq_true,List.mem_range,Bool.or_eq_true,Bool.not_eq_true'];constructor
 ·rintro⟨h1,h2⟩;refine⟨fun i hi hk=>?_,h2⟩;rcases h1 i hi with h|h
  ·rw[hk]at h;cases h
  ·exact h
 ·rintro⟨h1,h2⟩;refine⟨fun i hi=>?_,h2⟩
  cases hk:fE v (tg l i)with
  |false=>exact .inl rfl
  |true=>exact .inr (h1 i hi hk)
theorem ag5 {v:Int} {l:List aT} (h:¬((∀i,i<l.length→fE v (tg l i)=true→okD (tg l i) (dt l i)=true)∧few (iW v l).extra≤8)):nU v l=false:=by
 cases hr:nU v l with
 |false=>rfl
 |true=>exact absurd (K8.1 hr) h
def dD (v:Int) (s:List UInt8):au×Nat:=
 if ¬(v=1∨v=2)then(dL,1)
 else if(nP s).2≠0 then(dL,(nP s).2)
 else if(oN (nP s).1 1).2=false then(dL,20)
 else if nU v (nP s).1=false then(dL,21)
 else(iW v (nP s).1,0)
theorem P_ {l:List aT} {P:Int→ByteArray→Prop}:(∀i,i<l.length→P (tg l i) (dt l i))↔∀f∈l,P f.1 f.2:=by
 constructor
 ·intro h f hf;obtain⟨i,hi,rfl⟩:=List.mem_iff_getElem.1 hf;have:=h i hi
  rwa [AA hi,Fz hi]at this
 ·intro h i hi;rw[AA hi,Fz hi];exact h _ (List.getElem_mem _)
def opt (t:Int) (o:Option ByteArray):List aT:=match o with|none=>[]|some d=>[(t,d)]
def gd (o:Option ByteArray):ByteArray:=o.getD ByteArray.empty
theorem Nj {t:Int} {o:Option ByteArray} {f:aT}:f∈opt t o↔o=some f.2∧f.1=t:=by
 cases o with
 |none=>simp[opt]
 |some d=>
  simp only[opt,List.mem_singleton,Option.some.injEq];constructor
  ·rintro rfl;exact⟨rfl,rfl⟩
  ·rintro⟨h1,h2⟩;subst h1 h2;rfl
theorem peel {a:Int} {l:List aT} (h:chain a l):∃o l',l=opt (a+1) o++l'∧chain (a+1) l':=by
 cases l with
 |nil=>exact⟨none,[],rfl,trivial⟩
 |cons f l=>
  obtain⟨t,d⟩:=f;simp only[chain]at h
  by_cases he:t=a+1
  ·subst he;exact⟨some d,l,rfl,h.2⟩
  ·exact⟨none,(t,d)::l,rfl,by simp only[chain];exact⟨⟨by omega,h.1.2⟩,h.2⟩⟩
def parts (o1 o2 o3 o4 o5:Option ByteArray) (E:List aT):List aT:=opt 1 o1++(opt 2 o2++(opt 3 o3++(opt 4 o4++(opt 5 o5++E))))
theorem aeU {v:Int} (hv:v=1∨v=2) {l:List aT} (h:jU l=true):∃o1 o2 o3 o4 o5 E,l=parts o1 o2 o3 o4 o5 E∧(v=1→o4=none∧o5=none)∧chain (rW v) E∧E.length≤64:=by
 obtain⟨h64,h⟩:=NA.1 h;obtain⟨o1,l1,rfl,h1⟩:=peel h;obtain⟨o2,l2,rfl,h2⟩:=peel h1;obtain⟨o3,l3,rfl,h3⟩:=peel h2;simp only[List.length_append]at h64;rcases hv with rfl|rfl
 ·exact⟨o1,o2,o3,none,none,l3,rfl,fun _=>⟨rfl,rfl⟩,h3,by omega⟩
 ·obtain⟨o4,l4,rfl,h4⟩:=peel h3;obtain⟨o5,l5,rfl,h5⟩:=peel h4;simp only[List.length_append]at h64;exact⟨o1,o2,o3,o4,o5,l5,rfl,fun h=>by omega,h5,by omega⟩
theorem Eh {v:Int}:∀{E:List aT} {a:Int},rW v≤a→chain a E→∀f∈E,fE v f.1=false∧a<f.1:=by
 intro E
 induction E with
 |nil=>intro a _ _ f hf;cases hf
 |cons g E ih=>
  intro a ha h f hf;simp only[chain]at h;rcases List.mem_cons.1 hf with rfl|hf
  ·exact⟨BH.2 (by omega),h.1.1⟩
  ·have:=ih (a:=g.1) (by omega) h.2 f hf;exact⟨this.1,by omega⟩
theorem aoX {v:Int}:∀(E:List aT) (r:au),(∀f∈E,fE v f.1=false)→E.foldl (j6 v) r={ r with extra:=r.extra++E }:=by
 intro E
 induction E with
 |nil=>intro r _;simp
 |cons f E ih=>
  intro r h;rw[List.foldl_cons,ih _ (fun g hg=>h g (List.mem_cons_of_mem _ hg))];unfold j6;rw[h f List.mem_cons_self];simp
theorem Wz:jM []=0:=by rfl
theorem aft:gd none=ByteArray.empty:=rfl
theorem aaf (d:ByteArray):gd (some d)=d:=rfl
theorem P9 {v:Int} (hv:v=1∨v=2) {o1 o2 o3 o4 o5:Option ByteArray} {E:List aT} (h1:v=1→o4=none∧o5=none) (hE:∀f∈E,fE v f.1=false):
  iW v (parts o1 o2 o3 o4 o5 E)=⟨gd o1,gd o2,jM (gd o3).data.toList,jM (gd o4).data.toList,gd o5,E⟩:=by
 have k1:fE v 1=true:=BG.2 (by have:=Dq v;omega);have k2:fE v 2=true:=BG.2 (by have:=Dq v;omega);have k3:fE v 3=true:=BG.2 (by have:=Dq v;omega);have s1:∀(o:Option ByteArray) (b:ByteArray) (c d:Int) (e:ByteArray) (x:List aT),(opt 1 o).foldl (j6 v) ⟨ByteArray.empty,b,c,d,e,x⟩=⟨gd o,b,c,d,e,x⟩:=by
  intro o b c d e x;cases o<;>simp[opt,gd,j6,BL,k1]
 have s2:∀(o:Option ByteArray) (b:ByteArray) (c d:Int) (e:ByteArray) (x:List aT),(opt 2 o).foldl (j6 v) ⟨b,ByteArray.empty,c,d,e,x⟩=⟨b,gd o,c,d,e,x⟩:=by
  intro o b c d e x;cases o<;>simp[opt,gd,j6,BL,k2]
 have s3:∀(o:Option ByteArray) (a b:ByteArray) (d:Int) (e:ByteArray) (x:List aT),(opt 3 o).foldl (j6 v) ⟨a,b,0,d,e,x⟩=⟨a,b,jM (gd o).data.toList,d,e,x⟩:=by
  intro o a b d e x;cases o<;>simp[opt,gd,j6,BL,k3];simp[Wz]
 have s4:∀(o:Option ByteArray) (a b:ByteArray) (c:Int) (e:ByteArray) (x:List aT),(v=1→o=none)→(opt 4 o).foldl (j6 v) ⟨a,b,c,0,e,x⟩=⟨a,b,c,jM (gd o).data.toList,e,x⟩:=by
  intro o a b c e x ho
  cases o with
  |none=>simp[opt,gd,Wz]
  |some d=>
   have:v=2:=by rcases hv with h|h;exact absurd (ho h) (by simp);exact h
   subst this;simp[opt,gd,j6,BL,fE,rW]
 have s5:∀(o:Option ByteArray) (a b:ByteArray) (c d:Int) (x:List aT),(v=1→o=none)→(opt 5 o).foldl (j6 v) ⟨a,b,c,d,ByteArray.empty,x⟩=⟨a,b,c,d,gd o,x⟩:=by
  intro o a b c d x ho
  cases o with
  |none=>simp[opt,gd]
  |some d=>
   have:v=2:=by rcases hv with h|h;exact absurd (ho h) (by simp);exact h
   subst this;simp[opt,gd,j6,BL,fE,rW]
 unfold iW parts dL;rw[List.foldl_append,s1,List.foldl_append,s2,List.foldl_append,s3,List.foldl_append,s4 _ _ _ _ _ _ (fun h=>(h1 h).1),List.foldl_append,s5 _ _ _ _ _ _ (fun h=>(h1 h).2),aoX _ _ hE];simp
theorem Mw {v:Int} (hv:v=1∨v=2) {o1 o2 o3 o4 o5:Option ByteArray} {E:List aT} (h1:v=1→o4=none∧o5=none) (hE:∀f∈E,fE v f.1=false) (P:Int→ByteArray→Bool):
  (∀i,i<(parts o1 o2 o3 o4 o5 E).length→fE v (tg (parts o1 o2 o3 o4 o5 E) i)=true→P (tg (parts o1 o2 o3 o4 o5 E) i) (dt (parts o1 o2 o3 o4 o5 E) i)=true)↔
   (∀d,o1=some d→P 1 d=true)∧(∀d,o2=some d→P 2 d=true)∧(∀d,o3=some d→P 3 d=true)∧(∀d,o4=some d→P 4 d=true)∧(∀d,o5=some d→P 5 d=true):=by
 have k1:fE v 1=true:=BG.2 (by have:=Dq v;omega);have k2:fE v 2=true:=BG.2 (by have:=Dq v;omega);have k3:fE v 3=true:=BG.2 (by have:=Dq v;omega);have k4:∀d,o4=some d→fE v 4=true:=fun d hd=>by
  rcases hv with rfl|rfl
  ·rw[(h1 rfl).1]at hd;cases hd
  ·decide
 have k5:∀d,o5=some d→fE v 5=true:=fun d hd=>by
  rcases hv with rfl|rfl
  ·rw[(h1 rfl).2]at hd;cases hd
  ·decide
 rw[P_ (P:=fun t d=>fE v t=true→P t d=true)];constructor
 ·intro h;refine⟨fun d hd=>h (1,d) ?_ k1,fun d hd=>h (2,d) ?_ k2,fun d hd=>h (3,d) ?_ k3,fun d hd=>h (4,d) ?_ (k4 d hd),fun d hd=>h (5,d) ?_ (k5 d hd)⟩<;>subst hd<;>simp[parts,opt]
 ·rintro⟨a1,a2,a3,a4,a5⟩ f hf hk;obtain⟨t,d⟩:=f;simp only[parts,List.mem_append,Nj]at hf;rcases hf with⟨h,rfl⟩|⟨h,rfl⟩|⟨h,rfl⟩|⟨h,rfl⟩|⟨h,rfl⟩|h
  ·exact a1 d h
  ·exact a2 d h
  ·exact a3 d h
  ·exact a4 d h
  ·exact a5 d h
  ·have:=hE _ h;simp only at this hk;rw[this]at hk;cases hk
theorem afj {o1 o2 o3 o4 o5:Option ByteArray} {E:List aT} (hE:∀f∈E,(1:Int)<f.1):(oN (parts o1 o2 o3 o4 o5 E) 1).2=true↔o1≠none:=by
 cases o1 with
 |some d=>simp[parts,opt,oN]
 |none=>
  have:oN (parts none o2 o3 o4 o5 E) 1=(ByteArray.empty,false):=by
   apply afh;rw[P_ (P:=fun t _=>t≠1)];intro f hf;simp only[parts,List.mem_append,Nj]at hf;rcases hf with⟨h,h2⟩|⟨h,h2⟩|⟨h,h2⟩|⟨h,h2⟩|⟨h,h2⟩|h
   ·cases h
   ·omega
   ·omega
   ·omega
   ·omega
   ·have:=hE _ h;omega
  rw[this];simp
theorem asB {v:Int} {E:List aT} (h:chain (rW v) E) (h64:E.length≤64):sP v E=true↔few E≤8:=by
 have hR:jU E=true:=NA.2 ⟨h64,ZO h (by have:=Dq v;omega)⟩;have hU:∀i,i<E.length→fE v (tg E i)=false:=(P_ (P:=fun t _=>fE v t=false)).2 fun f hf=>(Eh (Int.le_refl _) h f hf).1;rw[qB];exact⟨fun h=>h.2.1,fun h=>⟨hR,h,hU⟩⟩
theorem ar3 {v:Int} (hv:v=1∨v=2) {l:List aT} (h:jU l=true) (hk:(oN l 1).2=true):nU v l=abl v l:=by
 obtain⟨o1,o2,o3,o4,o5,E,rfl,h1,hE,h64⟩:=aeU hv h;have hU:∀f∈E,fE v f.1=false:=fun f hf=>(Eh (Int.le_refl _) hE f hf).1;have hg:∀f∈E,(1:Int)<f.1:=fun f hf=>by have:=(Eh (Int.le_refl _) hE f hf).2;have:=Dq v;omega
 rw[afj hg]at hk;obtain⟨d1,rfl⟩:=Option.ne_none_iff_exists'.1 hk;rw[Bool.eq_iff_iff,K8,ag6,Mw hv h1 hU okD,Mw hv h1 hU Ao,P9 hv h1 hU,qV];unfold kJ;simp only[asB hE h64];have n3:=aic (gd o3).data.toList;have n4:=aic (gd o4).data.toList;simp only[Nn,Np,Nq,RL,RN,aqY,aqZ,aq0,aq1,aq2,Option.some.injEq];have z0:∀(d:ByteArray),0<jM d.data.toList→1≤d.size:=by
  intro d hd;rcases Nat.eq_zero_or_pos d.size with h0|h0
  ·have:d.data.toList=[]:=List.eq_nil_of_length_eq_zero (by simpa using h0);rw[this,Wz]at hd;omega
  ·exact h0
 have e1:∀(P:ByteArray→Prop),(∀d,d1=d→P d)↔P d1:=fun P=>⟨fun h=>h d1 rfl,fun h d hd=>hd▸h⟩;rw[e1 (fun d=>1≤d.size∧d.size≤16),e1 (fun d=>1≤d.size)];have hl:tq v ⟨gd (some d1),gd o2,jM (gd o3).data.toList,jM (gd o4).data.toList,gd o5,E⟩=true↔(gd o5).size≤40:=by
  rcases hv with rfl|rfl
  ·obtain⟨rfl,rfl⟩:=h1 rfl;rw[Eu];simp[aft];exact Wz
  ·rw[BI];simp only;omega
 rw[hl];simp only[aaf];constructor
 ·rintro⟨⟨a1,a2,a3,a4,a5⟩,a6⟩;refine⟨⟨a1.1,fun d hd=>(a2 d hd).1,fun d hd=>⟨z0 d (a3 d hd),a3 d hd⟩,fun d hd=>⟨z0 d (a4 d hd),a4 d hd⟩,fun d hd=>(a5 d hd).1⟩,hv,a1,?_,by omega,?_,a6⟩
  ·cases o2 with
   |none=>simp[gd]
   |some d=>exact(a2 d rfl).2
  ·cases o5 with
   |none=>simp[gd]
   |some d=>exact(a5 d rfl).2
 ·rintro⟨⟨a1,a2,a3,a4,a5⟩,_,b1,b2,b3,b4,b5⟩;refine⟨⟨b1,fun d hd=>⟨a2 d hd,?_⟩,fun d hd=>(a3 d hd).2,fun d hd=>(a4 d hd).2,fun d hd=>⟨a5 d hd,?_⟩⟩,b5⟩
  ·subst hd;exact b2
  ·subst hd;exact b4
def ob (d:ByteArray):Option ByteArray:=if d.size=0 then none else some d
theorem wL {d e:ByteArray} (h:ob d=some e):d=e∧1≤e.size:=by
 unfold ob at h;split at h
 ·cases h
 ·cases h;exact⟨rfl,by omega⟩
theorem RH {d:ByteArray}:ob d=none↔d.size=0:=by unfold ob;split<;>simp_all
theorem ae2 {d:ByteArray} (h:d.size=0):d=ByteArray.empty:=by
 obtain⟨a⟩:=d;have:a= #[]:=Array.eq_empty_of_size_eq_zero h;subst this;rfl
theorem CS (d:ByteArray):gd (ob d)=d:=by
 unfold ob;split
 ·rename_i h;rw[aft,ae2 h]
 ·rfl
theorem abb {o:Option ByteArray} (h:∀d,o=some d→1≤d.size):ob (gd o)=o:=by
 cases o with
 |none=>rfl
 |some d=>have:=h d rfl;unfold ob;rw[aaf,if_neg (by omega)]
theorem MZ (t:Int) (d:ByteArray) (l:List aT):full ((t,d)::l)=opt t (ob d)++full l:=by
 unfold full ob
 by_cases h:d.size=0
 ·rw[List.filter_cons_of_neg (by simpa using h),if_pos h];rfl
 ·rw[List.filter_cons_of_pos (by simpa using h),if_neg h];rfl
theorem afq:full []=[]:=rfl
theorem Io (r:au):fQ r=parts (ob r.key) (ob r.value) (ob (iJ r.rev)) (ob (iJ r.life)) (ob r.note) r.extra:=by
 unfold fQ five parts;rw[MZ,MZ,MZ,MZ,MZ,afq];simp only[List.append_assoc,List.nil_append]
theorem RG {n:Int} (h0:0≤n) (h:n≤9007199254740992):(iJ n).size≤8:=by
 unfold iJ;split
 ·decide
 ·show(vb n.toNat).toArray.size≤8;have:=BN (n:=n.toNat) (by omega);simpa using this
theorem Ju {n:Int} (h0:0≤n) (h:n≤9007199254740992):(jM (iJ n).data.toList:Int)=n:=by
 unfold iJ;split
 ·rename_i hz;subst hz;rfl
 ·show(jM (vb n.toNat).toArray.toList:Int)=n;have h1:=NV (n:=n.toNat) (by omega) [];rw[List.append_nil]at h1;unfold jM;rw[List.toList_toArray,h1,if_pos ⟨rfl,rfl⟩];simp only;omega
theorem Jf {n:Int}:(iJ n).size=0↔n=0:=by
 unfold iJ;split
 ·rename_i h;simp[h]
 ·rename_i h;have:=Lg n.toNat;constructor
  ·intro h2;have h3:(vb n.toNat).toArray.size=0:=h2;rw[List.size_toArray]at h3;omega
  ·intro h2;exact absurd h2 h
theorem aqI {d:ByteArray} (h:0<jM d.data.toList):iJ (jM d.data.toList)=d:=by
 unfold iJ;rw[if_neg (by omega)];unfold jM at h ⊢;split at h
 ·rename_i hc;rw[if_pos hc];have h1:=Wj (l:=d.data.toList) (n:=(bY d.data.toList).1) (k:=(bY d.data.toList).2.1) (by rw[←hc.1]);rw[hc.2,List.take_length]at h1;rw[Int.toNat_natCast,h1.2.2.2]
 ·omega
theorem Qk {v:Int} {E:List aT} (h:jU E=true) (hU:∀i,i<E.length→fE v (tg E i)=false):chain (rW v) E:=by
 obtain⟨_,hc⟩:=NA.1 h
 cases E with
 |nil=>trivial
 |cons f E=>
  have:=hU 0 (by simp);rw[AA (by simp)]at this;have h2:=BH.1 this;simp only[List.getElem_cons_zero]at h2;simp only[chain]at hc ⊢;exact⟨⟨by omega,hc.1.2⟩,hc.2⟩
theorem afe {E:List aT} (h:chain 5 E):few E=E.length:=by
 unfold few;rw[List.filter_eq_self.2];intro f hf;have:=(Eh (v:=2) (a:=5) (Int.le_refl _) h f hf).2;simp;omega
theorem ze (t:Int) (o:Option ByteArray):(opt t o).length≤1:=by cases o<;>simp[opt]
theorem aoG {v:Int} {E:List aT} (h:chain (rW v) E):E.length≤few E+2:=by
 have h3:chain 3 E:=ZO h (Dq v).1;obtain⟨o4,l4,rfl,h4⟩:=peel h3;obtain⟨o5,l5,rfl,h5⟩:=peel h4;have:=afe h5;have:=ze (3+1) o4;have:=ze (3+1+1) o5;rw[Im,Im];simp only[List.length_append];omega
theorem Qj {t a:Int} {o:Option ByteArray} {l:List aT} (h1:a<t) (h2:t≤1000000) (h3:∀d,o=some d→d.size≤1000) (h:chain t l):chain a (opt t o++l):=by
 cases o with
 |none=>exact ZO h (by omega)
 |some d=>simp only[opt,List.singleton_append,chain];exact⟨⟨h1,h2,h3 d rfl⟩,h⟩
theorem NC {v:Int} {r:au} (h:kJ v r):jU (fQ r)=true∧(fQ r).length≤15:=by
 obtain⟨hv,hk,hval,hrev,hl,he⟩:=h;obtain⟨e1,e2,e3⟩:=qB.1 he;have hc:=Qk e1 e3;have h1:v=1→ob (iJ r.life)=none∧ob r.note=none:=fun hv1=>by
  subst hv1;obtain⟨a,b⟩:=Eu.1 hl;exact⟨RH.2 (Jf.2 a),RH.2 b⟩
 have hlen:=aoG hc;have l1:=ze 1 (ob r.key);have l2:=ze 2 (ob r.value);have l3:=ze 3 (ob (iJ r.rev));have l4:=ze 4 (ob (iJ r.life));have l5:=ze 5 (ob r.note);rw[Io];have hL:(parts (ob r.key) (ob r.value) (ob (iJ r.rev)) (ob (iJ r.life)) (ob r.note) r.extra).length≤15:=by
  unfold parts;simp only[List.length_append];omega
 refine⟨NA.2 ⟨by omega,?_⟩,hL⟩;unfold parts;have hn3:=RG hrev.1 hrev.2;refine Qj (by omega) (by omega) (fun d hd=>by have:=(wL hd).1;subst this;omega) ?_;refine Qj (by omega) (by omega) (fun d hd=>by have:=(wL hd).1;subst this;omega) ?_;refine Qj (by omega) (by omega) (fun d hd=>by have:=(wL hd).1;subst this;omega) ?_;rcases hv with rfl|rfl
 ·obtain⟨a,b⟩:=h1 rfl;rw[a,b];exact hc
 ·obtain⟨a,b,c⟩:=BI.1 hl;have hn4:=RG a b;refine Qj (by omega) (by omega) (fun d hd=>by have:=(wL hd).1;subst this;omega) ?_;exact Qj (by omega) (by omega) (fun d hd=>by have:=(wL hd).1;subst this;omega) hc
theorem afd {v:Int} {r:au} (h:kJ v r):∀f∈r.extra,fE v f.1=false:=
 (P_ (P:=fun t _=>fE v t=false)).1 (qB.1 h.2.2.2.2.2).2.2
theorem aa7 {v:Int} {r:au} (h:kJ v r):v=1→ob (iJ r.life)=none∧ob r.note=none:=by
 rintro rfl;obtain⟨a,b⟩:=Eu.1 h.2.2.2.2.1;exact⟨RH.2 (Jf.2 a),RH.2 b⟩
theorem aa8 {v:Int} {r:au} (h:kJ v r):0≤r.life∧r.life≤9007199254740992∧r.note.size≤40:=by
 rcases h.1 with rfl|rfl
 ·obtain⟨a,b⟩:=Eu.1 h.2.2.2.2.1;omega
 ·exact BI.1 h.2.2.2.2.1
theorem P8 {v:Int} {r:au} (h:kJ v r):iW v (fQ r)=r∧nU v (fQ r)=true∧(oN (fQ r) 1).2=true:=by
 have hl:=aa8 h;have h3:=h.2.2.2.1;have hacc:iW v (fQ r)=r:=by
  rw[Io,P9 h.1 (aa7 h) (afd h),CS,CS,CS,CS,CS,Ju h3.1 h3.2,Ju hl.1 hl.2.1]
 refine⟨hacc,?_,?_⟩
 ·rw[K8,hacc];refine⟨?_,(qB.1 h.2.2.2.2.2).2.1⟩;rw[Io,Mw h.1 (aa7 h) (afd h) okD];refine⟨fun d hd=>(Nn d).2 ?_,fun d hd=>(Np d).2 ?_,fun d hd=>(Nq d).2 ?_,fun d hd=>(RL d).2 ?_,fun d hd=>(RN d).2 ?_⟩
  ·obtain⟨rfl,h2⟩:=wL hd;exact h.2.1
  ·obtain⟨rfl,h2⟩:=wL hd;exact⟨h2,h.2.2.1⟩
  ·obtain⟨rfl,h2⟩:=wL hd;have:=Ju h3.1 h3.2;have:r.rev≠0:=fun hz=>by have:=Jf.2 hz;omega
   omega
  ·obtain⟨rfl,h2⟩:=wL hd;have:=Ju hl.1 hl.2.1;have:r.life≠0:=fun hz=>by have:=Jf.2 hz;omega
   omega
  ·obtain⟨rfl,h2⟩:=wL hd;exact⟨h2,hl.2.2⟩
 ·rw[Io,afj]
  ·intro hz;have:=RH.1 hz;have:=h.2.1;omega
  ·intro f hf;have hc:=Qk (qB.1 h.2.2.2.2.2).1 (qB.1 h.2.2.2.2.2).2.2;have:=(Eh (Int.le_refl _) hc f hf).2;have:=Dq v;omega
theorem abn {v:Int} {r:au} (h:eP v r=true) (hl:(gY (fQ r)).length≤10000):nG v r=(gY (fQ r),0)∧dD v (gY (fQ r))=(r,0):=by
 have hp:=qV.1 h;obtain⟨a1,a2,a3⟩:=P8 hp;have hR:=(NC hp).1;refine⟨?_,?_⟩
 ·unfold nG encR;rw[h,if_pos rfl,hR,if_pos rfl,if_pos hl]
 ·unfold dD;rw[aeS hR hl,if_neg (fun hn=>hn hp.1),if_neg (by simp)];simp only;rw[a3,a2,a1,if_neg (by simp),if_neg (by simp)]
theorem aac {v:Int} (hv:v=1∨v=2) {l:List aT} (h:jU l=true) (hk:(oN l 1).2=true) (hp:nU v l=true):eP v (iW v l)=true∧fQ (iW v l)=l:=by
 refine⟨(ag6.1 (ar3 hv h hk▸hp)).2,?_⟩;obtain⟨h1,_⟩:=K8.1 hp;obtain⟨o1,o2,o3,o4,o5,E,rfl,h4,hE,h64⟩:=aeU hv h;have hU:∀f∈E,fE v f.1=false:=fun f hf=>(Eh (Int.le_refl _) hE f hf).1;rw[Mw hv h4 hU okD]at h1;obtain⟨a1,a2,a3,a4,a5⟩:=h1;have hn:∀(o:Option ByteArray),(∀d,o=some d→0<jM d.data.toList)→ob (iJ (jM (gd o).data.toList))=o:=by
  intro o ho
  cases o with
  |none=>rfl
  |some d=>
   have hd:=ho d rfl;rw[aaf,aqI hd];unfold ob;rw[if_neg];intro hz;rw[ae2 hz]at hd;exact absurd hd (by decide)
 rw[P9 hv h4 hU,Io];simp only;rw[abb (fun d hd=>((Nn d).1 (a1 d hd)).1),abb (fun d hd=>((Np d).1 (a2 d hd)).1),abb (fun d hd=>((RN d).1 (a5 d hd)).1),hn _ (fun d hd=>(Nq d).1 (a3 d hd)),hn _ (fun d hd=>(RL d).1 (a4 d hd))]
theorem arW {v:Int} {s:List UInt8} (h:(dD v s).2≠0):(dD v s).1=dL:=by
 unfold dD at h ⊢;split
 ·rfl
 ·rename_i h1;rw[if_neg h1]at h;split
  ·rfl
  ·rename_i h2;rw[if_neg h2]at h;split
   ·rfl
   ·rename_i h3;rw[if_neg h3]at h;split
    ·rfl
    ·rename_i h4;rw[if_neg h4]at h;exact absurd rfl h
theorem ag7 {v:Int} {s:List UInt8} {r:au} (h:dD v s=(r,0)):eP v r=true∧nG v r=(s,0)∧fQ r=(nP s).1:=by
 unfold dD at h;split at h
 ·simp at h
 rename_i hv;split at h
 ·rename_i h2;simp only[Prod.mk.injEq]at h;exact absurd h.2 h2
 rename_i he;split at h
 ·simp at h
 rename_i hf;split at h
 ·simp at h
 rename_i hp;simp only[Prod.mk.injEq,and_true]at h;subst h;have hv':v=1∨v=2:=by by_cases hh:v=1∨v=2;exact hh;exact absurd hh hv
 have hd:nP s=((nP s).1,0):=by
  have:(nP s).2=0:=by omega
  rw[←this]
 obtain⟨d1,d2,d3⟩:=aeT hd;have hf':(oN (nP s).1 1).2=true:=by simpa using hf
 have hp':nU v (nP s).1=true:=by simpa using hp
 obtain⟨r1,r2⟩:=aac hv' d3 hf' hp';refine⟨r1,?_,r2⟩;unfold nG encR;rw[r1,if_pos rfl,r2,d3,if_pos rfl,d2,if_pos d1]
theorem Zl {r:au} (h:kJ 2 r):iW 1 (fQ r)=⟨r.key,r.value,r.rev,0,ByteArray.empty,opt 4 (ob (iJ r.life))++(opt 5 (ob r.note)++r.extra)⟩∧nU 1 (fQ r)=true∧(oN (fQ r) 1).2=true:=by
 have h3:=h.2.2.2.1;have hc:=Qk (qB.1 h.2.2.2.2.2).1 (qB.1 h.2.2.2.2.2).2.2;have hg:∀f∈r.extra,5<f.1:=fun f hf=>(Eh (Int.le_refl _) hc f hf).2;have hU:∀f∈opt 4 (ob (iJ r.life))++(opt 5 (ob r.note)++r.extra),fE 1 f.1=false:=by
  intro f hf;simp only[List.mem_append,Nj]at hf;apply BH.2;have:rW 1=3:=rfl;rcases hf with⟨_,h2⟩|⟨_,h2⟩|h2
  ·omega
  ·omega
  ·have:=hg f h2;omega
 have he:fQ r=parts (ob r.key) (ob r.value) (ob (iJ r.rev)) none none (opt 4 (ob (iJ r.life))++(opt 5 (ob r.note)++r.extra)):=by rw[Io];rfl
 have hacc:iW 1 (fQ r)=⟨r.key,r.value,r.rev,0,ByteArray.empty,opt 4 (ob (iJ r.life))++(opt 5 (ob r.note)++r.extra)⟩:=by
  rw[he,P9 (.inl rfl) (fun _=>⟨rfl,rfl⟩) hU,CS,CS,CS,Ju h3.1 h3.2];rfl
 refine⟨hacc,?_,(P8 h).2.2⟩;rw[K8,hacc];refine⟨?_,?_⟩
 ·rw[he,Mw (.inl rfl) (fun _=>⟨rfl,rfl⟩) hU okD];refine⟨fun d hd=>(Nn d).2 ?_,fun d hd=>(Np d).2 ?_,fun d hd=>(Nq d).2 ?_,(fun d hd=>by cases hd),(fun d hd=>by cases hd)⟩
  ·obtain⟨rfl,h2⟩:=wL hd;exact h.2.1
  ·obtain⟨rfl,h2⟩:=wL hd;exact⟨h2,h.2.2.1⟩
  ·obtain⟨rfl,h2⟩:=wL hd;have:=Ju h3.1 h3.2;have:r.rev≠0:=fun hz=>by have:=Jf.2 hz;omega
   omega
 ·rw[Im,Im];have f4:∀o,few (opt 4 o)=0:=by intro o;cases o<;>simp[opt,few]
  have f5:∀o,few (opt 5 o)=0:=by intro o;cases o<;>simp[opt,few]
  rw[f4,f5];have:=(qB.1 h.2.2.2.2.2).2.1;omega
def vJ (r:au):au×Nat:=if eP 1 r then(if nU 2 (fQ r)then(iW 2 (fQ r),0)else(dL,21))else(dL,1)
def ou (r:au):au×Nat:=if eP 2 r then(iW 1 (fQ r),0)else(dL,1)
def toR (v u:Int) (r:au):au×Nat:=
 if eP v r=true∧(u=1∨u=2)then(if v=u then(r,0)else if u=2 then vJ r else ou r)else(dL,1)
theorem ah7 {r:au} (h:eP 1 r=false):vJ r=(dL,1):=by unfold vJ;rw[h];rfl
theorem ah8 {r:au} (h:eP 1 r=true) (h2:nU 2 (fQ r)=false):vJ r=(dL,21):=by unfold vJ;rw[h,h2];rfl
theorem ab3 {r:au} (h:eP 1 r=true) (h2:nU 2 (fQ r)=true):vJ r=(iW 2 (fQ r),0):=by unfold vJ;rw[h,h2];rfl
theorem aeZ {r:au} (h:eP 2 r=false):ou r=(dL,1):=by unfold ou;rw[h];rfl
theorem Qp {r:au} (h:eP 2 r=true):ou r=(iW 1 (fQ r),0):=by unfold ou;rw[h];rfl
theorem aop {r:au} (h:eP 2 r=true):ou r=(⟨r.key,r.value,r.rev,0,ByteArray.empty,opt 4 (ob (iJ r.life))++(opt 5 (ob r.note)++r.extra)⟩,0):=by
 rw[Qp h,(Zl (qV.1 h)).1]
theorem UC (r:au):((ou r).2=0↔eP 2 r=true):=by
 cases h:eP 2 r with
 |true=>simp[Qp h]
 |false=>simp[aeZ h]
theorem down_up {r d:au} (h:ou r=(d,0)):eP 2 r=true∧eP 1 d=true∧vJ d=(r,0)∧nG 1 d=nG 2 r∧fQ d=fQ r:=by
 have hr:eP 2 r=true:=(UC r).1 (by rw[h]);have hp:=qV.1 hr;rw[Qp hr]at h;have hd:iW 1 (fQ r)=d:=(Prod.mk.inj h).1;subst hd;obtain⟨_,o2,o3⟩:=Zl hp;obtain⟨f1,f2⟩:=aac (.inl rfl) (NC hp).1 o3 o2;obtain⟨a1,a2,a3⟩:=P8 hp;refine⟨hr,f1,?_,?_,f2⟩
 ·rw[ab3 f1 (by rw[f2];exact a2),f2,a1]
 ·unfold nG;rw[f1,hr,f2]
theorem up_down {r u:au} (h:vJ r=(u,0)):eP 1 r=true∧eP 2 u=true∧ou u=(r,0)∧nG 2 u=nG 1 r∧fQ u=fQ r:=by
 cases hr:eP 1 r with
 |false=>rw[ah7 hr]at h;cases h
 |true=>
  cases hq:nU 2 (fQ r)with
  |false=>rw[ah8 hr hq]at h;cases h
  |true=>
   have hp:=qV.1 hr;rw[ab3 hr hq]at h;have hd:iW 2 (fQ r)=u:=(Prod.mk.inj h).1;subst hd;obtain⟨a1,a2,a3⟩:=P8 hp;obtain⟨f1,f2⟩:=aac (.inr rfl) (NC hp).1 a3 hq;refine⟨rfl,f1,?_,?_,f2⟩
   ·rw[Qp f1,f2,a1]
   ·unfold nG;rw[f1,hr,f2]
theorem ah9 {r:au} (h:kJ 1 r) {o4 o5:Option ByteArray} {E:List aT} (e4:r.extra=opt 4 o4++(opt 5 o5++E)) (c5:chain 5 E):
  iW 2 (fQ r)=⟨r.key,r.value,r.rev,jM (gd o4).data.toList,gd o5,E⟩∧
  (nU 2 (fQ r)=true↔(∀d,o4=some d→okD 4 d=true)∧(∀d,o5=some d→okD 5 d=true)):=by
 have h3:=h.2.2.2.1;have hex:=qB.1 h.2.2.2.2.2;have hU:∀f∈E,fE 2 f.1=false:=fun f hf=>(Eh (v:=2) (a:=5) (Int.le_refl _) c5 f hf).1;have aap:few E≤8:=by
  have h8:=hex.2.1;rw[e4,Im,Im]at h8;omega
 have hl:=aa7 h rfl;have hpf:fQ r=parts (ob r.key) (ob r.value) (ob (iJ r.rev)) o4 o5 E:=by
  rw[Io,hl.1,hl.2,e4];rfl
 have hacc:iW 2 (fQ r)=⟨r.key,r.value,r.rev,jM (gd o4).data.toList,gd o5,E⟩:=by
  rw[hpf,P9 (.inr rfl) (fun h=>by omega) hU,CS,CS,CS,Ju h3.1 h3.2]
 refine⟨hacc,?_⟩;rw[K8,hacc];simp only;rw[hpf,Mw (.inr rfl) (fun h=>by omega) hU okD];constructor
 ·rintro⟨⟨_,_,_,a4,a5⟩,_⟩;exact⟨a4,a5⟩
 ·rintro⟨a4,a5⟩;refine⟨⟨fun d hd=>(Nn d).2 ?_,fun d hd=>(Np d).2 ?_,fun d hd=>(Nq d).2 ?_,a4,a5⟩,aap⟩
  ·obtain⟨rfl,h2⟩:=wL hd;exact h.2.1
  ·obtain⟨rfl,h2⟩:=wL hd;exact⟨h2,h.2.2.1⟩
  ·obtain⟨rfl,h2⟩:=wL hd;have:=Ju h3.1 h3.2;have:r.rev≠0:=fun hz=>by have:=Jf.2 hz;omega
   omega
theorem auM {r:au} (h:kJ 1 r):∃o4 o5 E,r.extra=opt 4 o4++(opt 5 o5++E)∧chain 5 E∧E.length≤8∧
  iW 2 (fQ r)=⟨r.key,r.value,r.rev,jM (gd o4).data.toList,gd o5,E⟩∧
  (nU 2 (fQ r)=true↔(∀d,o4=some d→okD 4 d=true)∧(∀d,o5=some d→okD 5 d=true)):=by
 have hex:=qB.1 h.2.2.2.2.2;have hc:=Qk hex.1 hex.2.2;obtain⟨o4,l4,e4,c4⟩:=peel (a:=3) hc;obtain⟨o5,E,e5,c5⟩:=peel c4;rw[e5]at e4;have aap:few E≤8:=by
  have h8:=hex.2.1;rw[e4,Im,Im]at h8;omega
 have hE8:E.length≤8:=by rw[←afe c5];exact aap
 exact⟨o4,o5,E,e4,c5,hE8,(ah9 h e4 c5).1,(ah9 h e4 c5).2⟩
theorem VB {v:Int} {r:au} (h:eP v r=true):nG v r=if(gY (fQ r)).length≤10000 then(gY (fQ r),0)else([],12):=by
 unfold nG encR;rw[h,if_pos rfl,(NC (qV.1 h)).1,if_pos rfl]
theorem arS {r:au} (h:eP 2 r=true) (hl:(gY (fQ r)).length≤10000):dD 1 (gY (fQ r))=ou r:=by
 have hp:=qV.1 h;obtain⟨_,o2,o3⟩:=Zl hp;rw[Qp h];unfold dD;rw[aeS (NC hp).1 hl,if_neg (by simp),if_neg (by simp)];simp only;rw[o3,o2,if_neg (by simp),if_neg (by simp)]
theorem atF {v:Int} {r:au} (h:kJ v r) (hl:(fQ r).length≤9):(gY (fQ r)).length≤10000:=by
 have h1:=Z8 (Ap.1 (NC h).1).2 (fQ r).length (Nat.le_refl _);rw[List.take_of_length_le (Nat.le_refl _)]at h1;omega
theorem aoN (r:au):(fQ r).length≤5+r.extra.length:=by
 have:=ze 1 (ob r.key);have:=ze 2 (ob r.value);have:=ze 3 (ob (iJ r.rev));have:=ze 4 (ob (iJ r.life));have:=ze 5 (ob r.note);rw[Io];unfold parts;simp only[List.length_append];omega
def xH (n:Nat):Nat:=if n % 2=1 then(n / 2) ^^^ 3988292384 else n / 2
def MS (n:Nat):Nat:=xH (xH (xH (xH (xH (xH (xH (xH n)))))))
def Ii:Nat→Nat→Nat
 |0,n=>n
 |k+1,n=>Ii k (xH n)
def Ej (n:Nat) (l:List UInt8):Nat:=l.foldl (fun n b=>MS (n ^^^ b.toNat)) n
def Ut:Nat:=4294967295
def NS (l:List UInt8):Nat:=4294967295-Ej Ut l
def I_ (n:Nat):List UInt8:=[(n % 256).toUInt8,(n / 256 % 256).toUInt8,(n / 65536 % 256).toUInt8,(n / 16777216 % 256).toUInt8]
theorem Ij {n:Nat} (h:n<4294967296):xH n<4294967296:=by
 unfold xH;split
 ·exact Nat.xor_lt_two_pow (n:=32) (by omega) (by omega)
 ·omega
theorem anM {n:Nat} (h:n<4294967296):MS n<4294967296:=Ij (Ij (Ij (Ij (Ij (Ij (Ij (Ij h)))))))
theorem ab_ {a b:Nat} (ha:a<4294967296) (hb:b<4294967296):a ^^^ b<4294967296:=Nat.xor_lt_two_pow (n:=32) ha hb
theorem amB (b:UInt8):b.toNat<256:=b.toNat_lt
theorem anO:∀(l:List UInt8) {n:Nat},n<4294967296→Ej n l<4294967296:=by
 intro l
 induction l with
 |nil=>intro n h;exact h
 |cons b l ih=>
  intro n h;show Ej (MS (n ^^^ b.toNat)) l<_;exact ih (anM (ab_ h (by have:=amB b;omega)))
theorem anN (n:Nat) (a b:List UInt8):Ej n (a++b)=Ej (Ej n a) b:=by unfold Ej;rw[List.foldl_append]
theorem Wq (n:Nat):(n % 256).toUInt8.toNat=n % 256:=by simp
theorem at1 (l:List UInt8):NS l<4294967296:=by unfold NS;omega
theorem anQ:Ut<4294967296:=by decide
theorem au7 {n:Nat} (h:n<4294967296):n ^^^ (4294967295-n)=4294967295:=by
 apply Nat.eq_of_testBit_eq;intro i;rw[Nat.testBit_xor,show 4294967295-n=2 ^ 32-(n+1)from by omega,Nat.testBit_two_pow_sub_succ (by simpa using h),show(4294967295:Nat)=2 ^ 32-1 from rfl,Nat.testBit_two_pow_sub_one]
 by_cases hi:i<32
 ·simp[hi]
 ·have hb:n.testBit i=false:=Nat.testBit_lt_two_pow (Nat.lt_of_lt_of_le h (by show 2 ^ 32≤2 ^ i;exact Nat.pow_le_pow_right (by omega) (by omega)));simp[hi,hb]
end Go.Proofs.YtodaapcohdpenaaGreat
