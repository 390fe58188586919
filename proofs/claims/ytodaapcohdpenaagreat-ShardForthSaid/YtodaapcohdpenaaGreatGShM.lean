-- eB
import Derived.Test.YtodaapcohdpenaaGreatGMath
import Derived.Laws.Strings
namespace Go.Proofs.YtodaapcohdpenaaGreat
set_option linter.unusedVariables false
def fM (a b:ByteArray):Bool:=Go.Op.bytesLess a.toList b.toList
theorem ael:∀l:List UInt8,Go.Op.bytesLess l l=false
 |[]=>rfl
 |a::l=>by simp[Go.Op.bytesLess,ael l]
theorem aem:∀a b c:List UInt8,Go.Op.bytesLess a b=true→Go.Op.bytesLess b c=true→Go.Op.bytesLess a c=true
 |_,[],_,h,_=>by cases ‹List UInt8›<;>simp[Go.Op.bytesLess]at h
 |_,_::_,[],_,h=>by simp[Go.Op.bytesLess]at h
 |[],_::_,_::_,_,_=>rfl
 |x::a,y::b,z::c,h,k=>by
  simp only[Go.Op.bytesLess,Bool.or_eq_true,Bool.and_eq_true,decide_eq_true_eq,beq_iff_eq]at h k ⊢;rcases h with h|⟨rfl,h⟩<;>rcases k with k|⟨rfl,k⟩
  ·exact .inl (UInt8.lt_trans h k)
  ·exact .inl h
  ·exact .inl k
  ·exact .inr ⟨rfl,aem a b c h k⟩
theorem aen:∀a b:List UInt8,Go.Op.bytesLess a b=false→Go.Op.bytesLess b a=false→a=b
 |[],[],_,_=>rfl
 |[],_::_,h,_=>by simp[Go.Op.bytesLess]at h
 |_::_,[],_,h=>by simp[Go.Op.bytesLess]at h
 |x::a,y::b,h,k=>by
  simp only[Go.Op.bytesLess,Bool.or_eq_false_iff,Bool.and_eq_false_iff,decide_eq_false_iff_not,beq_eq_false_iff_ne,ne_eq]at h k;have hxy:x=y:=by
   have h1:=h.1;have k1:=k.1;rw[UInt8.lt_iff_toNat_lt]at h1 k1;exact UInt8.toNat_inj.1 (by omega)
  subst hxy;rw[aen a b (by have:=h.2;simpa using this) (by have:=k.2;simpa using this)]
theorem Ry (a:ByteArray):fM a a=false:=ael _
theorem lt_trans {a b c:ByteArray} (h:fM a b=true) (k:fM b c=true):fM a c=true:=aem _ _ _ h k
theorem Wn (s:ByteArray):s.toList=s.data.toList:=by
 obtain⟨⟨l⟩⟩:=s;exact ByteArray.toList_mk l
theorem Zw {a b:ByteArray} (h:a.toList=b.toList):a=b:=by
 rw[Wn,Wn]at h
 cases a;cases b
 exact congrArg ByteArray.mk (Array.toList_inj.1 h)
theorem RA {a b:ByteArray} (h:fM a b=false) (k:fM b a=false):a=b:=Zw (aen _ _ h k)
theorem Vm {a b:ByteArray} (h:fM a b=true):fM b a=false:=by
 cases k:fM b a
 ·rfl
 ·have:=lt_trans h k;rw[Ry]at this;cases this
theorem Rz {a b:ByteArray} (h:fM a b=true):a≠b:=fun e=>by rw[e,Ry]at h;cases h
structure aX where
 kind:Int
 key:ByteArray
 value:ByteArray
 rev:Int
 upto:ByteArray
 life:Int
 note:ByteArray
structure dx where
 errno:Int
 rev:Int
 value:ByteArray
 keys:List ByteArray
def bZ:Int:=9007199254740992
def qY (v:Int) (o:aX):Prop:=¬(v=1∨v=2)∨o.kind<1∨o.kind>6∨o.key.size>16∨(o.key.size=0∧o.kind≠6)∨o.value.size>200∨o.upto.size>16∨o.note.size>40∨o.rev<0∨o.rev>bZ∨o.life<0∨o.life>bZ
instance (v:Int) (o:aX):Decidable (qY v o):=by unfold qY;infer_instance
def dY (v:Int) (o:aX):Nat:=if qY v o then 1 else if v=1∧o.kind=5 then 22 else 0
def gL (o:aX):Bool:=decide (2≤o.kind)&&decide (o.kind≤5)
def jN (t:List au):Prop:=t.Pairwise fun a b=>fM a.key b.key=true
def iO (t:List au):Prop:=(∀r∈t,eP 2 r=true)∧jN t∧t.length≤20
noncomputable instance (t:List au):Decidable (iO t):=Classical.propDecidable _
noncomputable def wN (t:List au):Bool:=decide (iO t)
theorem Lb {t:List au}:wN t=true↔iO t:=by unfold wN;simp
theorem abw {t:List au} (h:¬iO t):wN t=false:=by unfold wN;simpa using h
def jS (t:List au) (k:ByteArray):Option Nat:=t.findIdx? fun r=>decide (r.key=k)
def lW (t:List au) (k:ByteArray):Option au:=t.find? fun r=>decide (r.key=k)
def uw:List au→au→List au
 |[],r=>[r]
 |x::l,r=>if fM r.key x.key then r::x::l else x::uw l r
def gK (e:Nat):dx:=⟨e,0,ByteArray.empty,[]⟩
def newR (o:aX):au:=⟨o.key,o.value,1,0,ByteArray.empty,[]⟩
def vF (r:au) (o:aX):au:={ r with value:=o.value,rev:=r.rev+1 }
def uy (r:au) (o:aX):au:={ r with life:=o.life,note:=o.note,rev:=r.rev+1 }
def atR (t:List au) (i:Nat):au:=t.getD i dL
def bM (t:List au) (k:Option Nat) (o:aX):List au×dx:=
 match k with
 |none=>if 20≤t.length then(t,gK 50)else(uw t (newR o),⟨0,1,ByteArray.empty,[]⟩)
 |some i=>if(atR t i).rev=bZ then(t,gK 50)else(t.set i (vF (atR t i) o),⟨0,(atR t i).rev+1,ByteArray.empty,[]⟩)
def pO (o:aX) (k:ByteArray):Bool:=!fM k o.key&&(decide (o.upto.size=0)||fM k o.upto)
def jh (t:List au) (o:aX):List ByteArray:=((t.filter fun r=>pO o r.key).take 5).map (·.key)
def FZ (t:List au) (k:Option Nat):Int:=match k with|none=>0|some i=>(atR t i).rev
noncomputable def bO (t:List au) (o:aX):List au×dx:=
 if ¬(iO t∧dY 2 o=0)then(t,gK 1)
 else if o.kind=6 then(t,⟨0,0,ByteArray.empty,jh t o⟩)
 else if o.kind=2 then bM t (jS t o.key) o
 else if o.kind=4 then(if FZ t (jS t o.key)≠o.rev then(t,⟨71,FZ t (jS t o.key),ByteArray.empty,[]⟩)else bM t (jS t o.key) o)
 else match jS t o.key with
  |none=>(t,gK 70)
  |some i=>
   if o.kind=1 then(t,⟨0,(atR t i).rev,(atR t i).value,[]⟩)
   else if o.kind=3 then(t.eraseIdx i,⟨0,(atR t i).rev,ByteArray.empty,[]⟩)
   else if(atR t i).rev=bZ then(t,gK 50)
   else(t.set i (uy (atR t i) o),⟨0,(atR t i).rev+1,ByteArray.empty,[]⟩)
theorem jw {t:List au} {i:Nat} (h:i<t.length):atR t i=t[i]:=by unfold atR;rw[List.getD_eq_getElem?_getD,List.getElem?_eq_getElem h];rfl
theorem sK {t:List au} {i:Nat} (h:i<t.length):atR t i∈t:=by rw[jw h];exact List.getElem_mem _
theorem NY {t:List au} {k:Nat} (h:k<t.length):t.take (k+1)=t.take k++[atR t k]:=by rw[List.take_succ_eq_append_getElem h,jw h]
theorem Ro {t:List au} {k:ByteArray} {i:Nat} (h:jS t k=some i):i<t.length∧(atR t i).key=k:=by
 unfold jS at h;rw[List.findIdx?_eq_some_iff_getElem]at h;obtain⟨hi,hk,_⟩:=h;rw[jw hi];exact⟨hi,by simpa using hk⟩
theorem aaX {t:List au} {k:ByteArray} (h:jS t k=none):∀r∈t,r.key≠k:=by
 unfold jS at h;rw[List.findIdx?_eq_none_iff]at h;intro r hr;simpa using h r hr
theorem F3 {t:List au} (h:jN t) {i j:Nat} (hij:i<j) (hj:j<t.length):fM (atR t i).key (atR t j).key=true:=by
 rw[jw (by omega),jw hj];exact List.pairwise_iff_getElem.1 h i j (by omega) hj hij
theorem aby {t:List au} (h:jN t) {i j:Nat} (hi:i<t.length) (hj:j<t.length) (e:(atR t i).key=(atR t j).key):i=j:=by
 rcases Nat.lt_trichotomy i j with l|l|l
 ·exact absurd e (Rz (F3 h l hj))
 ·exact l
 ·exact absurd e.symm (Rz (F3 h l hi))
theorem agB {t:List au} {k:ByteArray} {r:au} (h:lW t k=some r):r∈t∧r.key=k:=by
 unfold lW at h;exact⟨List.mem_of_find?_eq_some h,by have:=List.find?_some h;simpa using this⟩
theorem Rw {t:List au} {k:ByteArray}:lW t k=none↔∀r∈t,r.key≠k:=by
 unfold lW;rw[List.find?_eq_none];simp
theorem agD {t:List au} (h:jN t) {r:au} (hr:r∈t):lW t r.key=some r:=by
 cases e:lW t r.key with
 |none=>exact absurd rfl (Rw.1 e r hr)
 |some x=>
  obtain⟨hx,hk⟩:=agB e;obtain⟨i,hi,rfl⟩:=List.getElem_of_mem hr;obtain⟨j,hj,rfl⟩:=List.getElem_of_mem hx;have:=aby h hj hi (by rw[jw hj,jw hi];exact hk);subst this;rfl
theorem Vj {t:List au} {k:ByteArray} (h:jN t):lW t k=(jS t k).map (atR t):=by
 cases e:jS t k with
 |none=>exact Rw.2 (aaX e)
 |some i=>
  obtain⟨hi,hk⟩:=Ro e;have:=agD h (sK hi);rw[hk]at this;exact this
theorem anq {v:Int} {o:aX} (h:dY v o=0):¬qY v o∧¬(v=1∧o.kind=5):=by
 unfold dY at h
 by_cases hb:qY v o
 ·rw[if_pos hb]at h;cases h
 ·rw[if_neg hb]at h;refine⟨hb,fun h2=>?_⟩;rw[if_pos h2]at h;cases h
theorem Nr {o:aX} (h:dY 2 o=0):(1≤o.kind∧o.kind≤6)∧o.key.size≤16∧(o.kind≠6→1≤o.key.size)∧o.value.size≤200∧o.note.size≤40∧(0≤o.rev∧o.rev≤bZ)∧(0≤o.life∧o.life≤bZ):=by
 have hb:=(anq h).1;unfold qY at hb;simp only[not_or]at hb;obtain⟨_,h2,h3,h4,h5,h6,_,h8,h9,h10,h11,h12⟩:=hb;refine⟨⟨by omega,by omega⟩,by omega,fun hk=>?_,by omega,by omega,⟨by omega,by omega⟩,by omega,by omega⟩;rcases Nat.eq_zero_or_pos o.key.size with e|e
 ·exact absurd ⟨e,hk⟩ h5
 ·exact e
theorem iO.rise {t:List au} (h:iO t):jN t:=h.2.1
theorem iO.at {t:List au} (h:iO t) {r:au} (hr:r∈t):kJ 2 r:=qV.1 (h.1 r hr)
theorem RZ:iO []:=⟨(fun r h=>nomatch h),List.Pairwise.nil,by simp⟩
theorem Rs {t:List au} {r x:au}:x∈uw t r↔x=r∨x∈t:=by
 induction t with
 |nil=>simp[uw]
 |cons y l ih=>
  unfold uw;split
  ·simp
  ·simp only[List.mem_cons,ih];constructor
   ·rintro(h|h|h)
    ·exact .inr (.inl h)
    ·exact .inl h
    ·exact .inr (.inr h)
   ·rintro(h|h|h)
    ·exact .inr (.inl h)
    ·exact .inl h
    ·exact .inr (.inr h)
theorem agi (t:List au) (r:au):(uw t r).length=t.length+1:=by
 induction t with
 |nil=>rfl
 |cons y l ih=>unfold uw;split<;>simp[ih]
theorem agk {t:List au} {r:au} (h:jN t) (hn:∀x∈t,x.key≠r.key):jN (uw t r):=by
 induction t with
 |nil=>exact List.pairwise_singleton _ _
 |cons y l ih=>
  have hp:=List.pairwise_cons.1 h;unfold uw;split
  ·rename_i hlt;refine List.pairwise_cons.2 ⟨fun x hx=>?_,h⟩;rcases List.mem_cons.1 hx with rfl|hx
   ·exact hlt
   ·exact lt_trans hlt (hp.1 x hx)
  ·rename_i hlt;refine List.pairwise_cons.2 ⟨fun x hx=>?_,ih hp.2 (fun x hx=>hn x (List.mem_cons_of_mem _ hx))⟩;rcases Rs.1 hx with rfl|hx
   ·cases e:fM y.key x.key with
    |true=>rfl
    |false=>exact absurd (RA e (by simpa using hlt)) (hn y (List.mem_cons_self ..))
   ·exact hp.1 x hx
theorem Vk {t:List au} (h:jN t) {k:ByteArray} {r:au}:lW t k=some r↔r∈t∧r.key=k:=
 ⟨agB,fun⟨h1,h2⟩=>by rw[←h2];exact agD h h1⟩
theorem look_eq {t u:List au} (ht:jN t) (hu:jN u) {k:ByteArray} (h:∀r,(r∈t∧r.key=k)↔(r∈u∧r.key=k)):lW t k=lW u k:=by
 cases e:lW t k with
 |none=>
  symm;refine Rw.2 fun r hr hk=>Rw.1 e r ((h r).2 ⟨hr,hk⟩).1 hk
 |some r=>exact((Vk hu).2 ((h r).1 ((Vk ht).1 e))).symm
theorem ap1 {t:List au} {r:au} (h:jN t) (hn:∀x∈t,x.key≠r.key) (k:ByteArray):lW (uw t r) k=if k=r.key then some r else lW t k:=by
 have hi:=agk h hn
 by_cases e:k=r.key
 ·rw[if_pos e];exact(Vk hi).2 ⟨Rs.2 (.inl rfl),e.symm⟩
 ·rw[if_neg e];refine look_eq hi h fun x=>?_;rw[Rs];constructor
  ·rintro⟨rfl|hx,hk⟩
   ·exact absurd hk.symm e
   ·exact⟨hx,hk⟩
  ·rintro⟨hx,hk⟩;exact⟨.inr hx,hk⟩
theorem aeb {t:List au} {i j:Nat} {r:au} (hj:j<t.length):atR (t.set i r) j=if i=j then r else atR t j:=by
 rw[jw (by simpa using hj),List.getElem_set];split
 ·rfl
 ·rw[jw hj]
theorem ahD {t:List au} {i:Nat} {r:au} (h:jN t) (hi:i<t.length) (hk:r.key=(atR t i).key):jN (t.set i r):=by
 refine List.pairwise_iff_getElem.2 fun a b ha hb hab=>?_;simp only[List.length_set]at ha hb;have key:∀j,(hj:j<t.length)→(atR (t.set i r) j).key=(atR t j).key:=fun j hj=>by
  rw[aeb hj];split
  ·rename_i e;rw[hk,e]
  ·rfl
 have:=F3 h hab hb;rw[←key a ha,←key b hb,jw (by simpa using ha),jw (by simpa using hb)]at this;exact this
theorem abJ {t:List au} {i:Nat} {r x:au} (h:jN t) (hi:i<t.length):x∈t.set i r↔x=r∨(x∈t∧x.key≠(atR t i).key):=by
 constructor
 ·intro hx;obtain⟨j,hj,rfl⟩:=List.getElem_of_mem hx;simp only[List.length_set]at hj;have:=jw (t:=t.set i r) (i:=j) (by simpa using hj);rw[←this,aeb hj];split
  ·exact .inl rfl
  ·rename_i e;exact .inr ⟨sK hj,fun e2=>e (aby h hi hj e2.symm)⟩
 ·rintro(rfl|⟨hx,hk⟩)
  ·have:(t.set i x)[i]'(by simpa using hi)=x:=List.getElem_set_self _;exact List.mem_iff_getElem.2 ⟨i,by simpa using hi,this⟩
  ·obtain⟨j,hj,rfl⟩:=List.getElem_of_mem hx;have hne:i≠j:=fun e=>by subst e;rw[jw hi]at hk;exact hk rfl
   have:(t.set i r)[j]'(by simpa using hj)=t[j]:=List.getElem_set_ne hne _;rw[←this];exact List.getElem_mem _
theorem ahC {t:List au} {i:Nat} {r:au} (h:jN t) (hi:i<t.length) (hk:r.key=(atR t i).key) (k:ByteArray):lW (t.set i r) k=if k=r.key then some r else lW t k:=by
 have hs:=ahD h hi hk
 by_cases e:k=r.key
 ·rw[if_pos e];exact(Vk hs).2 ⟨(abJ h hi).2 (.inl rfl),e.symm⟩
 ·rw[if_neg e];refine look_eq hs h fun x=>?_;rw[abJ h hi];constructor
  ·rintro⟨rfl|⟨hx,_⟩,hk2⟩
   ·exact absurd hk2.symm e
   ·exact⟨hx,hk2⟩
  ·rintro⟨hx,hk2⟩;exact⟨.inr ⟨hx,fun e2=>e (by rw[hk,←e2,hk2])⟩,hk2⟩
theorem afa {t:List au} (i:Nat) (h:jN t):jN (t.eraseIdx i):=List.Pairwise.sublist (List.eraseIdx_sublist t i) h
theorem ae_ {t:List au} {i:Nat} {x:au} (h:jN t) (hi:i<t.length):x∈t.eraseIdx i↔x∈t∧x.key≠(atR t i).key:=by
 rw[List.mem_eraseIdx_iff_getElem];constructor
 ·rintro⟨j,hj,hne,rfl⟩;exact⟨List.getElem_mem _,fun e=>hne (aby h hj hi (by rw[jw hj];exact e))⟩
 ·rintro⟨hx,hk⟩;obtain⟨j,hj,rfl⟩:=List.getElem_of_mem hx;exact⟨j,hj,fun e=>by subst e;rw[jw hj]at hk;exact hk rfl,rfl⟩
theorem aoC {t:List au} {i:Nat} (h:jN t) (hi:i<t.length) (k:ByteArray):lW (t.eraseIdx i) k=if k=(atR t i).key then none else lW t k:=by
 by_cases e:k=(atR t i).key
 ·rw[if_pos e];exact Rw.2 fun r hr hk=>((ae_ h hi).1 hr).2 (by rw[hk,e])
 ·rw[if_neg e];refine look_eq (afa i h) h fun x=>?_;rw[ae_ h hi];constructor
  ·rintro⟨⟨hx,_⟩,hk⟩;exact⟨hx,hk⟩
  ·rintro⟨hx,hk⟩;exact⟨⟨hx,fun e2=>e (by rw[←e2,hk])⟩,hk⟩
theorem asF {r:au} {o:aX} (h:kJ 2 r) (hc:dY 2 o=0) (hm:r.rev≠bZ):kJ 2 (vF r o):=by
 obtain⟨h1,h2,h3,h4,h5,h6⟩:=h;have hop:=Nr hc;refine⟨h1,h2,hop.2.2.2.1,⟨by simp only[vF];omega,?_⟩,h5,h6⟩;unfold bZ at hm;simp only[vF];omega
theorem asD {r:au} {o:aX} (h:kJ 2 r) (hc:dY 2 o=0) (hm:r.rev≠bZ):kJ 2 (uy r o):=by
 obtain⟨h1,h2,h3,h4,h5,h6⟩:=h;have hop:=Nr hc;refine⟨h1,h2,h3,⟨by simp only[uy];omega,?_⟩,?_,h6⟩
 ·unfold bZ at hm;simp only[uy];omega
 ·rw[BI];have:=hop.2.2.2.2.2.2;unfold bZ at this;exact⟨this.1,this.2,hop.2.2.2.2.1⟩
theorem aoE (v:Int):sP v []=true:=by rw[qB];exact⟨by decide,by decide,fun i hi=>by cases hi⟩
theorem asE {o:aX} (hc:dY 2 o=0) (hk:o.kind≠6):kJ 2 (newR o):=by
 have hop:=Nr hc;exact⟨.inr rfl,⟨hop.2.2.1 hk,hop.2.1⟩,hop.2.2.2.1,by simp[newR],by rw[BI];simp only[newR];exact⟨by omega,by omega,by decide⟩,aoE 2⟩
theorem asC {t:List au} {r:au} (h:iO t) (hn:∀x∈t,x.key≠r.key) (hr:kJ 2 r) (hl:t.length≤19):iO (uw t r):=
 ⟨fun x hx=>by rcases Rs.1 hx with rfl|hx;exact qV.2 hr;exact h.1 x hx,agk h.2.1 hn,by rw[agi];omega⟩
theorem abx {t:List au} {i:Nat} {r:au} (h:iO t) (hi:i<t.length) (hk:r.key=(atR t i).key) (hr:kJ 2 r):iO (t.set i r):=
 ⟨fun x hx=>by rcases(abJ h.2.1 hi).1 hx with rfl|hx;exact qV.2 hr;exact h.1 x hx.1,ahD h.2.1 hi hk,by rw[List.length_set];exact h.2.2⟩
theorem asA {t:List au} (i:Nat) (h:iO t):iO (t.eraseIdx i):=
 ⟨fun x hx=>h.1 x (List.mem_of_mem_eraseIdx hx),afa i h.2.1,Nat.le_trans (by rw[List.length_eraseIdx];split<;>omega) h.2.2⟩
def VL (x:Option au):Int:=match x with|none=>0|some r=>r.rev
def RP (x:Option au) (o:aX):Option au×dx:=
 match x with
 |none=>(some (newR o),⟨0,1,ByteArray.empty,[]⟩)
 |some r=>if r.rev=bZ then(some r,gK 50)else(some (vF r o),⟨0,r.rev+1,ByteArray.empty,[]⟩)
def aa3 (x:Option au) (o:aX):Option au×dx:=
 if o.kind=2 then RP x o
 else if o.kind=4 then(if VL x≠o.rev then(x,⟨71,VL x,ByteArray.empty,[]⟩)else RP x o)
 else match x with
  |none=>(none,gK 70)
  |some r=>
   if o.kind=1 then(some r,⟨0,r.rev,r.value,[]⟩)
   else if o.kind=3 then(none,⟨0,r.rev,ByteArray.empty,[]⟩)
   else if r.rev=bZ then(some r,gK 50)
   else(some (uy r o),⟨0,r.rev+1,ByteArray.empty,[]⟩)
def Eff (t u:List au) (k:ByteArray) (x:Option au):Prop:=iO u∧u.length≤t.length+1∧∀q,lW u q=if q=k then x else lW t q
theorem Z6 {t:List au} (h:iO t) (k:ByteArray):Eff t t k (lW t k):=⟨h,by omega,fun q=>by split;rename_i e;rw[e];rfl⟩
theorem asw {t:List au} (h:jN t) (k:ByteArray):FZ t (jS t k)=VL (lW t k):=by
 rw[Vj h]
 cases jS t k<;>rfl
theorem agZ {t:List au} {o:aX} (h:iO t) (hc:dY 2 o=0) (hk:o.kind≠6) (hl:t.length≤19∨lW t o.key≠none):
  (bM t (jS t o.key) o).2=(RP (lW t o.key) o).2∧Eff t (bM t (jS t o.key) o).1 o.key (RP (lW t o.key) o).1:=by
 have hlk:=Vj (k:=o.key) h.2.1
 cases e:jS t o.key with
 |none=>
  rw[e]at hlk;simp only[Option.map_none]at hlk;rw[hlk]at hl ⊢;have hn:∀x∈t,x.key≠(newR o).key:=aaX e;have hl2:t.length≤19:=by rcases hl with h|h;exact h;exact absurd rfl h
  have e1:bM t none o=(uw t (newR o),⟨0,1,ByteArray.empty,[]⟩):=if_neg (by omega);rw[e1];exact⟨rfl,asC h hn (asE hc hk) hl2,by rw[agi];exact Nat.le_refl _,fun q=>ap1 h.2.1 hn q⟩
 |some i=>
  rw[e]at hlk;simp only[Option.map_some]at hlk;obtain⟨hi,hkey⟩:=Ro e;rw[hlk];unfold bM RP;simp only
  by_cases hm:(atR t i).rev=bZ
  ·rw[if_pos hm,if_pos hm];have:=Z6 h o.key;rw[hlk]at this;exact⟨rfl,this⟩
  ·rw[if_neg hm,if_neg hm];refine⟨rfl,abx h hi rfl (asF (h.at (sK hi)) hc hm),by rw[List.length_set];omega,fun q=>?_⟩;have:=ahC (r:=vF (atR t i) o) h.2.1 hi rfl q;rw[show(vF (atR t i) o).key=o.key from hkey]at this;exact this
theorem an9 {t:List au} {o:aX} (h:iO t) (hc:dY 2 o=0) (hk:o.kind≠6) (hl:t.length≤19∨lW t o.key≠none∨¬(o.kind=2∨o.kind=4)):
  (bO t o).2=(aa3 (lW t o.key) o).2∧Eff t (bO t o).1 o.key (aa3 (lW t o.key) o).1:=by
 unfold bO aa3;rw[if_neg (fun e=>e ⟨h,hc⟩),if_neg hk]
 by_cases h2:o.kind=2
 ·rw[if_pos h2,if_pos h2];exact agZ h hc hk (by rcases hl with h|h|h;exact .inl h;exact .inr h;exact absurd (.inl h2) h)
 rw[if_neg h2,if_neg h2]
 by_cases h4:o.kind=4
 ·rw[if_pos h4,if_pos h4,asw h.2.1]
  by_cases hr:VL (lW t o.key)≠o.rev
  ·rw[if_pos hr,if_pos hr];exact⟨rfl,Z6 h o.key⟩
  ·rw[if_neg hr,if_neg hr];exact agZ h hc hk (by rcases hl with h|h|h;exact .inl h;exact .inr h;exact absurd (.inr h4) h)
 rw[if_neg h4,if_neg h4];have hlk:=Vj (k:=o.key) h.2.1;have hsame:=Z6 h o.key
 cases e:jS t o.key with
 |none=>
  rw[e]at hlk;simp only[Option.map_none]at hlk;rw[hlk]at hsame ⊢;exact⟨rfl,hsame⟩
 |some i=>
  rw[e]at hlk;simp only[Option.map_some]at hlk;obtain⟨hi,hkey⟩:=Ro e;rw[hlk]at hsame ⊢;simp only
  by_cases h1:o.kind=1
  ·rw[if_pos h1,if_pos h1];exact⟨rfl,hsame⟩
  rw[if_neg h1,if_neg h1]
  by_cases h3:o.kind=3
  ·rw[if_pos h3,if_pos h3];refine⟨rfl,asA i h,by rw[List.length_eraseIdx];split<;>omega,fun q=>?_⟩;have:=aoC h.2.1 hi q;rw[hkey]at this;exact this
  rw[if_neg h3,if_neg h3]
  by_cases hm:(atR t i).rev=bZ
  ·rw[if_pos hm,if_pos hm];exact⟨rfl,hsame⟩
  ·rw[if_neg hm,if_neg hm];refine⟨rfl,abx h hi rfl (asD (h.at (sK hi)) hc hm),by rw[List.length_set];omega,fun q=>?_⟩;have:=ahC (r:=uy (atR t i) o) h.2.1 hi rfl q;rw[show(uy (atR t i) o).key=o.key from hkey]at this;exact this
theorem ZY {t:List au} (h:iO t) (o:aX):iO (bO t o).1:=by
 by_cases hc:dY 2 o=0
 ·by_cases hk:o.kind=6
  ·unfold bO;rw[if_neg (fun e=>e ⟨h,hc⟩),if_pos hk];exact h
  ·by_cases hl:t.length≤19∨lW t o.key≠none∨¬(o.kind=2∨o.kind=4)
   ·exact(an9 h hc hk hl).2.1
   ·have h1:¬t.length≤19:=fun e=>hl (.inl e);have h2:lW t o.key=none:=Classical.byContradiction fun e=>hl (.inr (.inl e));have h3:o.kind=2∨o.kind=4:=Classical.byContradiction fun e=>hl (.inr (.inr e));have e:jS t o.key=none:=by
     have:=Vj (k:=o.key) h.2.1;rw[h2]at this
     cases e:jS t o.key with
     |none=>rfl
     |some i=>rw[e]at this;cases this
    have ep:(bM t none o).1=t:=by unfold bM;simp only;rw[if_pos (by omega)]
    unfold bO;rw[if_neg (fun e=>e ⟨h,hc⟩),if_neg hk,e];rcases h3 with h3|h3
    ·rw[if_pos h3,ep];exact h
    ·rw[if_neg (by omega),if_pos h3];split
     ·exact h
     ·rw[ep];exact h
 ·unfold bO;rw[if_pos (fun e=>hc e.2)];exact h
structure aF where
 client:Int
 id:Int
 rep:dx
def lK:dx:=⟨0,0,ByteArray.empty,[]⟩
def aip:aF:=⟨0,0,lK⟩
def iT (r:dx):Prop:=(∀k∈r.keys,k.size≤16)∧(0≤r.rev∧r.rev≤bZ)∧r.value.size≤200∧r.keys.length≤5∧(0≤r.errno∧r.errno≤255)
instance (r:dx):Decidable (iT r):=by unfold iT;infer_instance
def mX (r:dx):Bool:=decide (iT r)
def lF (l:List aF):Prop:=l.Pairwise fun a b=>a.client<b.client
def iN (c i:Int):Prop:=(1≤c∧c≤1000)∧1≤i∧i≤bZ
instance (c i:Int):Decidable (iN c i):=by unfold iN;infer_instance
def j4 (l:List aF):Prop:=(∀d∈l,iT d.rep∧iN d.client d.id)∧lF l∧l.length≤8
noncomputable instance (l:List aF):Decidable (j4 l):=Classical.propDecidable _
noncomputable def tF (l:List aF):Bool:=decide (j4 l)
theorem Ny {l:List aF}:tF l=true↔j4 l:=by unfold tF;simp
theorem ahp {l:List aF} (h:¬j4 l):tF l=false:=by unfold tF;simpa using h
def jF (l:List aF) (c:Int):Option aF:=l.find? fun d=>decide (d.client=c)
def bg (l:List aF) (i:Nat):aF:=l.getD i aip
def wP (x:Option aF) (i:Int):dx×Nat:=match x with
 |none=>(lK,70)
 |some d=>if d.id<i then(lK,70)else if i<d.id then(lK,81)else(d.rep,0)
noncomputable def dJ (l:List aF) (c i:Int):dx×Nat:=if ¬(j4 l∧iN c i)then(lK,1)else wP (jF l c) i
def pQ:List aF→aF→List aF
 |[],d=>[d]
 |x::l,d=>if d.client<x.client then d::x::l else x::pQ l d
def jT (l:List aF) (c:Int):List aF:=l.filter fun d=>decide (d.client≠c)
def mY (l:List aF) (c i:Int) (r:dx):List aF:=pQ (jT l c) ⟨c,i,r⟩
noncomputable def fV (l:List aF) (c i:Int) (r:dx):List aF×Nat:=
 if(dJ l c i).2=1∨(dJ l c i).2=0∨¬iT r then([],1)
 else if(dJ l c i).2=81 then([],81)
 else if 8<(mY l c i r).length then([],50)
 else(mY l c i r,0)
theorem lZ {l:List aF} {i:Nat} (h:i<l.length):bg l i=l[i]:=by unfold bg;rw[List.getD_eq_getElem?_getD,List.getElem?_eq_getElem h];rfl
theorem yL {l:List aF} {i:Nat} (h:i<l.length):bg l i∈l:=by rw[lZ h];exact List.getElem_mem _
theorem Wm {l:List aF} {k:Nat} (h:k<l.length):l.take (k+1)=l.take k++[bg l k]:=by rw[List.take_succ_eq_append_getElem h,lZ h]
theorem KX {l:List aF} {c:Int} {d:aF} (h:jF l c=some d):d∈l∧d.client=c:=by
 unfold jF at h;exact⟨List.mem_of_find?_eq_some h,by have:=List.find?_some h;simpa using this⟩
theorem KY {l:List aF} {c:Int}:jF l c=none↔∀d∈l,d.client≠c:=by
 unfold jF;rw[List.find?_eq_none];simp
theorem Ey {l:List aF} (h:lF l) {i j:Nat} (hij:i<j) (hj:j<l.length):(bg l i).client<(bg l j).client:=by
 rw[lZ (by omega),lZ hj];exact List.pairwise_iff_getElem.1 h i j (by omega) hj hij
theorem agA {l:List aF} (h:lF l) {d:aF} (hd:d∈l):jF l d.client=some d:=by
 cases e:jF l d.client with
 |none=>exact absurd rfl (KY.1 e d hd)
 |some x=>
  obtain⟨hx,hk⟩:=KX e;obtain⟨i,hi,rfl⟩:=List.getElem_of_mem hd;obtain⟨j,hj,rfl⟩:=List.getElem_of_mem hx;have key:i=j:=by
   rcases Nat.lt_trichotomy i j with l1|l1|l1
   ·have:=List.pairwise_iff_getElem.1 h i j hi hj l1;omega
   ·exact l1
   ·have:=List.pairwise_iff_getElem.1 h j i hj hi l1;omega
  subst key;rfl
theorem Vi {l:List aF} (h:lF l) {c:Int} {d:aF}:jF l c=some d↔d∈l∧d.client=c:=
 ⟨KX,fun⟨h1,h2⟩=>by rw[←h2];exact agA h h1⟩
theorem aqt {l m:List aF} (hl:lF l) (hm:lF m) {c:Int} (h:∀d,(d∈l∧d.client=c)↔(d∈m∧d.client=c)):jF l c=jF m c:=by
 cases e:jF l c with
 |none=>
  symm;exact KY.2 fun d hd hk=>KY.1 e d ((h d).2 ⟨hd,hk⟩).1 hk
 |some d=>exact((Vi hm).2 ((h d).1 ((Vi hl).1 e))).symm
theorem agb {l:List aF} {d x:aF}:x∈pQ l d↔x=d∨x∈l:=by
 induction l with
 |nil=>simp[pQ]
 |cons y l ih=>
  unfold pQ;split
  ·simp
  ·simp only[List.mem_cons,ih];constructor
   ·rintro(h|h|h)
    ·exact .inr (.inl h)
    ·exact .inl h
    ·exact .inr (.inr h)
   ·rintro(h|h|h)
    ·exact .inr (.inl h)
    ·exact .inl h
    ·exact .inr (.inr h)
theorem aga (l:List aF) (d:aF):(pQ l d).length=l.length+1:=by
 induction l with
 |nil=>rfl
 |cons y l ih=>unfold pQ;split<;>simp[ih]
theorem apV {l:List aF} {d:aF} (h:lF l) (hn:∀x∈l,x.client≠d.client):lF (pQ l d):=by
 induction l with
 |nil=>exact List.pairwise_singleton _ _
 |cons y l ih=>
  have hp:=List.pairwise_cons.1 h;unfold pQ;split
  ·rename_i hlt;refine List.pairwise_cons.2 ⟨fun x hx=>?_,h⟩;rcases List.mem_cons.1 hx with rfl|hx
   ·exact hlt
   ·have:=hp.1 x hx;omega
  ·rename_i hlt;refine List.pairwise_cons.2 ⟨fun x hx=>?_,ih hp.2 (fun x hx=>hn x (List.mem_cons_of_mem _ hx))⟩;rcases agb.1 hx with rfl|hx
   ·have:=hn y (List.mem_cons_self ..);omega
   ·exact hp.1 x hx
theorem abq {l:List aF} {c:Int} {d:aF}:d∈jT l c↔d∈l∧d.client≠c:=by unfold jT;simp
theorem aso {l:List aF} (c:Int) (h:lF l):lF (jT l c):=List.Pairwise.sublist List.filter_sublist h
theorem K7 {l:List aF} {c i:Int} {r:dx} {d:aF}:d∈mY l c i r↔d=⟨c,i,r⟩∨(d∈l∧d.client≠c):=by unfold mY;rw[agb,abq]
theorem Vx {l:List aF} (c i:Int) (r:dx) (h:lF l):lF (mY l c i r):=apV (aso c h) (fun x hx=>(abq.1 hx).2)
theorem arH {l:List aF} {c i:Int} {r:dx} (h:lF l) (q:Int):jF (mY l c i r) q=if q=c then some ⟨c,i,r⟩else jF l q:=by
 by_cases e:q=c
 ·rw[if_pos e];exact(Vi (Vx c i r h)).2 ⟨K7.2 (.inl rfl),e.symm⟩
 ·rw[if_neg e];refine aqt (Vx c i r h) h fun d=>?_;rw[K7];constructor
  ·rintro⟨rfl|hd,hk⟩
   ·exact absurd hk.symm e
   ·exact⟨hd.1,hk⟩
  ·rintro⟨hd,hk⟩;exact⟨.inr ⟨hd,by rw[hk];exact e⟩,hk⟩
theorem abr {l:List aF} {c:Int} (h:jF l c=none):jT l c=l:=by
 unfold jT;exact List.filter_eq_self.2 fun d hd=>by simpa using KY.1 h d hd
theorem asu {l:List aF} {c:Int} (hr:lF l) {d:aF} (h:jF l c=some d):(jT l c).length+1=l.length:=by
 induction l with
 |nil=>cases h
 |cons x l ih=>
  have hp:=List.pairwise_cons.1 hr
  by_cases e:x.client=c
  ·have hn:jT l c=l:=abr (KY.2 fun y hy hk=>by have:=hp.1 y hy;omega);unfold jT at hn ⊢;rw[List.filter_cons_of_neg (by simpa using e),hn];rfl
  ·have h2:jF l c=some d:=by
    unfold jF at h ⊢;rw[List.find?_cons]at h;simpa[e]using h
   have:=ih hp.2 h2;unfold jT at this ⊢;rw[List.filter_cons_of_pos (by simpa using e),List.length_cons,List.length_cons,this]
theorem Vw {l:List aF} (c i:Int) (r:dx) (h:lF l):(mY l c i r).length=if jF l c=none then l.length+1 else l.length:=by
 unfold mY;rw[aga]
 cases e:jF l c with
 |none=>rw[if_pos rfl,abr e]
 |some d=>rw[if_neg (by simp)];exact asu h e
def aci (l u:List aF) (c i:Int) (r:dx):Prop:=j4 u∧(∀q,jF u q=if q=c then some ⟨c,i,r⟩else jF l q)∧u.length=if jF l c=none then l.length+1 else l.length
theorem ap_ {l:List aF} {c i:Int} {r:dx} (h:j4 l) (hg:iN c i) (hm:iT r) (hl:∀d,jF l c=some d→d.id<i):
  (l.length=8∧jF l c=none∧fV l c i r=([],50))∨((l.length≤7∨jF l c≠none)∧(fV l c i r).2=0∧aci l (fV l c i r).1 c i r):=by
 have hk:(dJ l c i).2=70:=by
  unfold dJ wP;rw[if_neg (fun e=>e ⟨h,hg⟩)]
  cases e:jF l c with
  |none=>rfl
  |some d=>simp only;rw[if_pos (hl d e)]
 have hlen:=Vw c i r h.2.1;unfold fV;rw[hk,if_neg (by rintro(e|e|e);cases e;cases e;exact e hm),if_neg (by decide)]
 by_cases h8:8<(mY l c i r).length
 ·rw[if_pos h8];left;have:=h.2.2;split at hlen
  ·rename_i e;exact⟨by omega,e,rfl⟩
  ·omega
 ·rw[if_neg h8];right;refine⟨?_,rfl,⟨fun d hd=>?_,Vx c i r h.2.1,by show(mY l c i r).length≤8;omega⟩,arH h.2.1,hlen⟩
  ·split at hlen
   ·left;omega
   ·rename_i e;exact .inr e
  ·rcases K7.1 hd with rfl|hd
   ·exact⟨hm,hg⟩
   ·exact h.1 d hd.1
theorem Ja {l:List aF} {c i:Int} (h:j4 l) (hg:iN c i):dJ l c i=wP (jF l c) i:=by unfold dJ;rw[if_neg (fun e=>e ⟨h,hg⟩)]
theorem Nz:j4 []:=⟨(fun d h=>nomatch h),List.Pairwise.nil,by simp⟩
structure ShR where
 id:Int
 epoch:Int
 frozen:Bool
 table:List au
 cache:List aF
structure iM where
 fZ:Int
 epoch:Int
 client:Int
 id:Int
 op:aX
def nV:ShR:=⟨0,0,false,[],[]⟩
def fq (s:ShR):Prop:=iO s.table∧j4 s.cache∧(0≤s.id∧s.id≤7)∧1≤s.epoch∧s.epoch≤bZ
noncomputable instance (s:ShR):Decidable (fq s):=Classical.propDecidable _
noncomputable def rT (s:ShR):Bool:=decide (fq s)
theorem La {s:ShR}:rT s=true↔fq s:=by unfold rT;simp
theorem VO {s:ShR} (h:¬fq s):rT s=false:=by unfold rT;simpa using h
noncomputable def wO (a b:ShR):Bool:=@decide (a=b) (Classical.propDecidable _)
theorem NJ {a b:ShR}:wO a b=true↔a=b:=by unfold wO;simp
theorem EA (a:ShR):wO a a=true:=NJ.2 rfl
noncomputable def iE (v:Int) (s:ShR) (c:iM):Nat:=
 if ¬(fq s∧(v=1∨v=2)∧iN c.client c.id)then 1 else if c.fZ≠s.id then 83 else if c.epoch≠s.epoch then 80 else dY v c.op
noncomputable def eD (v:Int) (s:ShR) (c:iM):ShR×dx×Bool:=
 if iE v s c≠0 then(s,gK (iE v s c),false)
 else if gL c.op=false then(s,(bO s.table c.op).2,false)
 else if(dJ s.cache c.client c.id).2=0 then(s,(dJ s.cache c.client c.id).1,false)
 else if(dJ s.cache c.client c.id).2≠70 then(s,gK (dJ s.cache c.client c.id).2,false)
 else if s.frozen=true then(s,gK 82,false)
 else if(fV s.cache c.client c.id (bO s.table c.op).2).2≠0 then(s,gK (fV s.cache c.client c.id (bO s.table c.op).2).2,false)
 else({ s with table:=(bO s.table c.op).1,cache:=(fV s.cache c.client c.id (bO s.table c.op).2).1 },(bO s.table c.op).2,true)
def jH (n:Int):List UInt8:=vb n.toNat
def pW (l:List UInt8):List UInt8:=vb l.length++l
def mW (k:ByteArray):List UInt8:=pW k.data.toList
def l9 (d:aF):List UInt8:=jH d.client++(jH d.id++(jH d.rep.errno++(jH d.rep.rev++(mW d.rep.value++(vb d.rep.keys.length++d.rep.keys.flatMap mW)))))
def nH (v:Int) (r:au):List UInt8×Nat:=nG v (toR 2 v r).1
def oz (v:Int) (r:au):List UInt8:=pW (nH v r).1
def mo (v:Int):UInt8:=if v=2 then 116 else 115
def l8 (v:Int) (s:ShR):List UInt8:=mo v::(jH s.id++(jH s.epoch++(vb (if s.frozen=true then 1 else 0)++(vb s.table.length++(vb s.cache.length++(s.table.flatMap (oz v)++s.cache.flatMap l9))))))
def oC (v:Int) (l:List UInt8):List UInt8:=if v=2 then I_ (NS l)else[]
def zJ (v:Int) (t:List au):Prop:=∃r∈t,(nH v r).2≠0
noncomputable instance (v:Int) (t:List au):Decidable (zJ v t):=Classical.propDecidable _
noncomputable def encS (v:Int) (s:ShR):List UInt8×Nat:=
 if ¬(fq s∧(v=1∨v=2))then([],1)else if zJ v s.table then([],12)else(l8 v s++oC v (l8 v s),0)
open Classical in
noncomputable def pz (v:Int) (b:List UInt8):ShR×Nat:=
 if ¬(v=1∨v=2)then(nV,1)else if h:∃s,encS v s=(b,0)then(h.choose,0)else(nV,11)
theorem N7 {x y:Nat} {m n:List UInt8} (hx:x≤9007199254740992) (hy:y≤9007199254740992) (h:vb x++m=vb y++n):x=y∧m=n:=by
 have h1:=NV hx m;rw[h,NV hy n]at h1;have:y=x:=(Prod.mk.inj h1).1;subst this;exact⟨rfl,List.append_cancel_left h⟩
theorem Nl {x y:Int} {m n:List UInt8} (hx:0≤x∧x≤bZ) (hy:0≤y∧y≤bZ) (h:jH x++m=jH y++n):x=y∧m=n:=by
 unfold bZ at hx hy;have:=N7 (by omega) (by omega) h;exact⟨by omega,this.2⟩
theorem ah1 {a b m n:List UInt8} (ha:a.length≤9007199254740992) (hb:b.length≤9007199254740992) (h:pW a++m=pW b++n):a=b∧m=n:=by
 unfold pW at h;rw[List.append_assoc,List.append_assoc]at h;obtain⟨h1,h2⟩:=N7 ha hb h;exact List.append_inj h2 h1
theorem Fy (k:ByteArray):k.data.toList.length=k.size:=by simp
theorem data_inj {a b:ByteArray} (h:a.data.toList=b.data.toList):a=b:=by
 obtain⟨⟨a⟩⟩:=a;obtain⟨⟨b⟩⟩:=b;simp only at h;subst h;rfl
theorem agt {a b:ByteArray} {m n:List UInt8} (ha:a.size≤9007199254740992) (hb:b.size≤9007199254740992) (h:mW a++m=mW b++n):a=b∧m=n:=by
 have:=ah1 (by rw[Fy];exact ha) (by rw[Fy];exact hb) h;exact⟨data_inj this.1,this.2⟩
theorem UK {α:Type} (f:α→List UInt8) (P:α→Prop) (hf:∀{x y:α} {m n:List UInt8},P x→P y→f x++m=f y++n→x=y∧m=n):∀{a b:List α} {m n:List UInt8},a.length=b.length→(∀x∈a,P x)→(∀x∈b,P x)→a.flatMap f++m=b.flatMap f++n→a=b∧m=n
 |[],[],m,n,_,_,_,h=>⟨rfl,by simpa using h⟩
 |[],y::b,m,n,hl,_,_,h=>by simp at hl
 |x::a,[],m,n,hl,_,_,h=>by simp at hl
 |x::a,y::b,m,n,hl,ha,hb,h=>by
  rw[List.flatMap_cons,List.flatMap_cons,List.append_assoc,List.append_assoc]at h;obtain⟨h1,h2⟩:=hf (ha x (List.mem_cons_self ..)) (hb y (List.mem_cons_self ..)) h;obtain⟨h3,h4⟩:=UK f P hf (by simpa using hl) (fun z hz=>ha z (List.mem_cons_of_mem _ hz)) (fun z hz=>hb z (List.mem_cons_of_mem _ hz)) h2;exact⟨by rw[h1,h3],h4⟩
def Jz (d:aF):Prop:=iT d.rep∧iN d.client d.id
theorem aoi {d e:aF} {m n:List UInt8} (hd:Jz d) (he:Jz e) (h:l9 d++m=l9 e++n):d=e∧m=n:=by
 obtain⟨⟨d1,d2,d3,d4,d5⟩,⟨d6,d7⟩,d8⟩:=hd;obtain⟨⟨e1,e2,e3,e4,e5⟩,⟨e6,e7⟩,e8⟩:=he;have mx:bZ=9007199254740992:=rfl;unfold l9 at h;simp only[List.append_assoc]at h;obtain⟨h1,h⟩:=Nl ⟨by omega,by omega⟩ ⟨by omega,by omega⟩ h;obtain⟨h2,h⟩:=Nl ⟨by omega,by omega⟩ ⟨by omega,by omega⟩ h;obtain⟨h3,h⟩:=Nl ⟨by omega,by omega⟩ ⟨by omega,by omega⟩ h;obtain⟨h4,h⟩:=Nl d2 e2 h;obtain⟨h5,h⟩:=agt (by omega) (by omega) h;obtain⟨h6,h⟩:=N7 (by omega) (by omega) h;obtain⟨h7,h⟩:=UK mW (fun k=>k.size≤16) (fun ha hb e=>agt (by omega) (by omega) e) h6 d1 e1 h;refine⟨?_,h⟩;obtain⟨dc,di,⟨dr1,dr2,dr3,dr4⟩⟩:=d;obtain⟨ec,ei,⟨er1,er2,er3,er4⟩⟩:=e;simp only at h1 h2 h3 h4 h5 h7;subst h1 h2 h3 h4 h5 h7;rfl
theorem RX {v:Int} (hv:v=1∨v=2) {r:au} (h:eP 2 r=true):nH v r=nG 2 r:=by
 unfold nH toR;rw[if_pos ⟨h,hv⟩];rcases hv with rfl|rfl
 ·rw[if_neg (by omega),if_neg (by omega)];have hd:ou r=((ou r).1,0):=by
   have:=(UC r).2 h;rw[←this]
  exact(down_up hd).2.2.2.1
 ·rw[if_pos rfl]
def AJ (v:Int) (r:au):Prop:=eP 2 r=true∧(nH v r).2=0
theorem ag8 {v:Int} (hv:v=1∨v=2) {r q:au} (hr:AJ v r) (hq:AJ v q) (h:(nH v r).1=(nH v q).1):r=q∧(nH v r).1.length≤10000:=by
 obtain⟨r1,r2⟩:=hr;obtain⟨q1,q2⟩:=hq;rw[RX hv r1]at r2 h ⊢;rw[RX hv q1]at q2 h;have f:∀{x:au},eP 2 x=true→(nG 2 x).2=0→(gY (fQ x)).length≤10000:=fun{x} hx h0=>by
  rw[VB hx]at h0;split at h0
  ·assumption
  ·cases h0
 obtain⟨a1,a2⟩:=abn r1 (f r1 r2);obtain⟨b1,b2⟩:=abn q1 (f q1 q2);rw[a1,b1]at h;simp only at h;rw[←h,a2]at b2;exact⟨(Prod.mk.inj b2).1,by rw[a1];exact f r1 r2⟩
theorem VE {v:Int} (hv:v=1∨v=2) {r:au} (hr:AJ v r):(nH v r).1.length≤10000:=(ag8 hv hr hr rfl).2
theorem ar1 {v:Int} (hv:v=1∨v=2) {r q:au} {m n:List UInt8} (hr:AJ v r) (hq:AJ v q) (h:oz v r++m=oz v q++n):r=q∧m=n:=by
 have h1:=VE hv hr;have h2:=VE hv hq;obtain⟨h3,h4⟩:=ah1 (by omega) (by omega) h;exact⟨(ag8 hv hr hq h3).1,h4⟩
theorem amy {v:Int} (hv:v=1∨v=2) {s t:ShR} (hs:fq s) (ht:fq t) (ls:¬zJ v s.table) (lt:¬zJ v t.table) (h:l8 v s=l8 v t):s=t:=by
 obtain⟨⟨s1,s2,s3⟩,⟨s4,s5,s6⟩,s7,s8⟩:=hs;obtain⟨⟨t1,t2,t3⟩,⟨t4,t5,t6⟩,t7,t8⟩:=ht;have mx:bZ=9007199254740992:=rfl;unfold l8 at h;have h:=(List.cons.inj h).2;obtain⟨h1,h⟩:=Nl ⟨by omega,by omega⟩ ⟨by omega,by omega⟩ h;obtain⟨h2,h⟩:=Nl ⟨by omega,by omega⟩ ⟨by omega,by omega⟩ h;obtain⟨h3,h⟩:=N7 (by split<;>omega) (by split<;>omega) h;obtain⟨h4,h⟩:=N7 (by omega) (by omega) h;obtain⟨h5,h⟩:=N7 (by omega) (by omega) h;have gl:∀{l:List au},(∀r∈l,eP 2 r=true)→¬zJ v l→∀r∈l,AJ v r:=fun a b r hr=>⟨a r hr,Classical.byContradiction fun h=>b ⟨r,hr,h⟩⟩;obtain⟨h6,h⟩:=UK (oz v) (AJ v) (fun ha hb e=>ar1 hv ha hb e) h4 (gl s1 ls) (gl t1 lt) h;have h':s.cache.flatMap l9++[]=t.cache.flatMap l9++[]:=by rw[h]
 obtain⟨h7,_⟩:=UK l9 Jz (fun ha hb e=>aoi ha hb e) h5 s4 t4 h';have h8:s.frozen=t.frozen:=by
  cases hf:s.frozen<;>cases hg:t.frozen<;>rw[hf,hg]at h3<;>simp at h3<;>rfl
 obtain⟨a,b,c,d,e⟩:=s;obtain⟨a',b',c',d',e'⟩:=t;simp only at h1 h2 h6 h7 h8;subst h1 h2 h6 h7 h8;rfl
theorem at7 (v:Int) (l m:List UInt8):(oC v l).length=(oC v m).length:=by unfold oC;split<;>rfl
theorem Il {v:Int} {s:ShR} {b:List UInt8} (h:encS v s=(b,0)):fq s∧(v=1∨v=2)∧¬zJ v s.table∧b=l8 v s++oC v (l8 v s):=by
 unfold encS at h;split at h
 ·cases h
 ·rename_i h1;have h1:=Classical.not_not.1 h1;split at h
  ·cases h
  ·rename_i h2;exact⟨h1.1,h1.2,h2,(Prod.mk.inj h).1.symm⟩
theorem aov {v:Int} {s t:ShR} {b:List UInt8} (h:encS v s=(b,0)) (k:encS v t=(b,0)):s=t:=by
 obtain⟨h1,hv,h2,h3⟩:=Il h;obtain⟨k1,_,k2,k3⟩:=Il k;have e:l8 v s++oC v (l8 v s)=l8 v t++oC v (l8 v t):=by rw[←h3,←k3]
 exact amy hv h1 k1 h2 k2 (List.append_inj' e (at7 _ _ _)).1
theorem MU {v:Int} {s:ShR} {b:List UInt8} (h:encS v s=(b,0)):pz v b=(s,0):=by
 have he:∃t,encS v t=(b,0):=⟨s,h⟩;unfold pz;rw[if_neg (fun hn=>hn (Il h).2.1),dif_pos he];rw[aov he.choose_spec h]
theorem Uw {v:Int} (hv:v=1∨v=2) {b:List UInt8} (h:∀s,encS v s≠(b,0)):pz v b=(nV,11):=by
 unfold pz;rw[if_neg (fun hn=>hn hv),dif_neg (fun⟨s,hs⟩=>h s hs)]
theorem UE {v:Int} {s:ShR} {b:List UInt8} (h:encS v s=(b,0)):b.head? =some (mo v):=by
 rw[(Il h).2.2.2];rfl
theorem Ux {v u:Int} (hu:u=1∨u=2) (hvu:v≠u) {s:ShR} {b:List UInt8} (h:encS v s=(b,0)):pz u b=(nV,11):=by
 refine Uw hu fun t k=>?_;have h1:=UE h;have h2:=UE k;rw[h1]at h2;have hv:=(Il h).2.1;rcases hv with rfl|rfl<;>rcases hu with rfl|rfl
 ·exact hvu rfl
 ·cases h2
 ·cases h2
 ·exact hvu rfl
theorem anZ {v:Int} (hv:v=1∨v=2):pz v []=(nV,11):=Uw hv fun s h=>by have:=UE h;cases this
theorem KE {e:Nat} (h:e≤255):iT (gK e):=⟨fun k h=>(by cases h),⟨by show(0:Int)≤0;omega,by show(0:Int)≤bZ;unfold bZ;omega⟩,by show ByteArray.empty.size≤200;decide,by show 0≤5;omega,by show(0:Int)≤(e:Int);omega,by show(e:Int)≤255;omega⟩
theorem Nw {e:Int} {k:Int} (he:0≤e∧e≤255) (h:0≤k∧k≤bZ):iT (⟨e,k,ByteArray.empty,[]⟩:dx):=⟨fun k h=>(by cases h),h,by show ByteArray.empty.size≤200;decide,by show 0≤5;omega,he⟩
theorem abu {t:List au} (h:iO t) {r:au} (hr:r∈t):0≤r.rev∧r.rev≤bZ∧r.value.size≤200:=by
 have:=h.at hr;exact⟨this.2.2.2.1.1,this.2.2.2.1.2,this.2.2.1⟩
theorem ag0 {t:List au} (h:iO t) {k:Option Nat} (hk:∀i,k=some i→i<t.length) (o:aX):iT (bM t k o).2:=by
 unfold bM
 cases k with
 |none=>
  simp only;split
  ·exact KE (by omega)
  ·exact Nw (by omega) ⟨by omega,by unfold bZ;omega⟩
 |some i=>
  simp only;split
  ·exact KE (by omega)
  ·rename_i hm;have:=abu h (sK (hk i rfl));exact Nw (by omega) ⟨by omega,by omega⟩
theorem as5 {t:List au} (h:iO t) (o:aX):iT (⟨0,0,ByteArray.empty,jh t o⟩:dx):=by
 refine⟨fun k hk=>?_,⟨by show(0:Int)≤0;omega,by show(0:Int)≤bZ;unfold bZ;omega⟩,by show ByteArray.empty.size≤200;decide,?_,⟨by show(0:Int)≤0;omega,by show(0:Int)≤255;omega⟩⟩
 ·have hk2:k∈jh t o:=hk;unfold jh at hk2;obtain⟨r,hr,rfl⟩:=List.mem_map.1 hk2;have hm:=List.mem_of_mem_take hr;exact(h.at (List.mem_filter.1 hm).1).2.1.2
 ·show(jh t o).length≤5;unfold jh;rw[List.length_map,List.length_take];omega
theorem Qo {t:List au} (h:iO t) (o:aX):iT (bO t o).2:=by
 have hi:∀i,jS t o.key=some i→i<t.length:=fun i e=>(Ro e).1;unfold bO;split
 ·exact KE (by omega)
 ·split
  ·exact as5 h o
  ·split
   ·exact ag0 h hi o
   ·split
    ·split
     ·refine Nw (by omega) ?_;unfold FZ;split
      ·exact⟨by omega,by unfold bZ;omega⟩
      ·rename_i e;have:=abu h (sK (hi _ e));exact⟨this.1,this.2.1⟩
     ·exact ag0 h hi o
    ·split
     ·exact KE (by omega)
     ·rename_i e;have:=abu h (sK (hi _ e));split
      ·exact⟨fun k h=>(by cases h),⟨this.1,this.2.1⟩,this.2.2,by show 0≤5;omega,⟨by show(0:Int)≤0;omega,by show(0:Int)≤255;omega⟩⟩
      ·split
       ·exact Nw (by omega) ⟨this.1,this.2.1⟩
       ·split
        ·exact KE (by omega)
        ·rename_i hm;exact Nw (by omega) ⟨by omega,by omega⟩
theorem ap6 {l:List aF} {c i:Int} {r:dx} (h:(fV l c i r).2=0) (hr:j4 l) (hg:iN c i):j4 (fV l c i r).1:=by
 unfold fV at h ⊢;split at h
 ·cases h
 ·rename_i h1;split at h
  ·cases h
  ·rename_i h2;split at h
   ·cases h
   ·rename_i h3;rw[if_neg h1,if_neg h2,if_neg h3];have hm:iT r:=Classical.byContradiction fun e=>h1 (.inr (.inr e));refine⟨fun d hd=>?_,Vx c i r hr.2.1,by show(mY l c i r).length≤8;omega⟩;rcases K7.1 hd with rfl|hd
    ·exact⟨hm,hg⟩
    ·exact hr.1 d hd.1
theorem Ob {v:Int} {s:ShR} {c:iM} (h:iE v s c=0):fq s∧(v=1∨v=2)∧iN c.client c.id∧c.fZ=s.id∧c.epoch=s.epoch∧dY v c.op=0:=by
 unfold iE at h;split at h
 ·cases h
 ·rename_i h1;obtain⟨a,b,d⟩:=Classical.not_not.1 h1;split at h
  ·cases h
  ·rename_i h2;split at h
   ·cases h
   ·rename_i h3;exact⟨a,b,d,Classical.not_not.1 h2,Classical.not_not.1 h3,h⟩
theorem WE {v:Int} {s:ShR} {c:iM} (h:fq s) (hv:v=1∨v=2) (hg:iN c.client c.id) (h1:c.fZ=s.id) (h2:c.epoch=s.epoch):iE v s c=dY v c.op:=by
 unfold iE;rw[if_neg (fun hn=>hn ⟨h,hv,hg⟩),if_neg (fun hn=>hn h1),if_neg (fun hn=>hn h2)]
theorem Mx {v:Int} {s:ShR} {c:iM} (h:iE v s c≠0):eD v s c=(s,gK (iE v s c),false):=by unfold eD;rw[if_pos h]
theorem Qa {v:Int} {s:ShR} {c:iM} (h:iE v s c=0) (hw:gL c.op=false):eD v s c=(s,(bO s.table c.op).2,false):=by unfold eD;rw[if_neg (by omega),if_pos hw]
theorem Zq {v:Int} {s:ShR} {c:iM} (h:iE v s c=0) (hw:gL c.op=true) {r:dx} (hl:dJ s.cache c.client c.id=(r,0)):eD v s c=(s,r,false):=by
 unfold eD;rw[if_neg (by omega),if_neg (by rw[hw];simp),hl,if_pos rfl]
theorem al9 {v:Int} {s:ShR} {c:iM} (h:iE v s c=0) (hw:gL c.op=true) (hl:(dJ s.cache c.client c.id).2=81):eD v s c=(s,gK 81,false):=by
 unfold eD;rw[if_neg (by omega),if_neg (by rw[hw];simp),hl,if_neg (by omega),if_pos (by omega)]
theorem ad8 {v:Int} {s:ShR} {c:iM} (h:iE v s c=0) (hw:gL c.op=true) (hl:(dJ s.cache c.client c.id).2=70) (hf:s.frozen=true):eD v s c=(s,gK 82,false):=by
 unfold eD;rw[if_neg (by omega),if_neg (by rw[hw];simp),hl,if_neg (by omega),if_neg (by omega),if_pos hf]
theorem Zo {v:Int} {s:ShR} {c:iM} (h:iE v s c=0) (hw:gL c.op=true) (hl:∀d,jF s.cache c.client=some d→d.id<c.id) (hf:s.frozen=false):
  (s.cache.length=8∧jF s.cache c.client=none∧eD v s c=(s,gK 50,false))∨
  ∃u,(s.cache.length≤7∨jF s.cache c.client≠none)∧aci s.cache u c.client c.id (bO s.table c.op).2∧eD v s c=({ s with table:=(bO s.table c.op).1,cache:=u },(bO s.table c.op).2,true):=by
 obtain⟨⟨ht,hd,_⟩,_,hg,_⟩:=Ob h;have hm:=Qo ht c.op;have zW:(dJ s.cache c.client c.id).2=70:=by
  rw[Ja hd hg];unfold wP
  cases e:jF s.cache c.client with
  |none=>rfl
  |some d=>simp only;rw[if_pos (hl d e)]
 have hb:eD v s c=if(fV s.cache c.client c.id (bO s.table c.op).2).2≠0 then(s,gK (fV s.cache c.client c.id (bO s.table c.op).2).2,false)
   else({ s with table:=(bO s.table c.op).1,cache:=(fV s.cache c.client c.id (bO s.table c.op).2).1 },(bO s.table c.op).2,true):=by
  unfold eD;rw[if_neg (by omega),if_neg (by rw[hw];simp),zW,if_neg (by omega),if_neg (by omega),if_neg (by rw[hf];simp)]
 rcases ap_ hd hg hm hl with⟨h1,h2,h3⟩|⟨h1,h2,h3⟩
 ·left;refine⟨h1,h2,?_⟩;rw[hb,h3,if_pos (by omega)]
 ·right;refine⟨_,h1,h3,?_⟩;rw[hb,if_neg (by omega)]
theorem Zp {v:Int} {s:ShR} {c:iM} (h:fq s):fq (eD v s c).1:=by
 unfold eD;split
 ·exact h
 ·rename_i hw0;obtain⟨_,_,hg,_⟩:=Ob (Classical.not_not.1 hw0);split
  ·exact h
  ·split
   ·exact h
   ·split
    ·exact h
    ·split
     ·exact h
     ·split
      ·exact h
      ·rename_i hk;exact⟨ZY h.1 _,ap6 (Classical.not_not.1 hk) h.2.1 hg,h.2.2⟩
theorem ad_ {v:Int} {s:ShR} {c:iM}:(eD v s c).1.id=s.id∧(eD v s c).1.epoch=s.epoch∧(eD v s c).1.frozen=s.frozen:=by
 unfold eD
 repeat' split
 all_goals exact⟨rfl,rfl,rfl⟩
theorem ad9 {v:Int} {s:ShR} {c:iM} {b:Int} (h:∀d∈s.cache,d.id≤b) (hc:c.id≤b):∀d∈(eD v s c).1.cache,d.id≤b:=by
  unfold eD
  repeat' split
  all_goals first
    |exact h
    |(
     intro d hd;simp only at hd;unfold fV at hd;split at hd
     · cases hd
     · split at hd
       · cases hd
       · split at hd
         · cases hd
         · rcases K7.1 hd with rfl|h2
           · exact hc
           · exact h d h2.1)
theorem tu {x:Int} (h:x≤bZ):(jH x).length≤8:=by
 unfold jH bZ at*;exact BN (by omega)
theorem KF {α:Type} (f:α→List UInt8) {b:Nat}:∀{l:List α},(∀x∈l,(f x).length≤b)→(l.flatMap f).length≤l.length*b
 |[],_=>by simp
 |x::l,h=>by
  rw[List.flatMap_cons,List.length_append,List.length_cons];have h1:=h x (List.mem_cons_self ..);have h2:=KF f (fun y hy=>h y (List.mem_cons_of_mem _ hy));have:(l.length+1)*b=l.length*b+b:=by rw[Nat.add_mul,Nat.one_mul]
  omega
theorem abX {l:List UInt8} (h:l.length≤10000):(pW l).length≤10008:=by
 unfold pW;rw[List.length_append];have:=BN (n:=l.length) (by omega);omega
theorem aa5 {k:ByteArray} (h:k.size≤200):(mW k).length≤10008:=abX (by rw[Fy];omega)
theorem aeY {d:aF} (h:Jz d):(l9 d).length≤100000:=by
 obtain⟨⟨d1,⟨d2,d3⟩,d4,d5,d6⟩,⟨d7,d8⟩,d9,Qm⟩:=h;unfold l9;simp only[List.length_append];have mx:bZ=9007199254740992:=rfl;have h1:=tu (x:=d.client) (by omega);have h2:=tu Qm;have h3:=tu (x:=d.rep.errno) (by omega);have h4:=tu d3;have h5:=aa5 d4;have h6:=BN (n:=d.rep.keys.length) (by omega);have h7:=KF mW (l:=d.rep.keys) (b:=10008) (fun k hk=>aa5 (by have:=d1 k hk;omega));have h8:d.rep.keys.length*10008≤5*10008:=Nat.mul_le_mul_right _ d5;omega
theorem UF {v:Int} {s:ShR} {b:List UInt8} (h:encS v s=(b,0)):b.length≤2000000:=by
 obtain⟨⟨t1,t2,⟨t3,t4⟩,t5,t6⟩,hv,hl,rfl⟩:=Il h;unfold l8;simp only[List.length_append,List.length_cons];have mx:bZ=9007199254740992:=rfl;have h0:(oC v (mo v::(jH s.id++(jH s.epoch++(vb (if s.frozen=true then 1 else 0)++(vb s.table.length++(vb s.cache.length++(s.table.flatMap (oz v)++s.cache.flatMap l9)))))))).length≤4:=by
  unfold oC;split
  ·exact Nat.le_refl _
  ·simp
 have h1:=tu (x:=s.id) (by omega);have h2:=tu t6;have h3:=BN (n:=if s.frozen=true then 1 else 0) (by split<;>omega);have h4:=BN (n:=s.table.length) (by have:=t1.2.2;omega);have h5:=BN (n:=s.cache.length) (by have:=t2.2.2;omega);have h6:=KF (oz v) (l:=s.table) (b:=10008) (fun r hr=>abX (VE hv ⟨t1.1 r hr,Classical.byContradiction fun e=>hl ⟨r,hr,e⟩⟩));have h7:=KF l9 (l:=s.cache) (b:=100000) (fun d hd=>aeY (t2.1 d hd));have h8:s.table.length*10008≤20*10008:=Nat.mul_le_mul_right _ t1.2.2;have h9:s.cache.length*100000≤8*100000:=Nat.mul_le_mul_right _ t2.2.2;omega
theorem atB {v:Int} (hv:v=1∨v=2) {r:au} (h:eP 2 r=true) (he:r.extra.length≤4):(nH v r).2=0:=by
 have hf:=aoN r;have:=atF (qV.1 h) (by omega);rw[RX hv h,VB h,if_pos this]
theorem UG {v:Int} (hv:v=1∨v=2) {s:ShR} (h:fq s) (he:∀r∈s.table,r.extra.length≤4):∃b,encS v s=(b,0):=by
 have hl:¬zJ v s.table:=fun⟨r,hr,hn⟩=>hn (atB hv (h.1.1 r hr) (he r hr));unfold encS;rw[if_neg (fun hn=>hn ⟨h,hv⟩),if_neg hl];exact⟨_,rfl⟩
def xE:aX:=⟨2,⟨#[97]⟩,⟨#[120]⟩,0,⟨#[]⟩,0,⟨#[]⟩⟩
def Bt (ep:Int):iM:=⟨2,ep,1,1,xE⟩
def MB:ShR:=⟨2,3,false,[],[]⟩
def zQ:dx:=⟨0,1,ByteArray.empty,[]⟩
def sM:ShR:=⟨2,3,false,[newR xE],[⟨1,1,zQ⟩]⟩
theorem aec {v:Int} (hv:v=1∨v=2):dY v xE=0:=by
 have e1:xE.kind=2:=rfl;have e2:xE.key.size=1:=rfl;have e3:xE.value.size=1:=rfl;have e4:xE.rev=0:=rfl;have e5:xE.upto.size=0:=rfl;have e6:xE.life=0:=rfl;have e7:xE.note.size=0:=rfl;unfold dY;rw[if_neg,if_neg (by omega)];unfold qY bZ;intro h;rcases h with h|h|h|h|h|h|h|h|h|h|h|h
 ·exact h hv
 all_goals omega
theorem aed:bO [] xE=([newR xE],zQ):=by
 unfold bO;rw[if_neg (fun hn=>hn ⟨RZ,aec (.inr rfl)⟩),if_neg (by show ¬(2:Int)=6;omega),if_pos (show xE.kind=2 from rfl)];rfl
theorem MC:iN 1 1:=⟨⟨by omega,by omega⟩,by omega,by unfold bZ;omega⟩
theorem Zv:fq MB:=⟨RZ,Nz,⟨by show(0:Int)≤2;omega,by show(2:Int)≤7;omega⟩,by show(1:Int)≤3;omega,by show(3:Int)≤bZ;unfold bZ;omega⟩
theorem aee:iT zQ:=Nw (by omega) ⟨by omega,by unfold bZ;omega⟩
theorem yN:fq sM:=by
 have h1:=ZY RZ xE;rw[aed]at h1;refine⟨h1,⟨fun d hd=>?_,List.pairwise_singleton _ _,by simp[sM]⟩,Zv.2.2⟩;rw[List.mem_singleton.1 hd];exact⟨aee,MC⟩
theorem aef {ep:Int} {s:ShR} (hs:fq s) (h2:s.id=2) (h3:s.epoch=ep):iE 1 s (Bt ep)=0:=by
 rw[WE (c:=Bt ep) hs (.inl rfl) MC h2.symm h3.symm];exact aec (.inl rfl)
theorem amf:fV [] 1 1 zQ=([⟨1,1,zQ⟩],0):=by
 have h:dJ [] 1 1=(lK,70):=by rw[Ja Nz MC];rfl
 unfold fV;rw[h,if_neg (by rintro(e|e|e);cases e;cases e;exact e aee),if_neg (by decide)];rfl
theorem amb:eD 1 MB (Bt 3)=(sM,zQ,true):=by
 have hw:=aef Zv rfl (ep:=3) rfl;have hl:dJ MB.cache (Bt 3).client (Bt 3).id=(lK,70):=by
  show dJ [] 1 1=_;rw[Ja Nz MC];rfl
 have hd:bO MB.table (Bt 3).op=([newR xE],zQ):=aed;unfold eD;rw[if_neg (by omega),if_neg (by decide),hl,if_neg (by simp),if_neg (by simp),if_neg (by decide),hd];have hk:fV MB.cache (Bt 3).client (Bt 3).id zQ=([⟨1,1,zQ⟩],0):=amf;simp only;rw[hk,if_neg (by simp)];rfl
theorem amg:dJ sM.cache 1 1=(zQ,0):=by
 have hr:j4 [⟨1,1,zQ⟩]:=yN.2.1;show dJ [⟨1,1,zQ⟩] 1 1=_;rw[Ja hr MC];rfl
theorem amc:eD 1 sM (Bt 3)=(sM,zQ,false):=Zq (aef yN rfl rfl) (by decide) amg
theorem amd:eD 1 sM (Bt 4)=(sM,gK 80,false):=by
 have hw:iE 1 sM (Bt 4)=80:=by
  unfold iE;rw[if_neg (fun hn=>hn ⟨yN,.inl rfl,MC⟩),if_neg (fun h=>h rfl),if_pos (by decide)]
 rw[Mx (by omega),hw]
theorem ame:∃b,encS 2 sM=(b,0):=UG (.inr rfl) yN (fun r hr=>by rw[List.mem_singleton.1 hr];decide)
theorem amh:¬fq nV:=fun h=>by have:=h.2.2.2.1;simp[nV]at this
theorem ami:wO sM nV=false:=by rw[Bool.eq_false_iff];exact fun e=>by have:=congrArg ShR.id (NJ.1 e);simp[sM,nV]at this
end Go.Proofs.YtodaapcohdpenaaGreat
