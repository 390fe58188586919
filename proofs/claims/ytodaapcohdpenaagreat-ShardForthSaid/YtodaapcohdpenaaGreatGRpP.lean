-- eB
import Derived.Test.YtodaapcohdpenaaGreatGSq
import Derived.Test.YtodaapcohdpenaaGreatGRp
import Derived.Deep.LoopGhost
import Derived.Lib.SliceRun
import Derived.Lib.Overlaps
import Derived.Lib.AppendZerosOnto
import Derived.Laws.IdiomCopy
set_option linter.unusedSimpArgs false
set_option linter.unusedVariables false
set_option maxHeartbeats 8000000
set_option maxRecDepth 100000
namespace Go.Proofs.YtodaapcohdpenaaGreat
open Go.RowKit
def oG (n a b:Int):Bool:=decide (a≤n∧n≤b)
theorem WC (n a b:Int) (w:World):Calls Tryz.prog 119 #[.int .i64 n,.int .i64 a,.int .i64 b] w fun e w'=>e= .returned (.bool (oG n a b))∧w=w':=by
 by_cases h1:a≤n
 ·by_cases h2:n≤b
  ·have HB:Hid (oG n a b=true):=by show oG n a b=true;unfold oG;simp;omega
   go_enter Tryz.func119,Tryz.ntmps119;go_wp2;go_ret;exact⟨bC (by rw[HB.out]),rfl⟩
  ·have HB:Hid (oG n a b=false):=by show oG n a b=false;unfold oG;simp;omega
   go_enter Tryz.func119,Tryz.ntmps119;go_wp2;go_ret;exact⟨bC (by rw[HB.out]),rfl⟩
 ·have HB:Hid (oG n a b=false):=by show oG n a b=false;unfold oG;simp;omega
  go_enter Tryz.func119,Tryz.ntmps119;go_wp2;go_ret;exact⟨bC (by rw[HB.out]),rfl⟩
def Al (k:ByteArray):Bool:=decide (¬k.size≤16)
theorem aus (k:ByteArray) (w:World):Calls Tryz.prog 166 #[.string k] w fun e w'=>e= .returned (.bool (Al k))∧w=w':=by
 by_cases h:(k.size:Int)≤16
 ·have HB:Hid (Al k=false):=by show Al k=false;exact decide_eq_false (by omega)
  go_enter Tryz.func166,Tryz.ntmps166;go_wp2;go_ret;exact⟨bC (by rw[HB.out];exact decide_eq_false (by omega)),rfl⟩
 ·have HB:Hid (Al k=true):=by show Al k=true;exact decide_eq_true (by omega)
  go_enter Tryz.func166,Tryz.ntmps166;go_wp2;go_ret;exact⟨bC (by rw[HB.out]),rfl⟩
def FE (c i:Int):Bool:=decide (iN c i)
theorem apa {c i:Int}:FE c i=true↔iN c i:=by unfold FE;simp
theorem agH (c i:Int) (w:World):Calls Tryz.prog 71 #[.int .i64 c,.int .i64 i] w fun e w'=>e= .returned (.bool (FE c i))∧w=w':=by
 have q1:=fun W=>WC c 1 1000 W;have q2:=fun W=>WC i 1 9007199254740992 W;have HB:Hid (FE c i=(oG c 1 1000&&oG i 1 9007199254740992)):=by
  show _=_;rw[Bool.eq_iff_iff,apa];unfold oG iN bZ;simp
 generalize FE c i=g at*;generalize oG c 1 1000=u at*;generalize oG i 1 9007199254740992=v at*
 cases u with
 |false=>
  go_enter Tryz.func71,Tryz.ntmps71;go_wp2_with fail
  ((with_reducible refine(q1 _).mono ?_);rintro e W1 ⟨rfl,rfl⟩)
  go_wp2_with fail;go_ret;exact⟨bC (by rw[HB.out];rfl),rfl⟩
 |true=>
  go_enter Tryz.func71,Tryz.ntmps71;go_wp2_with fail
  ((with_reducible refine(q1 _).mono ?_);rintro e W1 ⟨rfl,rfl⟩)
  go_wp2_with fail
  ((with_reducible refine(q2 _).mono ?_);rintro e W1 ⟨rfl,rfl⟩)
  go_wp2_with fail;go_ret;exact⟨bC (by rw[HB.out];rfl),rfl⟩
theorem agl (a:Int) (w:World):Calls Tryz.prog 177 #[.int .i64 a] w fun e w'=>e= .returned (.bool false)∧w=w':=by
 have e1:(a != a)=false:=by simp
 go_enter Tryz.func177,Tryz.ntmps177;go_wp2_with fail;go_ret;exact⟨rfl,rfl⟩
def wH (a b:Int):Int:=if a<b then -1 else if b<a then 1 else 0
theorem anA {a b:Int} (h:a<b):wH a b= -1:=if_pos h
theorem anz {a b:Int} (h:¬a<b):0≤wH a b:=by unfold wH;rw[if_neg h];split<;>decide
theorem aeI {a b:Int}:wH a b=0↔a=b:=by
 unfold wH;constructor
 ·intro h;split at h
  ·cases h
  ·split at h
   ·cases h
   ·omega
 ·intro h;subst h;simp
theorem anD (a b:Int) (w:World):Calls Tryz.prog 136 #[.int .i64 a,.int .i64 b] w fun e w'=>e= .returned (.int .i64 (wH a b))∧w=w':=by
 have q1:=fun W=>agl a W;have q2:=fun W=>agl b W;rcases(by omega:a<b∨(¬a<b∧b<a)∨(¬a<b∧¬b<a))with h|⟨h,h2⟩|⟨h,h2⟩
 all_goals
  have HB:Hid (wH a b=wH a b):=rfl;obtain⟨z,hz⟩:∃z,wH a b=z:=⟨_,rfl⟩;have HZ:Hid (∀v,wH a b=v→v=z):=fun v e=>e.symm.trans hz;have hv:=hz;unfold wH at hv;simp[*]at hv;rw[hz];have HV:=ah hv;clear hv hz HB HZ;go_enter Tryz.func136,Tryz.ntmps136;go_wp2_with fail
  ((with_reducible refine(q1 _).mono ?_);rintro e W1 ⟨rfl,rfl⟩)
  go_wp2_with fail
  ((with_reducible refine(q2 _).mono ?_);rintro e W1 ⟨rfl,rfl⟩)
  go_wp2_with fail;go_ret;exact⟨by rw[←HV.out];rfl,rfl⟩
theorem aff (d:aF) (x:Value) (c:Int) (w:World):Calls Tryz.prog 135 #[.agg (aD d x),.int .i64 c] w fun e w'=>e= .returned (.int .i64 (wH d.client c))∧Below w.heap.size w w':=by
 have hbw:Below w.heap.size w (w.alloc (.cells (aD d x) 90)):=ak _ _;have q:=fun W=>anD d.client c W;generalize wH d.client c=z at*;go_enter Tryz.func135,Tryz.ntmps135;go_wp2_with fail
 ((with_reducible refine(q _).mono ?_);rintro e W1 ⟨rfl,rfl⟩)
 go_wp2_with fail;go_ret;exact⟨rfl,hbw⟩
end Go.Proofs.YtodaapcohdpenaaGreat
namespace Go.Proofs.YtodaapcohdpenaaGreat
open Go.RowKit Go.Lib
theorem Jm {P:Program} {f:FuncId} {fn:Func} (hf:P.funcs[f]? =some fn) (hname:(fn.name== "runtime.NumGoroutine")=false) (hb:fn.body.isNone=false) (args:Array Value) (w:World):
  (callFunc f args).run P w= .ok (.enter f args) w:=by
 have h1:fn.name≠ "runtime.NumGoroutine" :=by simpa using hname
 have h2:fn.body≠none:=by intro h;rw[h]at hb;cases hb
 simp[callFunc,hf,h1,h2]
theorem ang (args:Array Value) (w:World):(callFunc 135 args).run Tryz.prog w= .ok (.enter 135 args) w:=Jm Tryz.func135 (by kernel_rfl) (by kernel_rfl) args w
def H7 (l:List aF) (c:Int) (i:Nat) (th:Bool):Prop:=
 i≤l.length∧(∀j,j<i→(bg l j).client<c)∧(∀j,i≤j→j<l.length→¬(bg l j).client<c)∧th=decide (i<l.length∧(bg l i).client=c)
def acj (w:World) (l:List aF) (c:Int) (e:Ending) (w':World):Prop:=(∃(i:Nat) (th:Bool),H7 l c i th∧e= .returned (.tuple #[.int .i64 i,.bool th]))∧Below w.heap.size w w'
theorem agV {l:List aF} {c:Int} {i:Nat} (hr:lF l) (h:H7 l c i true):i<l.length∧jF l c=some (bg l i):=by
 obtain⟨_,h1,_,h3⟩:=h;have h4:=of_decide_eq_true h3.symm;exact⟨h4.1,(Vi hr).2 ⟨yL h4.1,h4.2⟩⟩
theorem abk {l:List aF} {c:Int} {i:Nat} (hr:lF l) (h:H7 l c i false):jF l c=none:=by
 obtain⟨_,h1,h2,h3⟩:=h;have h4:=of_decide_eq_false h3.symm;refine KY.2 fun d hd e=>?_;obtain⟨j,hj,rfl⟩:=List.getElem_of_mem hd;rw[←lZ hj]at e;rcases Nat.lt_or_ge j i with h5|h5
 ·have:=h1 j h5;omega
 ·rcases Nat.lt_or_eq_of_le h5 with h6|rfl
  ·have a1:=Ey hr h6 hj;have a2:=h2 i (Nat.le_refl _) (by omega);omega
  ·exact h4 ⟨hj,e⟩
theorem agU {l:List aF} {d:aF} {i:Nat} (h1:i≤l.length) (h2:∀j,j<i→(bg l j).client<d.client) (h3:∀j,i≤j→j<l.length→¬(bg l j).client<d.client) (hn:∀x∈l,x.client≠d.client):
    pQ l d=l.take i++d::l.drop i:=by
  induction l generalizing i with
  |nil=>
   have:i=0:=by simpa using h1
   subst this;rfl
  |cons x l ih=>
    cases i with
    |zero=>
      have h:=h3 0 (Nat.le_refl _) (by simp);rw[show bg (x::l) 0=x from rfl]at h;have h4:=hn x (List.mem_cons_self ..);unfold pQ;rw[if_pos (by omega)];rfl
    |succ i=>
      have h:=h2 0 (by omega);rw[show bg (x::l) 0=x from rfl]at h;unfold pQ;rw[if_neg (by omega)];rw[ih (i:=i) (by simpa using h1) (fun j hj=>h2 (j+1) (by omega)) (fun j hj hl=>h3 (j+1) (by omega) (by simpa using hl)) (fun y hy=>hn y (List.mem_cons_of_mem _ hy))];rfl
theorem ahk {l:List aF} {c:Int} {i:Nat} (hr:lF l) (hi:i<l.length) (hc:(bg l i).client=c):jT l c=l.take i++l.drop (i+1):=by
 have e:l=l.take i++(bg l i::l.drop (i+1)):=by rw[lZ hi,List.getElem_cons_drop,List.take_append_drop]
 have hL:l.take i=jT (l.take i) c:=by
  symm;refine List.filter_eq_self.2 fun d hd=>?_;obtain⟨j,hj,rfl⟩:=List.getElem_of_mem hd;rw[List.length_take]at hj;have:=Ey hr (i:=j) (j:=i) (by omega) hi;rw[lZ (by omega)]at this;rw[List.getElem_take];simp;omega
 have hR:l.drop (i+1)=jT (l.drop (i+1)) c:=by
  symm;refine List.filter_eq_self.2 fun d hd=>?_;obtain⟨j,hj,rfl⟩:=List.getElem_of_mem hd;rw[List.length_drop]at hj;have:=Ey hr (i:=i) (j:=i+1+j) (by omega) (by omega);rw[lZ (i:=i+1+j) (by omega)]at this;rw[List.getElem_drop];simp;omega
 have hx:jT l c=jT (l.take i) c++jT (l.drop (i+1)) c:=by
  have h2:jT l c=jT (l.take i++(bg l i::l.drop (i+1))) c:=by rw[←e]
  rw[h2];unfold jT;rw[List.filter_append,List.filter_cons_of_neg (by simpa using hc)]
 rw[hx,←hL,←hR]
theorem arJ {l:List aF} {c i:Int} {r:dx} {p:Nat} (hr:lF l) (h:H7 l c p true):mY l c i r=l.set p ⟨c,i,r⟩:=by
 obtain⟨_,h1,_,h3⟩:=h;have h4:=of_decide_eq_true h3.symm;have hl:(l.take p).length=p:=by rw[List.length_take];omega
 have hat:∀j,j<p→bg (l.take p++l.drop (p+1)) j=bg l j:=fun j hj=>by
  rw[lZ (by rw[List.length_append,hl];omega),List.getElem_append_left (by rw[hl];omega),List.getElem_take,lZ (by omega)]
 have CY:∀j,p≤j→j<(l.take p++l.drop (p+1)).length→bg (l.take p++l.drop (p+1)) j=bg l (j+1):=fun j hj hjl=>by
  rw[List.length_append,hl,List.length_drop]at hjl;rw[lZ (by rw[List.length_append,hl,List.length_drop];omega),List.getElem_append_right (by rw[hl];omega),List.getElem_drop,lZ (by omega)];congr 1;omega
 unfold mY;rw[ahk hr h4.1 h4.2];rw[agU (i:=p) (by rw[List.length_append,hl];omega) (fun j hj=>by rw[hat j hj];exact h1 j hj) (fun j hj hjl=>by
  have apB:=hjl;rw[List.length_append,hl,List.length_drop]at apB;rw[CY j hj hjl];have:=Ey hr (i:=p) (j:=j+1) (by omega) (by omega);show ¬_<c;omega) (fun x hx e=>by
  rw[←ahk hr h4.1 h4.2]at hx;exact(abq.1 hx).2 e)]
 rw[List.take_left' hl,List.drop_left' hl,List.set_eq_take_append_cons_drop,if_pos h4.1]
theorem arI {l:List aF} {c i:Int} {r:dx} {p:Nat} (hr:lF l) (h:H7 l c p false):mY l c i r=l.take p++⟨c,i,r⟩::l.drop p:=by
 have hn:=abk hr h;obtain⟨h0,h1,h2,_⟩:=h;unfold mY;rw[abr hn];exact agU h0 h1 h2 (fun x hx e=>KY.1 hn x hx e)
theorem as7 (A:Option Addr) (n cap:Nat) (l:List aF) (c:Int) (w:World) (h:jr w A n l) (hr:lF l) (h20:n≤8):
  Calls Tryz.prog 134 #[.slice A n cap,.int .i64 c,.func (.func 135) #[] #[]] w (acj w l c):=by
 have HN:Hid (n=l.length):=h.1;have HT:=ah h;clear h;have S:Hid (∀a b,a≤b→b<n→(bg l b).client<c→(bg l a).client<c):=fun a b h1 h2 h3=>by
  rcases Nat.lt_or_eq_of_le h1 with h4|rfl
  ·have:=Ey hr h4 (by have:=HN.out;omega);omega
  ·exact h3
 have cf:=ang;clear hr;go_enter Tryz.func134,Tryz.ntmps134;go_wp2_with fail
 go_loopg [9,10] n (fun g s7 s8 wr=>∃lo hi:Nat,s7= .int .i64 lo∧s8= .int .i64 hi∧lo≤hi∧hi≤n∧hi-lo≤g∧Below w.heap.size w wr∧(∀j,j<lo→(bg l j).client<c)∧(∀j,hi≤j→j<n→¬(bg l j).client<c))
 case atStart=>exact⟨0,n,rfl,rfl,Nat.zero_le _,Nat.le_refl _,by omega,Below.refl _ _,fun j hj=>absurd hj (Nat.not_lt_zero _),fun j h1 h2=>by omega⟩
 case round=>
  obtain⟨lo,hi,rfl,rfl,hlh,hin,hg,hb,h1,h2⟩:=hrel;have I:Hid ((∀j,j<lo→(bg l j).client<c)∧(∀j,hi≤j→j<n→¬(bg l j).client<c)):=⟨h1,h2⟩;clear h1 h2;have HB:=ah hb;clear hb
  by_cases hlt:lo<hi
  ·obtain⟨b,off,hA,_⟩:=HT.out.block (by omega);subst hA;obtain⟨E,m,cc,hx,_,_⟩:=HT.out.at (i:=(lo+hi) / 2) (by have:=HN.out;omega) HB.out;have q:=fun W=>aff (bg l ((lo+hi) / 2)) (.slice E m cc) c W;obtain⟨x0,x1,x2,x3,x4,x5⟩:=hx
   by_cases hl:(bg l ((lo+hi) / 2)).client<c
   ·rw[anA hl]at q;have dK:Hid (∀j,j<(lo+hi) / 2+1→(bg l j).client<c):=fun j hj=>S.out j _ (by omega) (by omega) hl;clear hl;generalize bg l ((lo+hi) / 2)=r at*;go_wp2_with fail
    ((with_reducible refine(q _).mono ?_);rintro e W1 ⟨rfl,b1⟩)
    have HB1:=ah (aA HB.out b1);clear b1 x0 x1 x2 x3 x4 x5 q;go_wp2_with fail
    go_roundg (hi-((lo+hi) / 2+1))
    case measure=>omega
    case rel=>exact⟨(lo+hi) / 2+1,hi,by rw[show((lo:Int)+(hi:Int)) / 2+1=(((lo+hi) / 2+1:Nat):Int) by omega],rfl,by omega,hin,Nat.le_refl _,HB1.out,dK.out,I.out.2⟩
   ·have hc:=anz hl;have dK:Hid (∀j,(lo+hi) / 2≤j→j<n→¬(bg l j).client<c):=fun j hj hjn e=>hl (S.out _ j hj hjn e);clear hl;generalize wH (bg l ((lo+hi) / 2)).client c=z at*;generalize bg l ((lo+hi) / 2)=r at*;have hz:¬z<0:=by omega
    clear hc;go_wp2_with fail
    ((with_reducible refine(q _).mono ?_);rintro e W1 ⟨rfl,b1⟩)
    have HB1:=ah (aA HB.out b1);clear b1 x0 x1 x2 x3 x4 x5 q;go_wp2_with fail
    go_roundg ((lo+hi) / 2-lo)
    case measure=>omega
    case rel=>exact⟨lo,(lo+hi) / 2,rfl,by rw[show((lo:Int)+(hi:Int)) / 2=(((lo+hi) / 2:Nat):Int) by omega],by omega,by omega,Nat.le_refl _,HB1.out,I.out.1,dK.out⟩
  ·have:hi=lo:=by omega
   subst this;clear hlh hlt hg
   by_cases hn2:hi<n
   ·obtain⟨b,off,hA,_⟩:=HT.out.block (by omega);subst hA;obtain⟨E,m,cc,hx,_,_⟩:=HT.out.at (i:=hi) (by have:=HN.out;omega) HB.out;have q:=fun W=>aff (bg l (hi)) (.slice E m cc) c W;have hnl:hi<l.length:=by have:=HN.out;omega
    obtain⟨x0,x1,x2,x3,x4,x5⟩:=hx
    by_cases he:(bg l hi).client=c
    ·have HP:Hid (H7 l c hi true):=⟨by omega,I.out.1,fun j h1 h2=>I.out.2 j h1 (by have:=HN.out;omega),(decide_eq_true ⟨hnl,he⟩).symm⟩;rw[aeI.2 he]at q;clear he hnl;generalize bg l hi=r at*;go_wp2_with fail
     ((with_reducible refine(q _).mono ?_);rintro e W1 ⟨rfl,b1⟩)
     have HB1:=ah (aA HB.out b1);clear b1 x0 x1 x2 x3 x4 x5 q;go_wp2_with fail;go_ret2;exact⟨⟨hi,true,HP.out,rfl⟩,by first|exact HB1.out|exact HB1.out.drew|exact jL HB1.out _⟩
    ·have HP:Hid (H7 l c hi false):=⟨by omega,I.out.1,fun j h1 h2=>I.out.2 j h1 (by have:=HN.out;omega),(decide_eq_false fun h=>he h.2).symm⟩;have hz:(wH (bg l hi).client c==0)=false:=by rw[beq_eq_false_iff_ne];exact fun e=>he (aeI.1 e)
     generalize wH (bg l hi).client c=z at*;clear he hnl;generalize bg l hi=r at*;go_wp2_with fail
     ((with_reducible refine(q _).mono ?_);rintro e W1 ⟨rfl,b1⟩)
     have HB1:=ah (aA HB.out b1);clear b1 x0 x1 x2 x3 x4 x5 q;go_wp2_with fail;go_ret2;exact⟨⟨hi,false,HP.out,rfl⟩,by first|exact HB1.out|exact HB1.out.drew|exact jL HB1.out _⟩
   ·have HP:Hid (H7 l c hi false):=⟨by have:=HN.out;omega,I.out.1,fun j h1 h2=>I.out.2 j h1 (by have:=HN.out;omega),(decide_eq_false fun h=>hn2 (by have:=HN.out;have:=h.1;omega)).symm⟩;go_wp2_with fail;go_ret2;exact⟨⟨hi,false,HP.out,rfl⟩,by first|exact HB.out|exact HB.out.drew|exact jL HB.out _⟩
theorem afg (A:Option Addr) (n cap:Nat) (l:List aF) (c:Int) (w:World) (h:jr w A n l) (hr:lF l) (h20:n≤8):
  Calls Tryz.prog 85 #[.slice A n cap,.int .i64 c] w (acj w l c):=by
 have q:=as7 A n cap l c w h hr h20;clear h hr h20;go_enter Tryz.func85,Tryz.ntmps85;go_wp2_with fail
 ((with_reducible refine q.mono ?_);rintro e W1 ⟨⟨i,th,hp,rfl⟩,b1⟩)
 have HP:=ah hp;clear hp;have HB1:=ah b1;clear b1;go_wp2_with fail;go_ret2;exact⟨⟨i,th,HP.out,rfl⟩,by first|exact HB1.out|exact HB1.out.drew|exact jL HB1.out _⟩
end Go.Proofs.YtodaapcohdpenaaGreat
namespace Go.Proofs.YtodaapcohdpenaaGreat
open Go.RowKit
theorem dG.frozen {W:World} {base g n cap j:Nat} {l:List (aF×Value)} (h:dG W base (.slice (some ⟨g,0,none⟩) n cap) l):W.frozen? ⟨g,j,none⟩=false:=by
 rcases h.2 with⟨h1,_⟩|⟨g2,_,cur,h1,_,hh,_⟩
 ·simp at h1
 ·simp only[Value.slice.injEq,Option.some.injEq,Addr.mk.injEq,and_true,true_and]at h1;rw[h1.1];exact rF hh j
theorem dG.six {W:World} {base g n cap i:Nat} {l:List (aF×Value)} (h:dG W base (.slice (some ⟨g,0,none⟩) n cap) l) (hi:i<l.length):tT W g (i*6) (dV l i).1 (dV l i).2:=by
 obtain⟨A0,cap0,hv0,_,hps⟩:=h.parts;simp only[Value.slice.injEq]at hv0;obtain⟨rfl,_,_⟩:=hv0;have:=hps.at hi (Below.refl _ _);rw[Nat.zero_add]at this;exact this
theorem Qc {l:List (aF×Value)} {i:Nat} {q:aF×Value} (h:i<l.length):dV (l.set i q) i=q:=by
 rw[Br (by simpa using h),List.getElem_set_self]
theorem dG.qh {W:World} {base n cap i:Nat} {A:Option Addr} {l:List (aF×Value)} (h:dG W base (.slice A n cap) l) (hi:i<l.length):∃g,A=some ⟨g,0,none⟩∧base≤g:=by
 rcases h.2 with⟨h1,h2⟩|⟨g,_,_,h1,hb,_⟩
 ·omega
 ·simp only[Value.slice.injEq]at h1;exact⟨g,h1.1,hb⟩
theorem agE (l:List (aF×Value)) (i:Nat) (q:aF×Value):(l.set i q).map Prod.fst=(l.map Prod.fst).set i q.1:=List.map_set
def zk (W:World) (g i:Nat) (r:dx) (u:Value):World:=(((W.setCell ⟨g,i*6+2,none⟩ (.int .i64 r.errno)).setCell ⟨g,i*6+3,none⟩ (.int .i64 r.rev)).setCell ⟨g,i*6+4,none⟩ (.string r.value)).setCell ⟨g,i*6+5,none⟩ u
theorem dG.zk {W:World} {base g n cap i:Nat} {l:List (aF×Value)} (h:dG W base (.slice (some ⟨g,0,none⟩) n cap) l) (hi:i<l.length) (r:dx) (u:Value):
  dG (zk W g i r u) base (.slice (some ⟨g,0,none⟩) n cap) (l.set i (⟨(dV l i).1.client,(dV l i).1.id,r⟩,u)):=by
 have h1:=(dG.set h i 2 (.int .i64 r.errno) (⟨(dV l i).1.client,(dV l i).1.id,⟨r.errno,(dV l i).1.rep.rev,(dV l i).1.rep.value,r.keys⟩⟩,(dV l i).2) hi (by omega) rfl).1;have h2:=(dG.set h1 i 3 (.int .i64 r.rev) (⟨(dV l i).1.client,(dV l i).1.id,⟨r.errno,r.rev,(dV l i).1.rep.value,r.keys⟩⟩,(dV l i).2) (by rw[List.length_set];exact hi) (by omega) (by rw[Qc hi];rfl)).1;rw[List.set_set]at h2;have h3:=(dG.set h2 i 4 (.string r.value) (⟨(dV l i).1.client,(dV l i).1.id,r⟩,(dV l i).2) (by rw[List.length_set];exact hi) (by omega) (by rw[Qc hi];rfl)).1;rw[List.set_set]at h3;have h4:=(dG.set h3 i 5 u (⟨(dV l i).1.client,(dV l i).1.id,r⟩,u) (by rw[List.length_set];exact hi) (by omega) (by rw[Qc hi];rfl)).1;rw[List.set_set]at h4;exact h4
theorem afs (W:World) (g i:Nat) (r:dx) (u:Value):W.grownBy (zk W g i r u) (some g):=
 (((gB W g (i*6+2) (.int .i64 r.errno)).trans (gB _ g (i*6+3) (.int .i64 r.rev))).trans (gB _ g (i*6+4) (.string r.value))).trans (gB _ g (i*6+5) u)
def Y_ (w:World) (l:List (aF×Value)):Prop:=∀p∈l,xZ p.1∧∃E m c,p.2= .slice E m c∧m≤c∧dw w E m p.1.rep.keys
theorem Y_.sl {w:World} {l:List (aF×Value)} (h:Y_ w l):zN l:=fun p hp=>by
 obtain⟨_,E,m,c,e,_⟩:=h p hp;exact⟨E,m,c,e⟩
theorem jr.pairs {w:World} {A:Option Addr} {n:Nat} {t:List aF} (h:jr w A n t):∃l:List (aF×Value),l.map Prod.fst=t∧uf w A n l∧Y_ w l:=by
 obtain⟨hn,hm,hw,hc⟩:=h;rcases Nat.eq_zero_or_pos n with h0|hp
 ·have ht:t=[]:=List.eq_nil_of_length_eq_zero (by omega);subst ht;exact⟨[],rfl,⟨by simpa using h0,hm,fun h=>by omega⟩,fun p hp=>nomatch hp⟩
 ·obtain⟨b,off,hA,hb,hat⟩:=hc hp;have hch:∀i:Nat,∃x:Value,i<t.length→∃E m c,x= .slice E m c∧tT w b (off+i*6) (bg t i) x∧m≤c∧dw w E m (bg t i).rep.keys:=fun i=>by
   by_cases hi:i<t.length
   ·obtain⟨E,m,c,h1,h2,h3⟩:=hat i hi;exact⟨_,fun _=>⟨E,m,c,rfl,h1,h2,h3⟩⟩
   ·exact⟨undef,fun h=>absurd h hi⟩
  obtain⟨f,hf⟩:=Classical.axiomOfChoice hch;have hlen:((List.range t.length).map fun i=>(bg t i,f i)).length=t.length:=by simp
  have CY:∀i,i<t.length→dV ((List.range t.length).map fun i=>(bg t i,f i)) i=(bg t i,f i):=fun i hi=>by
   rw[Br (by rw[hlen];exact hi)];simp
  refine⟨(List.range t.length).map fun i=>(bg t i,f i),?_,⟨by rw[hlen,hn],hm,fun _=>⟨b,off,hA,hb,fun i hi=>?_⟩⟩,fun p hp=>?_⟩
  ·refine List.ext_getElem (by simp) fun i h1 h2=>?_;simp only[List.getElem_map,List.getElem_range];exact lZ h2
  ·rw[hlen]at hi;rw[CY i hi];obtain⟨E,m,c,_,h1,_⟩:=hf i hi;exact h1
  ·obtain⟨i,hi,rfl⟩:=List.mem_map.1 hp;have hi2:i<t.length:=by simpa using hi
   obtain⟨E,m,c,e,_,h2,h3⟩:=hf i hi2;exact⟨hw _ (yL hi2),E,m,c,e,h2,h3⟩
theorem anw (A:Option Addr) (n cap:Nat) (l:List (aF×Value)) (w:World) (h:uf w A n l) (hs:zN l) (h20:n≤1000):
  Calls Tryz.prog 138 #[.slice A n cap] w fun e w'=>∃v,e= .returned v∧dG w' w.heap.size v l∧Below w.heap.size w w':=by
 have q22:∀(w:World) (a:Option Addr) (n c n' c':Nat),(binOp .eql 24 (.slice a n c) (.slice none n' c')).run Tryz.prog w= .ok (.bool a.isNone) w:=fun w a n c n' c'=>Lib.run_eql_slice_nil w _ _ a n c n' c' Tryz.underlying24;have HN:=ah h.1;have EW:=ah h;clear h;have HSL:=ah hs;clear hs;go_enter Tryz.func138,Tryz.ntmps138
 cases A with
 |none=>
  have hn0:n=0:=by
   rcases Nat.eq_zero_or_pos n with h|h
   ·exact h
   ·obtain⟨b,off,e,_⟩:=EW.out.2.2 h;cases e
  have hl:l=[]:=List.eq_nil_of_length_eq_zero (by rw[←HN.out,hn0]);subst hl;clear hn0;go_wp2_with fail;go_ret;exact⟨_,rfl,Dp _ _,Below.refl _ _⟩
 |some a=>
  go_wp2_with (at_builtin;refine Li rfl _ _ rfl w.heap.size _ [] rfl (World.ownsRow_made w #[] 0 (Nat.le_refl _) (Nat.zero_le _) rfl) (some a) n cap l rfl (EW.out.below ((Below.refl _ w).alloc (Nat.le_refl _) _)) HSL.out (by simp;omega) (by simp) ?_);intro v1 w1 hrow hgrow;have hb:Below w.heap.size w w1:=((Below.refl _ w).alloc (Nat.le_refl _) _).grown hgrow (by simp) (by intro k hk;simp[Value.ownBlock]at hk;omega);have HR:Hid (dG w1 w.heap.size v1 l):=hrow;clear hrow hgrow;go_wp2_with fail;go_ret;exact⟨_,rfl,HR.out,hb⟩
def acg (w:World) (ks:List ByteArray) (e:Ending) (w':World):Prop:=
 ∃E m c,e= .returned (.slice E m c)∧m≤c∧dw w' E m ks∧Fp w' E m∧Below w.heap.size w w'
theorem anx (A:Option Addr) (n cap:Nat) (ks:List ByteArray) (w:World) (h:dw w A n ks) (h16:n*16≤140737488351232):
  Calls Tryz.prog 137 #[.slice A n cap] w (acg w ks):=by
 have q22:∀(w:World) (a:Option Addr) (n c n' c':Nat),(binOp .eql 41 (.slice a n c) (.slice none n' c')).run Tryz.prog w= .ok (.bool a.isNone) w:=fun w a n c n' c'=>Lib.run_eql_slice_nil w _ _ a n c n' c' Tryz.underlying41;have HN:=ah h.1;have tX:=ah h;clear h;have Sm:=ah h16;clear h16;go_enter Tryz.func137,Tryz.ntmps137
 cases A with
 |none=>
  have hn0:n=0:=by
   rcases Nat.eq_zero_or_pos n with h|h
   ·exact h
   ·obtain⟨b,off,e,_⟩:=tX.out.2.2.2 h;cases e
  have hl:ks=[]:=List.eq_nil_of_length_eq_zero (by rw[←HN.out,hn0]);subst hl;clear hn0;go_wp2_with fail;go_ret;exact⟨none,0,0,rfl,Nat.le_refl _,sW _ _,fun h=>by omega,Below.refl _ _⟩
 |some a=>
  go_wp2_with (at_builtin;refine aii rfl _ _ rfl w.heap.size _ [] rfl (World.ownsRow_made w #[] 0 (Nat.le_refl _) (Nat.zero_le _) rfl) (some a) n cap ks rfl (tX.out.below ((Below.refl _ w).alloc (Nat.le_refl _) _)) (by have:=Sm.out;simp;omega) (by simp) ?_);intro v1 w1 hrow hgrow;have vC:RowK w1 w.heap.size v1 ks:=hrow;obtain⟨A2,cap2,hv2,hcap2,af2⟩:=vC.wK tX.out.2.2.1;subst hv2;have vg:=vC.NR;have hb:Below w.heap.size w w1:=((Below.refl _ w).alloc (Nat.le_refl _) _).grown hgrow (by simp) (by intro k hk;simp[Value.ownBlock]at hk;omega);have HR:Hid (acg w ks (.returned (.slice A2 ks.length cap2)) w1):=⟨A2,_,cap2,rfl,hcap2,af2,vg,hb⟩;clear hrow vC hgrow vg af2 hb;go_wp2_with fail;go_ret;exact HR.out
def ait (w:World) (r:dx) (e:Ending) (w':World):Prop:=
 ∃E m c,e= .returned (bX r (.slice E m c))∧m≤c∧dw w' E m r.keys∧Fp w' E m∧Below w.heap.size w w'
def yK (W:World) (E:Option Addr) (m:Nat) (ks:List ByteArray):Prop:=dw W E m ks∧Fp W E m
theorem yK.far {W:World} {g j m:Nat} {E:Option Addr} {u:Value} {cs:Array Value} {T:TypeId} {fr:Nat×Nat} {ks:List ByteArray} (h:yK W E m ks) (hb:aj W g (.cells cs T fr)) (hT:T≠9):yK (W.setCell ⟨g,j,none⟩ u) E m ks:=by
 obtain⟨r,hr⟩:∃r:dx,r=⟨0,0,ByteArray.empty,ks⟩:=⟨_,rfl⟩;have hk:lD W (⟨0,0,r⟩,.slice E m m):=⟨E,m,m,rfl,Nat.le_refl _,by rw[hr];exact h.1,h.2⟩;have h2:=hk.nS (gB W g j u) (fun k e=>by cases e;exact⟨cs,T,fr,hb,hT⟩);obtain⟨E2,m2,c2,e,_,h3,h4⟩:=h2;simp only[Value.slice.injEq]at e;obtain⟨rfl,rfl,_⟩:=e;exact⟨by rw[hr]at h3;exact h3,h4⟩
theorem Us (r:dx) (K:Option Addr) (k kc:Nat) (w:World) (h:dw w K k r.keys) (h16:k*16≤140737488351232):
  Calls Tryz.prog 86 #[bX r (.slice K k kc)] w (ait w r):=by
 have hb1:Below w.heap.size w (w.alloc (.cells (aR r (.slice K k kc)) 43)):=ak _ _;have hb2:Below w.heap.size w ((w.alloc (.cells (aR r (.slice K k kc)) 43)).alloc (.cells z4 43)):=hb1.alloc (by simp) _;have hx:=aj.below (aj.new w (.cells (aR r (.slice K k kc)) 43)) (ak _ (.cells z4 43));have hz:aj ((w.alloc (.cells (aR r (.slice K k kc)) 43)).alloc (.cells z4 43)) (w.heap.size+1) (.cells z4 43 (0,0)):=by
  have h:=aj.new (w.alloc (.cells (aR r (.slice K k kc)) 43)) (.cells z4 43);rw[World.size_alloc]at h;exact h
 obtain⟨W0,hW0⟩:=aQ ((w.alloc (.cells (aR r (.slice K k kc)) 43)).alloc (.cells z4 43));rw[hW0]at hb2 hx hz;have q:=anx K k kc r.keys W0 (h.below hb2) h16;clear hb1 h h16;have HB:=ah hb2;clear hb2;have q3:=aj.cell hx 3;simp only[aM]at q3;have HX:=ah hx;clear hx;have HZ:=ah hz;clear hz;have HS:Hid (w.heap.size+1<W0.heap.size):=aj.lt HZ.out;unfold bX;go_enter Tryz.func86,Tryz.ntmps86;go_wp2_with fail
 ((with_reducible refine q.mono ?_);rintro e W1 ⟨A1,m1,c1,rfl,hc1,KO,Rb,b1⟩)
 clear q q3;have hx1:=aj.below HX.out b1;have hz1:=aj.below HZ.out b1;have Gs:=ah hc1;clear hc1;have hk1:yK W1 A1 m1 r.keys:=⟨KO,Rb⟩;have HB1:=ah (aA HB.out b1);clear b1 KO Rb;have hx2:=aj.set hx1 3 (.slice A1 m1 c1) (aR r (.slice A1 m1 c1)) rfl;have hz2:=aj.far hz1 (show w.heap.size+1≠w.heap.size by omega) 3 (.slice A1 m1 c1);have hk2:=hk1.far (j:=3) (u:=.slice A1 m1 c1) hx1 (by decide);have hb2:=HB1.out.setCell (p:=⟨w.heap.size,3,none⟩) (Nat.le_refl _) (.slice A1 m1 c1);have l3:=aj.cell hx1 3;have lf3:=aj.frozen hx1 3;simp only[aM]at l3;have iR:=ah hx2;clear hx2;have HZ2:=ah hz2;clear hz2;have HK2:=ah hk2;clear hk2;have HB2:=ah hb2;clear hb2 hk1 hz1 hx1;go_upto_region 2 with fail;obtain⟨W2,hW2⟩:=aQ (W1.setCell ⟨w.heap.size,3,none⟩ (.slice A1 m1 c1));rw[hW2]at iR HZ2 HK2 HB2 ⊢;clear hW2 l3 lf3;have l0:=aj.cell iR.out 0;have l1:=aj.cell iR.out 1;have l2:=aj.cell iR.out 2;have l3:=aj.cell iR.out 3;have z0:=aj.cell HZ2.out 0;have z1:=aj.cell HZ2.out 1;have z2:=aj.cell HZ2.out 2;have z3:=aj.cell HZ2.out 3;simp only[aM]at l0 l1 l2 l3 z0 z1 z2 z3;obtain⟨f0,f1,f2,f3⟩:=dX HZ2.out;have hfin:=tJ HZ2.out (.int .i64 r.errno) (.int .i64 r.rev) (.string r.value) (.slice A1 m1 c1);obtain⟨e0,e1,e2,e3⟩:=aY hfin;have hs1:=aj.set HZ2.out 0 (.int .i64 r.errno) (bR r.errno (.slice none 0 0)) rfl;have hs2:=aj.set hs1 1 (.int .i64 r.rev) #[.int .i64 r.errno,.int .i64 r.rev,.string ⟨#[]⟩,.slice none 0 0] rfl;have hs3:=aj.set hs2 2 (.string r.value) (aR r (.slice none 0 0)) rfl;have gV:=ah ((((HK2.out.far (j:=0) (u:=.int .i64 r.errno) HZ2.out (by decide)).far (j:=1) (u:=.int .i64 r.rev) hs1 (by decide)).far (j:=2) (u:=.string r.value) hs2 (by decide)).far (j:=3) (u:=.slice A1 m1 c1) hs3 (by decide));have aU:=ah (wF (g:=w.heap.size+1) HB2.out (Nat.le_succ _) (.int .i64 r.errno) (.int .i64 r.rev) (.string r.value) (.slice A1 m1 c1));clear hfin hs1 hs2 hs3;go_wp2_with fail;refine bodyPost_ret (v:=bX r (.slice A1 m1 c1)) (by simp[bX,results,Tryz.results86,go_sem,e0,e1,e2,e3]) rfl ⟨A1,m1,c1,rfl,Gs.out,gV.out.1,gV.out.2,aU.out⟩
def alM (w:World) (t:List aF) (e:Ending) (w':World):Prop:=
 ∃v l,e= .returned v∧dG w' w.heap.size v l∧l.map Prod.fst=t∧dU w' l∧Below w.heap.size w w'
theorem anK (t:List aF) (A:Option Addr) (n cap:Nat) (w:World) (h:jr w A n t) (h20:n≤1000):
  Calls Tryz.prog 87 #[.slice A n cap] w (alM w t):=by
 obtain⟨l,hlm,hps,hex⟩:=h.pairs;have HN:Hid (n=l.length):=hps.1;have q:=anw A n cap l w hps hex.sl h20;have OW:=ah hlm;clear hlm hps h;have wW:=ah hex;clear hex;go_enter Tryz.func87,Tryz.ntmps87;go_wp2_with fail
 ((with_reducible refine q.mono ?_);rintro e W1 ⟨v,rfl,hrow,b1⟩)
 clear q;obtain⟨A1,dP,hv,hc1,_⟩:=hrow.parts;rw[←HN.out]at hv;subst hv;have HR1:=ah hrow;clear hrow;have HB1:=ah b1;clear b1;go_wp2_with fail;go_loopw [9] (fun i wy=>∃(k:Nat) (wr:World) (lk:List (aF×Value)),wr=wy∧k≤n∧i= .int .i64 k∧dG wr w.heap.size (.slice A1 n dP) lk∧lk.map Prod.fst=l.map Prod.fst∧(∀j,j<k→lD wr (dV lk j))∧(∀j,k≤j→dV lk j=dV l j)∧Below w.heap.size w wr) (fun i _=>n-(intOf i).toNat)
 case atStart=>exact⟨0,_,l,rfl,by omega,rfl,HR1.out,rfl,(fun j hj=>by omega),(fun j hj=>rfl),HB1.out⟩
 case round=>
  clear HR1 HB1;obtain⟨k,wr,lk,rfl,hk,rfl,hrow,hmap,hdone,hrest,hb⟩:=hrel;have eY:=ah hrow;clear hrow;have g_:=ah hmap;clear hmap;have Gt:=ah hdone;clear hdone;have Ch:=ah hrest;clear hrest;have HB:=ah hb;clear hb;have lq:Hid (lk.length=n):=by have:=congrArg List.length g_.out;simp only[List.length_map]at this;show _=_;have:=HN.out;omega
  by_cases hlt:k<n
  ·have hki:(k:Int)<(n:Int):=by omega
   have hk0:(0:Int)≤(k:Int):=by omega
   have qM:Hid (k<lk.length):=by have:=lq.out;show k<_;omega
   have AZ:Hid (k<l.length):=by have:=HN.out;show k<_;omega
   obtain⟨g,hA,hbg⟩:=eY.out.qh qM.out;subst hA;obtain⟨hrw,E,m,c,he,hmc,hfs⟩:=wW.out _ (Zr AZ.out);have hx:=eY.out.six qM.out;rw[Ch.out k (Nat.le_refl _),he]at hx;obtain⟨x0,x1,x2,x3,x4,x5⟩:=hx;have HRW:=ah hrw;clear hrw;have HKK:Hid ((dV lk k).1=(dV l k).1):=by show _=_;rw[Ch.out k (Nat.le_refl _)]
   have q:=Us (dV l k).1.rep E m c wr (hfs.below HB.out) (by have h1:=HRW.out.2.2.2;have h2:=hfs.1;omega);unfold bX at q;clear hfs he x0 x1;have hf2:wr.frozen? ⟨g,k*6+2,none⟩=false:=eY.out.frozen;have hf3:wr.frozen? ⟨g,k*6+3,none⟩=false:=eY.out.frozen;have KM:wr.frozen? ⟨g,k*6+4,none⟩=false:=eY.out.frozen;have rO:wr.frozen? ⟨g,k*6+5,none⟩=false:=eY.out.frozen;have gu:Hid (∀(W:World) (u:Value),dG W w.heap.size (.slice (some ⟨g,0,none⟩) n dP) lk→dG (zk W g k (dV l k).1.rep u) w.heap.size (.slice (some ⟨g,0,none⟩) n dP) (lk.set k ((dV l k).1,u))):=fun W u h=>by
    have:=h.zk qM.out (dV l k).1.rep u;rw[HKK.out]at this;exact this
   have Gr:Hid (∀(W:World),dG W w.heap.size (.slice (some ⟨g,0,none⟩) n dP) lk→∃cs fr,W.heap[g]? =some (.cells cs 90 fr)):=fun W h=>h.block g (by simp[Value.ownBlock]);have zA:Hid (∀u,(lk.set k ((dV l k).1,u)).map Prod.fst=l.map Prod.fst):=fun u=>by
    rw[agE,g_.out];refine List.ext_getElem (by simp) fun i h1 h2=>?_;rw[List.getElem_set];split
    ·rename_i e;subst e;rw[List.getElem_map,Br AZ.out]
    ·rfl
   have Pb:Hid (∀E2 m2 c2 (W:World),m2≤c2→dw W E2 m2 (dV l k).1.rep.keys→Fp W E2 m2→lD W ((dV l k).1,.slice E2 m2 c2)):=fun E2 m2 c2 W h1 h2 h3=>⟨E2,m2,c2,rfl,h1,h2,h3⟩;have vo:g<wr.heap.size:=by obtain⟨cs,fr,h2⟩:=Gr.out wr eY.out;exact fF h2
   generalize(dV l k).1=d at*;go_wp2_with fail
   ((with_reducible refine q.mono ?_);rintro e W2 ⟨E2,m2,c2,rfl,IU,mD,vg,b2⟩)
   clear q;unfold bX;have y2:=(b2.cell (p:=⟨g,k*6+2,none⟩) vo).trans x2;have y3:=(b2.cell (p:=⟨g,k*6+3,none⟩) vo).trans x3;have y4:=(b2.cell (p:=⟨g,k*6+4,none⟩) vo).trans x4;have y5:=(b2.cell (p:=⟨g,k*6+5,none⟩) vo).trans x5;have g2:=(b2.frozen (p:=⟨g,k*6+2,none⟩) vo).trans hf2;have g3:=(b2.frozen (p:=⟨g,k*6+3,none⟩) vo).trans hf3;have g4:=(b2.frozen (p:=⟨g,k*6+4,none⟩) vo).trans KM;have g5:=(b2.frozen (p:=⟨g,k*6+5,none⟩) vo).trans rO;have hrow2:=eY.out.below b2;have HR3:=ah (gu.out W2 (.slice E2 m2 c2) hrow2);obtain⟨cs2,zR,hblk2⟩:=Gr.out W2 hrow2;have hkeep:=afs W2 g k d.rep (.slice E2 m2 c2);have jP:Hid (lD (zk W2 g k d.rep (.slice E2 m2 c2)) (d,.slice E2 m2 c2)):=(Pb.out E2 m2 c2 W2 IU mD vg).kept hkeep (fun q hq=>by cases hq;exact⟨_,_,hblk2⟩);have HD3:Hid (∀j,j<k→lD (zk W2 g k d.rep (.slice E2 m2 c2)) (dV lk j)):=fun j hj=>((Gt.out j hj).below b2).kept hkeep (fun q hq=>by cases hq;exact⟨_,_,hblk2⟩);have HB3:Hid (Below w.heap.size w (zk W2 g k d.rep (.slice E2 m2 c2))):=(((((aA HB.out b2).setCell (p:=⟨g,k*6+2,none⟩) hbg _).setCell (p:=⟨g,k*6+3,none⟩) hbg _).setCell (p:=⟨g,k*6+4,none⟩) hbg _).setCell (p:=⟨g,k*6+5,none⟩) hbg _);unfold zk at HR3 jP HD3 HB3;clear x2 x3 x4 x5 hf2 hf3 KM rO hrow2 hblk2 hkeep mD vg IU b2 vo;go_wp2_with fail;go_roundw
   case rel=>
    refine⟨k+1,_,lk.set k (d,.slice E2 m2 c2),rfl,by omega,by go_num,HR3.out,zA.out _,fun j hj=>?_,fun j hj=>?_,HB3.out⟩
    ·rcases(by omega:j<k∨j=k)with h|rfl
     ·have:dV (lk.set k (d,.slice E2 m2 c2)) j=dV lk j:=by
       have h1:=lq.out;rw[Br (by rw[List.length_set];omega),List.getElem_set_ne (by omega),Br (by omega)]
      rw[this];exact HD3.out j h
     ·rw[Qc qM.out];exact jP.out
    ·have:dV (lk.set k (d,.slice E2 m2 c2)) j=dV lk j:=by
      unfold dV;rw[List.getD_eq_getElem?_getD,List.getD_eq_getElem?_getD,List.getElem?_set_ne (by omega)]
     rw[this];exact Ch.out j (by omega)
   case measure=>simp[intOf];omega
  ·have hke:k=n:=by omega
   subst hke;have iH:Hid (dU wr lk):=fun p hp=>by
    obtain⟨j,hj,rfl⟩:=List.getElem_of_mem hp;have h1:=Gt.out j (by have:=lq.out;omega);rw[Br hj]at h1;refine⟨?_,h1⟩;have hj2:j<l.length:=by have:=lq.out;have:=HN.out;omega
    have h2:=(wW.out _ (Zr hj2)).1;have h3:(dV l j).1=(dV lk j).1:=by
     rw[Qb l hj2,Qb lk hj,g_.out]
    rw[h3,Br hj]at h2;exact h2
   have zB:Hid (lk.map Prod.fst=t):=g_.out.trans OW.out;clear hlt;go_wp2_with fail;go_ret;exact⟨_,lk,rfl,eY.out,zB.out,iH.out,HB.out⟩
end Go.Proofs.YtodaapcohdpenaaGreat
namespace Go.Proofs.YtodaapcohdpenaaGreat
open Go.RowKit
theorem anm (args:Array Value) (w:World):(callFunc 166 args).run Tryz.prog w= .ok (.enter 166 args) w:=Jm Tryz.func166 (by kernel_rfl) (by kernel_rfl) args w
def yX (ks:List ByteArray):Bool:=ks.any Al
def alI (w:World) (ks:List ByteArray) (e:Ending) (w':World):Prop:=(∃z:Int,e= .returned (.int .i64 z)∧((z= -1∧yX ks=false)∨(0≤z∧yX ks=true)))∧Below w.heap.size w w'
theorem apU (ks:List ByteArray) (A:Option Addr) (n cap:Nat) (w:World) (h:dw w A n ks):
  Calls Tryz.prog 191 #[.slice A n cap,.func (.func 166) #[] #[]] w (alI w ks):=by
 have jy:=h.2.1;unfold maxLen at jy;have HN:Hid (n=ks.length):=h.1;have HT:=ah h;clear h;have cf:=anm;go_enter Tryz.func191,Tryz.ntmps191;go_wp2_with fail;go_loopw [8] (fun i wy=>∃(j:Nat) (wr:World),wr=wy∧j≤n∧i= .int .i64 j∧(∀q,q<j→Al (ks.getD q ByteArray.empty)=false)∧Below w.heap.size w wr) (fun i _=>n-(intOf i).toNat)
 case atStart=>exact⟨0,_,rfl,by omega,rfl,(fun q hq=>by omega),Below.refl _ _⟩
 case round=>
  obtain⟨j,wr,rfl,hj,rfl,hall,hb⟩:=hrel;have HB:=ah hb;clear hb;have BO:=ah hall;clear hall
  by_cases hlt:j<n
  ·have hji:(j:Int)<(n:Int):=by omega
   have hj0:(0:Int)≤(j:Int):=by omega
   have kG:Hid (j<ks.length):=by have:=HN.out;show _<_;omega
   obtain⟨b,off,hA,hlb,hat⟩:=HT.out.2.2.2 (by omega);subst hA;have hx:=(HB.out.cell (p:=⟨b,off+j,none⟩) hlb).trans (hat j kG.out);clear hat;have uT:Hid (Al (ks.getD j ByteArray.empty)=false→∀q,q<j+1→Al (ks.getD q ByteArray.empty)=false):=fun e q hq=>by
    rcases(by omega:q<j∨q=j)with h|rfl
    ·exact BO.out q h
    ·exact e
   have iF:Hid (Al (ks.getD j ByteArray.empty)=true→yX ks=true):=fun e=>by
    unfold yX;rw[List.any_eq_true];refine⟨_,?_,e⟩;rw[List.getD_eq_getElem?_getD,List.getElem?_eq_getElem kG.out];exact List.getElem_mem _
   generalize ks.getD j ByteArray.empty=s at*;have q:=fun W=>aus s W;obtain⟨b,hbb⟩:∃b,Al s=b:=⟨_,rfl⟩;rw[hbb]at q uT iF;clear hbb
   cases b with
   |false=>
    go_wp2_with fail
    ((with_reducible refine(q _).mono ?_);rintro e W1 ⟨rfl,rfl⟩)
    clear q hx;go_wp2_with fail;go_roundw
    case rel=>exact⟨j+1,_,rfl,by omega,by go_num,uT.out (by first|trivial|rfl),HB.out⟩
    case measure=>simp[intOf];omega
   |true=>
    go_wp2_with fail
    ((with_reducible refine(q _).mono ?_);rintro e W1 ⟨rfl,rfl⟩)
    clear q hx;go_wp2_with fail;go_ret;exact⟨⟨_,rfl,.inr ⟨by omega,iF.out (by first|trivial|rfl)⟩⟩,HB.out⟩
  ·have iw:j=n:=by omega
   subst iw;have HE:Hid (yX ks=false):=by
    show _=_;unfold yX;rw[List.any_eq_false];intro s hs;obtain⟨q,hq,rfl⟩:=List.getElem_of_mem hs;have:=BO.out q (by have:=HN.out;omega);rw[List.getD_eq_getElem?_getD,List.getElem?_eq_getElem hq]at this;simpa using this
   clear hlt;go_wp2_with fail;go_ret;exact⟨⟨_,rfl,.inl ⟨rfl,HE.out⟩⟩,HB.out⟩
theorem anG (ks:List ByteArray) (A:Option Addr) (n cap:Nat) (w:World) (h:dw w A n ks):
  Calls Tryz.prog 165 #[.slice A n cap,.func (.func 166) #[] #[]] w fun e w'=>e= .returned (.bool (yX ks))∧Below w.heap.size w w':=by
 have q:=apU ks A n cap w h;clear h;go_enter Tryz.func165,Tryz.ntmps165;go_wp2_with fail
 ((with_reducible refine q.mono ?_);rintro e W1 ⟨⟨z,rfl,hz⟩,b1⟩)
 clear q;have HB1:=ah b1;clear b1;rcases hz with⟨hz,hl⟩|⟨hz,hl⟩
 ·subst hz;have HL:=ah hl;clear hl;go_wp2_with fail;go_ret;exact⟨by rw[HL.out];rfl,HB1.out⟩
 ·have HL:=ah hl;clear hl;have HZ:=ah hz;have hz2:decide ((0:Int)≤z)=true:=decide_eq_true hz;go_wp2_with fail;go_ret;exact⟨bC (by first|(rw[HL.out];done)|(rw[HL.out];exact decide_eq_true HZ.out)),HB1.out⟩
def Kj (W:World) (g:Nat) (r:dx) (K:Option Addr) (k kc:Nat):Prop:=aj W g (.cells (aR r (.slice K k kc)) 43 (0,0))
def kL (r:dx):Nat→Bool
 |0=>!oG r.rev 0 9007199254740992
 |1=>decide (200<r.value.size)
 |2=>decide (5<r.keys.length)
 |3=>yX r.keys
 |_=>!oG r.errno 0 255
def RI:Nat→Nat
 |0=>161
 |1=>162
 |2=>163
 |3=>164
 |_=>167
theorem ani (i:Nat) (args:Array Value) (w:World):(callFunc (RI i) args).run Tryz.prog w= .ok (.enter (RI i) args) w:=by
 rcases i with _|_|_|_|i
 ·exact Jm Tryz.func161 (by kernel_rfl) (by kernel_rfl) args w
 ·exact Jm Tryz.func162 (by kernel_rfl) (by kernel_rfl) args w
 ·exact Jm Tryz.func163 (by kernel_rfl) (by kernel_rfl) args w
 ·exact Jm Tryz.func164 (by kernel_rfl) (by kernel_rfl) args w
 ·exact Jm Tryz.func167 (by kernel_rfl) (by kernel_rfl) args w
theorem agI (r:dx):mX r=true↔∀i,i<5→kL r i=false:=by
 have h0:mX r=true↔iT r:=by unfold mX;exact decide_eq_true_iff
 rw[h0];unfold iT bZ;constructor
 ·rintro⟨h1,h2,h3,h4,h5⟩ i hi;rcases(by omega:i=0∨i=1∨i=2∨i=3∨i=4)with rfl|rfl|rfl|rfl|rfl
  ·simp[kL,oG];omega
  ·simp[kL];omega
  ·simp[kL];omega
  ·show yX r.keys=false;unfold yX;rw[List.any_eq_false];intro s hs;have:=h1 s hs;simp[Al];omega
  ·simp[kL,oG];omega
 ·intro h;have h0:=h 0 (by omega);have h1:=h 1 (by omega);have h2:=h 2 (by omega);have h3:=h 3 (by omega);have h4:=h 4 (by omega);refine⟨fun k hk=>?_,?_,?_,?_,?_⟩
  ·have h3':yX r.keys=false:=h3;unfold yX at h3';rw[List.any_eq_false]at h3';have:=h3' k hk;simp[Al]at this;omega
  ·simp[kL,oG]at h0;omega
  ·simp[kL]at h1;omega
  ·simp[kL]at h2;omega
  ·simp[kL,oG]at h4;omega
theorem aqK {r:dx} {i:Nat} (hi:i<5) (h:kL r i=true):mX r=false:=by
 rw[Bool.eq_false_iff];intro e;have:=(agI r).1 e i hi;rw[h]at this;cases this
theorem aqL (r:dx) (g:Nat) (K:Option Addr) (k kc:Nat) (w:World) (hb:Kj w g r K k kc) (hs:dw w K k r.keys) (hw:zM r):
  Calls Tryz.prog 161 #[.pointer (some ⟨g,0,none⟩)] w fun e w'=>e= .returned (.bool (kL r 0))∧Below w.heap.size w w':=by
 obtain⟨x0,x1,x2,x3⟩:=aY hb;clear hb;have q:=fun W=>WC r.rev 0 9007199254740992 W;have HE:Hid (kL r 0= !oG r.rev 0 9007199254740992):=rfl;generalize kL r 0=v at*;generalize oG r.rev 0 9007199254740992=b at*;go_enter Tryz.func161,Tryz.ntmps161;go_wp2_with fail
 ((with_reducible refine(q _).mono ?_);rintro e W1 ⟨rfl,rfl⟩)
 go_wp2_with fail;go_ret;exact⟨bC (by rw[HE.out]),Below.refl _ _⟩
theorem aqM (r:dx) (g:Nat) (K:Option Addr) (k kc:Nat) (w:World) (hb:Kj w g r K k kc) (hs:dw w K k r.keys) (hw:zM r):
  Calls Tryz.prog 162 #[.pointer (some ⟨g,0,none⟩)] w fun e w'=>e= .returned (.bool (kL r 1))∧Below w.heap.size w w':=by
 obtain⟨x0,x1,x2,x3⟩:=aY hb;clear hb;have hz:=hw.2.2
 by_cases h:(r.value.size:Int)≤200
 ·have HE:Hid (kL r 1=false):=decide_eq_false (by omega);have hg:decide ((200:Int)<(r.value.size:Int))=false:=decide_eq_false (by omega);go_enter Tryz.func162,Tryz.ntmps162;go_wp2_with fail;go_ret;exact⟨bC (by first|(rw[HE.out];done)|(rw[HE.out];exact hg)),Below.refl _ _⟩
 ·have HE:Hid (kL r 1=true):=decide_eq_true (by omega);have hg:decide ((200:Int)<(r.value.size:Int))=true:=decide_eq_true (by omega);go_enter Tryz.func162,Tryz.ntmps162;go_wp2_with fail;go_ret;exact⟨bC (by first|(rw[HE.out];done)|(rw[HE.out];exact hg)),Below.refl _ _⟩
theorem aqN (r:dx) (g:Nat) (K:Option Addr) (k kc:Nat) (w:World) (hb:Kj w g r K k kc) (hs:dw w K k r.keys) (hw:zM r):
  Calls Tryz.prog 163 #[.pointer (some ⟨g,0,none⟩)] w fun e w'=>e= .returned (.bool (kL r 2))∧Below w.heap.size w w':=by
 obtain⟨x0,x1,x2,x3⟩:=aY hb;clear hb;have hk:k=r.keys.length:=hs.1;have vk:=hs.2.1;unfold maxLen at vk
 by_cases h:(k:Int)≤5
 ·have HE:Hid (kL r 2=false):=decide_eq_false (by omega);have hg:decide ((5:Int)<(k:Int))=false:=decide_eq_false (by omega);clear hk hs;go_enter Tryz.func163,Tryz.ntmps163;go_wp2_with fail;go_ret;exact⟨bC (by first|(rw[HE.out];done)|(rw[HE.out];exact hg)),Below.refl _ _⟩
 ·have HE:Hid (kL r 2=true):=decide_eq_true (by omega);have hg:decide ((5:Int)<(k:Int))=true:=decide_eq_true (by omega);clear hk hs;go_enter Tryz.func163,Tryz.ntmps163;go_wp2_with fail;go_ret;exact⟨bC (by first|(rw[HE.out];done)|(rw[HE.out];exact hg)),Below.refl _ _⟩
theorem aqO (r:dx) (g:Nat) (K:Option Addr) (k kc:Nat) (w:World) (hb:Kj w g r K k kc) (hs:dw w K k r.keys) (hw:zM r):
  Calls Tryz.prog 164 #[.pointer (some ⟨g,0,none⟩)] w fun e w'=>e= .returned (.bool (kL r 3))∧Below w.heap.size w w':=by
 obtain⟨x0,x1,x2,x3⟩:=aY hb;clear hb;have q:=anG r.keys K k kc w hs;have HE:Hid (kL r 3=yX r.keys):=rfl;generalize kL r 3=v at*;generalize yX r.keys=b at*;clear hs;go_enter Tryz.func164,Tryz.ntmps164;go_wp2_with fail
 ((with_reducible refine q.mono ?_);rintro e W1 ⟨rfl,b1⟩)
 go_wp2_with fail;go_ret;exact⟨bC (by rw[HE.out]),b1⟩
theorem aqP (r:dx) (g:Nat) (K:Option Addr) (k kc:Nat) (w:World) (hb:Kj w g r K k kc) (hs:dw w K k r.keys) (hw:zM r):
  Calls Tryz.prog 167 #[.pointer (some ⟨g,0,none⟩)] w fun e w'=>e= .returned (.bool (kL r 4))∧Below w.heap.size w w':=by
 obtain⟨x0,x1,x2,x3⟩:=aY hb;clear hb;have q:=fun W=>WC (r.errno:Int) 0 255 W;have HE:Hid (kL r 4= !oG (r.errno:Int) 0 255):=rfl;generalize kL r 4=v at*;generalize oG (r.errno:Int) 0 255=b at*;go_enter Tryz.func167,Tryz.ntmps167;go_wp2_with fail
 ((with_reducible refine(q _).mono ?_);rintro e W1 ⟨rfl,rfl⟩)
 go_wp2_with fail;go_ret;exact⟨bC (by rw[HE.out]),Below.refl _ _⟩
theorem aqQ (r:dx) (g:Nat) (K:Option Addr) (k kc i:Nat) (hi:i<5) (w:World) (hb:Kj w g r K k kc) (hs:dw w K k r.keys) (hw:zM r):
  Calls Tryz.prog (RI i) #[.pointer (some ⟨g,0,none⟩)] w fun e w'=>e= .returned (.bool (kL r i))∧Below w.heap.size w w':=by
 rcases(by omega:i=0∨i=1∨i=2∨i=3∨i=4)with rfl|rfl|rfl|rfl|rfl
 ·exact aqL r g K k kc w hb hs hw
 ·exact aqM r g K k kc w hb hs hw
 ·exact aqN r g K k kc w hb hs hw
 ·exact aqO r g K k kc w hb hs hw
 ·exact aqP r g K k kc w hb hs hw
def afm (g i:Nat):Value:=.func (.func (RI i)) #[] #[.pointer (some ⟨g,0,none⟩)]
def ad6 (w:World) (r:dx) (K:Option Addr) (k kc:Nat) (e:Ending) (w':World):Prop:=
 ∃g s,e= .returned (.slice (some ⟨s,0,none⟩) 5 5)∧Kj w' g r K k kc∧s<w'.heap.size∧(∀i,i<5→w'.cell? ⟨s,i,none⟩=some (afm g i))∧Below w.heap.size w w'
theorem aqR (r:dx) (K:Option Addr) (k kc:Nat) (w:World):
  Calls Tryz.prog 120 #[bX r (.slice K k kc)] w (ad6 w r K k kc):=by
 have hb1:Below w.heap.size w (w.alloc (.cells (aR r (.slice K k kc)) 43)):=ak _ _;have hb2:Below w.heap.size w ((w.alloc (.cells (aR r (.slice K k kc)) 43)).alloc (.cells #[.func (.func 161) #[] #[.pointer (some ⟨w.heap.size,0,none⟩)],.func (.func 162) #[] #[.pointer (some ⟨w.heap.size,0,none⟩)],.func (.func 163) #[] #[.pointer (some ⟨w.heap.size,0,none⟩)],.func (.func 164) #[] #[.pointer (some ⟨w.heap.size,0,none⟩)],.func (.func 167) #[] #[.pointer (some ⟨w.heap.size,0,none⟩)]] 32)):=hb1.alloc (by simp) _;have hx:=aj.below (aj.new w (.cells (aR r (.slice K k kc)) 43)) (ak _ (.cells #[.func (.func 161) #[] #[.pointer (some ⟨w.heap.size,0,none⟩)],.func (.func 162) #[] #[.pointer (some ⟨w.heap.size,0,none⟩)],.func (.func 163) #[] #[.pointer (some ⟨w.heap.size,0,none⟩)],.func (.func 164) #[] #[.pointer (some ⟨w.heap.size,0,none⟩)],.func (.func 167) #[] #[.pointer (some ⟨w.heap.size,0,none⟩)]] 32));have hz:=aj.new (w.alloc (.cells (aR r (.slice K k kc)) 43)) (.cells #[.func (.func 161) #[] #[.pointer (some ⟨w.heap.size,0,none⟩)],.func (.func 162) #[] #[.pointer (some ⟨w.heap.size,0,none⟩)],.func (.func 163) #[] #[.pointer (some ⟨w.heap.size,0,none⟩)],.func (.func 164) #[] #[.pointer (some ⟨w.heap.size,0,none⟩)],.func (.func 167) #[] #[.pointer (some ⟨w.heap.size,0,none⟩)]] 32);rw[World.size_alloc]at hz;have HP:Hid (ad6 w r K k kc (.returned (.slice (some ⟨w.heap.size+1,0,none⟩) 5 5)) ((w.alloc (.cells (aR r (.slice K k kc)) 43)).alloc (.cells #[.func (.func 161) #[] #[.pointer (some ⟨w.heap.size,0,none⟩)],.func (.func 162) #[] #[.pointer (some ⟨w.heap.size,0,none⟩)],.func (.func 163) #[] #[.pointer (some ⟨w.heap.size,0,none⟩)],.func (.func 164) #[] #[.pointer (some ⟨w.heap.size,0,none⟩)],.func (.func 167) #[] #[.pointer (some ⟨w.heap.size,0,none⟩)]] 32))):=
  ⟨w.heap.size,w.heap.size+1,rfl,hx,aj.lt hz,fun i hi=>by
   rcases(by omega:i=0∨i=1∨i=2∨i=3∨i=4)with rfl|rfl|rfl|rfl|rfl
   ·exact aj.cell hz 0
   ·exact aj.cell hz 1
   ·exact aj.cell hz 2
   ·exact aj.cell hz 3
   ·exact aj.cell hz 4,hb2⟩
 clear hb1 hb2 hx hz;unfold bX;go_enter Tryz.func120,Tryz.ntmps120;go_wp2_with fail;go_ret;exact HP.out
theorem agN (r:dx) (K:Option Addr) (k kc:Nat) (w:World) (h:dw w K k r.keys) (hw:zM r):
  Calls Tryz.prog 72 #[bX r (.slice K k kc)] w fun e w'=>e= .returned (.bool (!mX r))∧Below w.heap.size w w':=by
 have hb1:Below w.heap.size w (w.alloc (.cells (aR r (.slice K k kc)) 43)):=ak _ _;have hx:=aj.new w (.cells (aR r (.slice K k kc)) 43);obtain⟨x0,x1,x2,x3⟩:=aY hx;have q:=aqR r K k kc (w.alloc (.cells (aR r (.slice K k kc)) 43));have HS:=ah h;clear h;have HW:=ah hw;clear hw;have HB0:=ah hb1;clear hb1 hx;have iF:Hid ((∀i,i<5→kL r i=false)→mX r=true):=(agI r).2;have bA:Hid (∀i,i<5→kL r i=true→mX r=false):=fun i hi h=>aqK hi h;generalize mX r=v at*;unfold bX at q ⊢;go_enter Tryz.func72,Tryz.ntmps72;go_wp2_with fail
 ((with_reducible refine q.mono ?_);rintro e W1 ⟨g,s,rfl,hbk,hsl,hfn,b1⟩)
 clear q x0 x1 x2 x3;have HBK:=ah hbk;clear hbk;have HFN:=ah hfn;clear hfn;have HSL:=ah hsl;clear hsl;have HB1:=ah (aA HB0.out b1);clear b1;go_wp2_with fail;go_loopw [8] (fun i wy=>∃(j:Nat) (wr:World),wr=wy∧j≤5∧i= .int .i64 j∧(∀q,q<j→kL r q=false)∧Below W1.heap.size W1 wr) (fun i _=>5-(intOf i).toNat)
 case atStart=>exact⟨0,_,rfl,by omega,rfl,(fun q hq=>by omega),Below.refl _ _⟩
 case round=>
  obtain⟨j,wr,rfl,hj,rfl,hall,hb⟩:=hrel;have HB:=ah hb;clear hb;have BO:=ah hall;clear hall
  by_cases hlt:j<5
  ·have hji:(j:Int)<5:=by omega
   have hj0:(0:Int)≤(j:Int):=by omega
   have hx:=(HB.out.cell (p:=⟨s,j,none⟩) HSL.out).trans (HFN.out j hlt);have q:=aqQ r g K k kc j hlt wr (aj.below HBK.out HB.out) (HS.out.below (aA HB1.out HB.out)) HW.out;have cf:=ani j;unfold afm at hx;have uT:Hid (kL r j=false→∀q,q<j+1→kL r q=false):=fun e q hq=>by
    rcases(by omega:q<j∨q=j)with h|rfl
    ·exact BO.out q h
    ·exact e
   have w_:Hid (kL r j=true→v=false):=bA.out j hlt;generalize RI j=F at*;obtain⟨b,hbb⟩:∃b,kL r j=b:=⟨_,rfl⟩;rw[hbb]at q uT w_;clear hbb
   cases b with
   |false=>
    go_wp2_with fail
    ((with_reducible refine q.mono ?_);rintro e W2 ⟨rfl,b2⟩)
    have HB2:=ah (aA HB.out b2);clear q hx b2;go_wp2_with fail;go_roundw
    case rel=>exact⟨j+1,_,rfl,by omega,by go_num,uT.out (by first|trivial|rfl),HB2.out⟩
    case measure=>simp[intOf];omega
   |true=>
    go_wp2_with fail
    ((with_reducible refine q.mono ?_);rintro e W2 ⟨rfl,b2⟩)
    have HB2:=ah (aA HB.out b2);clear q hx b2;go_wp2_with fail;go_ret;exact⟨bC (by rw[w_.out (by first|trivial|rfl)];rfl),aA HB1.out HB2.out⟩
  ·have iw:j=5:=by omega
   subst iw;have HE:Hid (v=true):=iF.out BO.out;clear hlt;go_wp2_with fail;go_ret;exact⟨bC (by rw[HE.out];rfl),aA HB1.out HB.out⟩
end Go.Proofs.YtodaapcohdpenaaGreat
namespace Go.Proofs.YtodaapcohdpenaaGreat
open Go.RowKit
def Ia (l:List aF) (j:Nat):Int:=if j=0 then 0 else(bg l (j-1)).client
theorem al5 (l:List aF) (j:Nat):Ia l (j+1)=(bg l j).client:=by unfold Ia;rw[if_neg (by omega)];rfl
theorem asI {l:List aF} {j:Nat} (hj:j<l.length) (h:lF (l.take j)) (ha:Ia l j<(bg l j).client):lF (l.take (j+1)):=by
 rw[Wm hj];refine List.pairwise_append.2 ⟨h,List.pairwise_singleton _ _,fun a ha2 b hb=>?_⟩;rw[List.mem_singleton.1 hb];obtain⟨q,hq,rfl⟩:=List.getElem_of_mem ha2;rw[List.length_take]at hq;unfold Ia at ha;rw[if_neg (by omega)]at ha;rw[List.getElem_take,←lZ (l:=l) (i:=q) (by omega)];rcases(by omega:q<j-1∨q=j-1)with h2|h2
 ·have h3:(bg (l.take j) q).client<(bg (l.take j) (j-1)).client:=Ey h h2 (by rw[List.length_take];omega);rw[lZ (by rw[List.length_take];omega),lZ (by rw[List.length_take];omega),List.getElem_take,List.getElem_take,←lZ,←lZ]at h3;omega
 ·rw[h2];exact ha
theorem right_step {l:List aF} {j:Nat} (hj:j<l.length) (h:j4 l):iT (bg l j).rep∧iN (bg l j).client (bg l j).id∧Ia l j<(bg l j).client:=by
 obtain⟨h1,h2⟩:=h.1 _ (yL hj);refine⟨h1,h2,?_⟩;unfold Ia;split
 ·have:=h2.1.1;omega
 ·exact Ey h.2.1 (by omega) hj
theorem ahn (l:List aF) (A:Option Addr) (n cap:Nat) (w:World) (h:jr w A n l):
  Calls Tryz.prog 31 #[.slice A n cap] w fun e w'=>e= .returned (.bool (tF l))∧Below w.heap.size w w':=by
 have jy:=h.2.1;unfold maxLen at jy;have HN:Hid (n=l.length):=h.1;have HT:=ah h;clear h;have bA:Hid (¬j4 l→tF l=false):=ahp;have iF:Hid (j4 l→tF l=true):=Ny.2;generalize tF l=R at*
 by_cases h20:(8:Int)<(n:Int)
 ·have HE:Hid (R=false):=bA.out fun h=>by have:=h.2.2;have:=HN.out;omega
  go_enter Tryz.func31,Tryz.ntmps31;go_wp2_with fail;go_ret;exact⟨by rw[HE.out];rfl,Below.refl _ _⟩
 go_enter Tryz.func31,Tryz.ntmps31;go_wp2_with fail;go_loopw [3,11] (fun a i wy=>∃(j:Nat) (wr:World) (z:Int),wr=wy∧j≤n∧a= .int .i64 z∧z=Ia l j∧i= .int .i64 j∧(∀q,q<j→iT (bg l q).rep∧iN (bg l q).client (bg l q).id)∧lF (l.take j)∧Below w.heap.size w wr) (fun _ i _=>n-(intOf i).toNat)
 case atStart=>exact⟨0,_,0,rfl,by omega,rfl,rfl,rfl,(fun q hq=>by omega),List.Pairwise.nil,Below.refl _ _⟩
 case round=>
  obtain⟨j,wr,z,rfl,hj,rfl,hz,rfl,yS,hrs,hb⟩:=hrel;have HB:=ah hb;clear hb;have sI:=ah yS;clear yS;have gu:=ah hrs;clear hrs;have HZ:=ah hz;clear hz
  by_cases hlt:j<n
  ·have hji:(j:Int)<(n:Int):=by omega
   have hj0:(0:Int)≤(j:Int):=by omega
   have hjl:j<l.length:=by have:=HN.out;omega
   obtain⟨b,off,hA,_⟩:=HT.out.block (by omega);subst hA;obtain⟨E,m,c,hx,_,hss⟩:=HT.out.at hjl HB.out;have hbw:Below wr.heap.size wr (wr.alloc (.cells (aD (bg l j) (.slice E m c)) 90)):=ak _ _;have hrb:=aj.new wr (.cells (aD (bg l j) (.slice E m c)) 90);have HST:Hid (j4 l→iT (bg l j).rep∧iN (bg l j).client (bg l j).id∧z<(bg l j).client):=fun h=>by rw[HZ.out];exact right_step hjl h
   have lT:Hid (z<(bg l j).client→lF (l.take (j+1))):=fun h=>asI hjl gu.out (by rw[←HZ.out];exact h);have akw:Hid (iT (bg l j).rep→iN (bg l j).client (bg l j).id→∀q,q<j+1→iT (bg l q).rep∧iN (bg l q).client (bg l q).id):=fun h1 h2 q hq=>by
    rcases(by omega:q<j∨q=j)with h|rfl
    ·exact sI.out q h
    ·exact⟨h1,h2⟩
   have HAH:Hid ((bg l j).client=Ia l (j+1)):=(al5 l j).symm;have AQ:Hid (xZ (bg l j)):=HT.out.2.2.1 _ (yL hjl);have uS:Hid (dw wr E m (bg l j).rep.keys):=hss;clear hss hjl;obtain⟨x0,x1,x2,x3,x4,x5⟩:=hx;generalize bg l j=d at*;have q1:=fun W=>agH d.client d.id W;have q2:=agN d.rep E m c (wr.alloc (.cells (aD d (.slice E m c)) 90)) (uS.out.below hbw) AQ.out.2.2.1;unfold bX at q2;go_upto_region 7 with fail;clear x0 x1 x2 x3 x4 x5;obtain⟨V,hV⟩:∃V,wr.alloc (.cells (aD d (.slice E m c)) 90)=V:=⟨_,rfl⟩;rw[hV]at hbw hrb q2 ⊢;clear hV;obtain⟨y0,y1,y2,y3,y4,y5⟩:=sN hrb;have mQ:=ah hrb;clear hrb;have eT:=ah (aA HB.out hbw);clear hbw
   by_cases hcz:d.client≤z
   ·have HE:Hid (R=false):=bA.out fun h=>by have:=(HST.out h).2.2;omega
    clear q1 q2;go_wp2_with fail;go_ret;exact⟨by rw[HE.out];rfl,eT.out⟩
   by_cases hg:iN d.client d.id
   rotate_left
   ·have HE:Hid (R=false):=bA.out fun h=>hg (HST.out h).2.1;have e1:FE d.client d.id=false:=decide_eq_false hg;rw[e1]at q1;clear q2 hg e1;go_wp2_with fail
    ((with_reducible refine(q1 _).mono ?_);rintro e W1 ⟨rfl,rfl⟩)
    go_wp2_with fail;go_ret;exact⟨by rw[HE.out];rfl,eT.out⟩
   have e1:FE d.client d.id=true:=decide_eq_true hg;rw[e1]at q1;have HG:=ah hg;clear hg e1
   by_cases hm:iT d.rep
   rotate_left
   ·have HE:Hid (R=false):=bA.out fun h=>hm (HST.out h).1;have e1:mX d.rep=false:=decide_eq_false hm;rw[e1]at q2;clear hm e1;go_wp2_with fail
    ((with_reducible refine(q1 _).mono ?_);rintro e W1 ⟨rfl,rfl⟩)
    go_wp2_with fail
    ((with_reducible refine q2.mono ?_);rintro e W1 ⟨rfl,b1⟩)
    have HB1:=ah (aA eT.out b1);clear q2 b1;go_wp2_with fail;go_ret;exact⟨by rw[HE.out];rfl,HB1.out⟩
   have e1:mX d.rep=true:=decide_eq_true hm;rw[e1]at q2;have HM:=ah hm;clear hm e1;go_wp2_with fail
   ((with_reducible refine(q1 _).mono ?_);rintro e W1 ⟨rfl,rfl⟩)
   go_wp2_with fail
   ((with_reducible refine q2.mono ?_);rintro e W1 ⟨rfl,b1⟩)
   have HB1:=ah (aA eT.out b1);have u0:=(b1.cell (p:=⟨wr.heap.size,0,none⟩) (aj.lt mQ.out)).trans y0;clear q1 q2 b1 y0 y1 y2 y3 y4 y5;have PS:Hid (z<d.client):=by show _<_;omega
   go_wp2_with fail;go_roundw
   case rel=>exact⟨j+1,_,_,rfl,by omega,rfl,HAH.out,by go_num,akw.out HM.out HG.out,lT.out PS.out,HB1.out⟩
   case measure=>simp[intOf];omega
  ·have iw:j=n:=by omega
   subst iw;have htl:l.take j=l:=by rw[List.take_of_length_le];have:=HN.out;omega
   rw[htl]at gu;have hall:∀d∈l,iT d.rep∧iN d.client d.id:=fun r hr=>by
    obtain⟨q,hq,rfl⟩:=List.getElem_of_mem hr;have:=sI.out q (by have:=HN.out;omega);rw[lZ hq]at this;exact this
   have HE:Hid (R=true):=iF.out ⟨hall,gu.out,by have:=HN.out;omega⟩;clear hlt htl hall;go_wp2_with fail;go_ret;exact⟨by rw[HE.out];rfl,HB.out⟩
theorem asx:alT:=fun l A n cap w _ h _=>ahn l A n cap w h
def ad3 (w:World) (r:dx) (z:Nat) (e:Ending) (w':World):Prop:=
 ∃K k kc,e= .returned (.tuple #[bX r (.slice K k kc),.int .i64 z])∧k≤kc∧yK w' K k r.keys∧Below w.heap.size w w'
theorem Rv (w:World):yK w none 0 []:=⟨sW _ _,fun h=>absurd h (by omega)⟩
theorem agz (l:List aF) (c i:Int) (A:Option Addr) (n cap:Nat) (w:World) (h:jr w A n l):
  Calls Tryz.prog 42 #[.slice A n cap,.int .i64 c,.int .i64 i] w (ad3 w (dJ l c i).1 (dJ l c i).2):=by
 have jy:=h.2.1;unfold maxLen at jy;have HN:Hid (n=l.length):=h.1;have hb0:Below w.heap.size w (w.alloc (.cells z4 43)):=ak _ _;have hz0:=aj.new w (.cells z4 43);have hts:=h.below hb0;obtain⟨W0,hW0⟩:=aQ (w.alloc (.cells z4 43));rw[hW0]at hb0 hz0 hts;have HT:=ah hts;clear hts h;have HZ:=ah hz0;clear hz0;have HB:=ah hb0;clear hb0;have q:=ahn l A n cap W0 HT.out;have HBAD:Hid (¬(j4 l∧iN c i)→dJ l c i=(lK,1)):=fun h=>if_pos h;have Px:Hid (j4 l∧iN c i→dJ l c i=wP (jF l c) i):=fun h=>Ja h.1 h.2;have lY:Hid (∀b,tF l=b→(b=true↔j4 l)):=fun b hb=>by rw[←hb];exact Ny
 obtain⟨b,hb⟩:∃b,tF l=b:=⟨_,rfl⟩;have mQ:=ah (lY.out b hb);rw[hb]at q;clear hb lY;generalize dJ l c i=L at*;go_enter Tryz.func42,Tryz.ntmps42;go_wp2_with fail
 ((with_reducible refine q.mono ?_);rintro e W1 ⟨rfl,b1⟩)
 clear q;have HZ1:=ah (aj.below HZ.out b1);have HT1:=ah (HT.out.below b1);have HB1:=ah (aA HB.out b1);clear b1
 cases b with
 |false=>
  have HE:Hid (L=(lK,1)):=HBAD.out fun h=>by have:=mQ.out.2 h.1;cases this
  obtain⟨z0,z1,z2,z3⟩:=aY HZ1.out;obtain⟨f0,f1,f2,f3⟩:=dX HZ1.out;have hfin:=tJ HZ1.out (.int .i64 0) (.int .i64 0) (.string ⟨#[]⟩) (.slice none 0 0);obtain⟨e0,e1,e2,e3⟩:=aY hfin;have aU:=ah (wF (g:=w.heap.size) HB1.out (Nat.le_refl _) (.int .i64 0) (.int .i64 0) (.string ⟨#[]⟩) (.slice none 0 0));clear hfin;go_wp2_with fail;refine bodyPost_ret (v:=.tuple #[.agg z4,.int .i64 1]) (by simp[results,Tryz.results42,go_sem,e0,e1,e2,e3]) rfl (by rw[HE.out];exact⟨none,0,0,rfl,Nat.le_refl _,Rv _,aU.out⟩)
 |true=>
  have HR:Hid (j4 l):=mQ.out.1 rfl;clear mQ;have q:=fun W=>agH c i W
  by_cases hg:iN c i
  rotate_left
  ·have HE:Hid (L=(lK,1)):=HBAD.out fun h=>hg h.2;have e1:FE c i=false:=decide_eq_false hg;rw[e1]at q;clear hg e1;go_wp2_with fail
   ((with_reducible refine(q _).mono ?_);rintro e W_ ⟨rfl,rfl⟩)
   clear q;obtain⟨z0,z1,z2,z3⟩:=aY HZ1.out;obtain⟨f0,f1,f2,f3⟩:=dX HZ1.out;have hfin:=tJ HZ1.out (.int .i64 0) (.int .i64 0) (.string ⟨#[]⟩) (.slice none 0 0);obtain⟨e0,e1,e2,e3⟩:=aY hfin;have aU:=ah (wF (g:=w.heap.size) HB1.out (Nat.le_refl _) (.int .i64 0) (.int .i64 0) (.string ⟨#[]⟩) (.slice none 0 0));clear hfin;go_wp2_with fail;refine bodyPost_ret (v:=.tuple #[.agg z4,.int .i64 1]) (by simp[results,Tryz.results42,go_sem,e0,e1,e2,e3]) rfl (by rw[HE.out];exact⟨none,0,0,rfl,Nat.le_refl _,Rv _,aU.out⟩)
  have xA:=ah (Px.out ⟨HR.out,hg⟩);have e1:FE c i=true:=decide_eq_true hg;rw[e1]at q;clear hg e1 Px HBAD;go_wp2_with fail
  ((with_reducible refine(q _).mono ?_);rintro e W_ ⟨rfl,rfl⟩)
  clear q;have q:=afg A n cap l c W1 HT1.out HR.out.2.1 (by have:=HR.out.2.2;have:=HN.out;omega);go_wp2_with fail
  ((with_reducible refine q.mono ?_);rintro e W2 ⟨⟨p,th,hp,rfl⟩,b2⟩)
  clear q;have HZ2:=ah (aj.below HZ1.out b2);have HT2:=ah (HT1.out.below b2);have HB2:=ah (aA HB1.out b2);clear b2
  cases th with
  |false=>
   have hno:=abk HR.out.2.1 hp;have HE:Hid (L=(lK,70)):=by show _=_;rw[xA.out,hno];rfl
   clear hno hp;obtain⟨z0,z1,z2,z3⟩:=aY HZ2.out;obtain⟨f0,f1,f2,f3⟩:=dX HZ2.out;have hfin:=tJ HZ2.out (.int .i64 0) (.int .i64 0) (.string ⟨#[]⟩) (.slice none 0 0);obtain⟨e0,e1,e2,e3⟩:=aY hfin;have aU:=ah (wF (g:=w.heap.size) HB2.out (Nat.le_refl _) (.int .i64 0) (.int .i64 0) (.string ⟨#[]⟩) (.slice none 0 0));clear hfin;go_wp2_with fail;refine bodyPost_ret (v:=.tuple #[.agg z4,.int .i64 70]) (by simp[results,Tryz.results42,go_sem,e0,e1,e2,e3]) rfl (by rw[HE.out];exact⟨none,0,0,rfl,Nat.le_refl _,Rv _,aU.out⟩)
  |true=>
   obtain⟨hpl,hlk⟩:=agV HR.out.2.1 hp;have wW:Hid (L=wP (some (bg l p)) i):=by show _=_;rw[xA.out,hlk]
   clear hp hlk xA;have hpn:p<n:=by have:=HN.out;omega
   have hp0:(0:Int)≤(p:Int):=by omega
   have hpi:(p:Int)<(n:Int):=by omega
   obtain⟨b,off,hA,_⟩:=HT2.out.block (by omega);subst hA;obtain⟨E,m,cc,hx,_,hss⟩:=HT2.out.at hpl (Below.refl _ _);have uS:=ah hss;clear hss;have AQ:Hid (xZ (bg l p)):=HT2.out.2.2.1 _ (yL hpl);obtain⟨x0,x1,x2,x3,x4,x5⟩:=hx;clear hpl;generalize bg l p=d at*
   by_cases hlt:d.id<i
   ·have HE:Hid (L=(lK,70)):=by show _=_;rw[wW.out];exact if_pos hlt
    clear wW;obtain⟨z0,z1,z2,z3⟩:=aY HZ2.out;obtain⟨f0,f1,f2,f3⟩:=dX HZ2.out;have hfin:=tJ HZ2.out (.int .i64 0) (.int .i64 0) (.string ⟨#[]⟩) (.slice none 0 0);obtain⟨e0,e1,e2,e3⟩:=aY hfin;have aU:=ah (wF (g:=w.heap.size) HB2.out (Nat.le_refl _) (.int .i64 0) (.int .i64 0) (.string ⟨#[]⟩) (.slice none 0 0));clear hfin;go_wp2_with fail;refine bodyPost_ret (v:=.tuple #[.agg z4,.int .i64 70]) (by simp[results,Tryz.results42,go_sem,e0,e1,e2,e3]) rfl (by rw[HE.out];exact⟨none,0,0,rfl,Nat.le_refl _,Rv _,aU.out⟩)
   by_cases hgt:i<d.id
   ·have HE:Hid (L=(lK,81)):=by show _=_;rw[wW.out];unfold wP;simp only;rw[if_neg hlt,if_pos hgt]
    clear wW;obtain⟨z0,z1,z2,z3⟩:=aY HZ2.out;obtain⟨f0,f1,f2,f3⟩:=dX HZ2.out;have hfin:=tJ HZ2.out (.int .i64 0) (.int .i64 0) (.string ⟨#[]⟩) (.slice none 0 0);obtain⟨e0,e1,e2,e3⟩:=aY hfin;have aU:=ah (wF (g:=w.heap.size) HB2.out (Nat.le_refl _) (.int .i64 0) (.int .i64 0) (.string ⟨#[]⟩) (.slice none 0 0));clear hfin;go_wp2_with fail;refine bodyPost_ret (v:=.tuple #[.agg z4,.int .i64 81]) (by simp[results,Tryz.results42,go_sem,e0,e1,e2,e3]) rfl (by rw[HE.out];exact⟨none,0,0,rfl,Nat.le_refl _,Rv _,aU.out⟩)
   have HE:Hid (L=(d.rep,0)):=by show _=_;rw[wW.out];unfold wP;simp only;rw[if_neg hlt,if_neg hgt]
   clear wW;have q:=Us d.rep E m cc W2 uS.out (by have h1:=AQ.out.2.2.2;have h2:=uS.out.1;omega);unfold bX at q;go_wp2_with fail
   ((with_reducible refine q.mono ?_);rintro e W3 ⟨A1,m1,c1,rfl,hc1,KO,Rb,b3⟩)
   unfold bX;clear q x0 x1 x2 x3 x4 x5;have HZ3:=ah (aj.below HZ2.out b3);have HB3:=ah (aA HB2.out b3);clear b3;have Gs:=ah hc1;clear hc1;have XR:Hid (yK W3 A1 m1 d.rep.keys):=⟨KO,Rb⟩;clear KO Rb;have hs1:=aj.set HZ3.out 0 (.int .i64 d.rep.errno) (bR d.rep.errno (.slice none 0 0)) rfl;have hs2:=aj.set hs1 1 (.int .i64 d.rep.rev) #[.int .i64 d.rep.errno,.int .i64 d.rep.rev,.string ⟨#[]⟩,.slice none 0 0] rfl;have hs3:=aj.set hs2 2 (.string d.rep.value) (aR d.rep (.slice none 0 0)) rfl;have gV:=ah ((((XR.out.far (j:=0) (u:=.int .i64 d.rep.errno) HZ3.out (by decide)).far (j:=1) (u:=.int .i64 d.rep.rev) hs1 (by decide)).far (j:=2) (u:=.string d.rep.value) hs2 (by decide)).far (j:=3) (u:=.slice A1 m1 c1) hs3 (by decide));clear hs1 hs2 hs3;obtain⟨z0,z1,z2,z3⟩:=aY HZ3.out;obtain⟨f0,f1,f2,f3⟩:=dX HZ3.out;have hfin:=tJ HZ3.out (.int .i64 d.rep.errno) (.int .i64 d.rep.rev) (.string d.rep.value) (.slice A1 m1 c1);obtain⟨e0,e1,e2,e3⟩:=aY hfin;have aU:=ah (wF (g:=w.heap.size) HB3.out (Nat.le_refl _) (.int .i64 d.rep.errno) (.int .i64 d.rep.rev) (.string d.rep.value) (.slice A1 m1 c1));clear hfin;go_wp2_with fail;refine bodyPost_ret (v:=.tuple #[.agg (aR d.rep (.slice A1 m1 c1)),.int .i64 0]) (by simp[results,Tryz.results42,go_sem,e0,e1,e2,e3]) rfl (by rw[HE.out];exact⟨A1,m1,c1,rfl,Gs.out,gV.out,aU.out⟩)
theorem agy (l:List aF) (c i:Int) (A:Option Addr) (n cap:Nat) (w:World) (h:jr w A n l):
  Calls Tryz.prog 42 #[.slice A n cap,.int .i64 c,.int .i64 i] w (Za w (dJ l c i).1 (dJ l c i).2):=
 (agz l c i A n cap w h).mono fun e w' ⟨K,k,kc,h1,h2,h3,h4⟩=>⟨K,k,kc,h1,h2,h3.1,h4⟩
theorem aqu:alL:=fun l c i A n cap w _ h _ _ _=>agy l c i A n cap w h
end Go.Proofs.YtodaapcohdpenaaGreat
namespace Go.Proofs.YtodaapcohdpenaaGreat
open Go.RowKit
def F7:Array Value→Nat→List Value→Array Value
 |cur,_,[]=>cur
 |cur,o,v::r=>F7 (cur.setIfInBounds o v) (o+1) r
theorem Kw {g:Nat} {T:TypeId}:∀(vs:List Value) (o:Nat) (cur:Array Value) (W:World),aj W g (.cells cur T (0,0))→aj (W.setCells g o vs) g (.cells (F7 cur o vs) T (0,0))
 |[],_,_,_,h=>h
 |v::r,o,cur,W,h=>Kw r (o+1) _ _ (aj.set h o v _ rfl)
theorem F8:∀(vs:List Value) (o:Nat) (cur:Array Value),(F7 cur o vs).size=cur.size
 |[],_,_=>rfl
 |v::r,o,cur=>by rw[F7,F8 r];simp
theorem R8:∀(vs:List Value) (o:Nat) (cur:Array Value),o+vs.length≤cur.size→(F7 cur o vs).toList=cur.toList.take o++(vs++cur.toList.drop (o+vs.length))
 |[],o,cur,_=>by simp[F7]
 |v::r,o,cur,h=>by
  rw[List.length_cons]at h;have ho:o<cur.toList.length:=by simp;omega
  rw[F7,R8 r (o+1) _ (by simp;omega),Array.toList_setIfInBounds,List.set_eq_take_append_cons_drop,if_pos ho];have hl:(cur.toList.take o).length=o:=by rw[List.length_take];omega
  have e1:(cur.toList.take o++v::cur.toList.drop (o+1)).take (o+1)=cur.toList.take o++[v]:=by
   rw[List.take_append,hl,List.take_of_length_le (by rw[hl];omega),show o+1-o=1 by omega];rfl
  have e2:(cur.toList.take o++v::cur.toList.drop (o+1)).drop (o+1+r.length)=cur.toList.drop (o+(v::r).length):=by
   rw[List.drop_append,hl,List.drop_of_length_le (by rw[hl];omega),show o+1+r.length-o=r.length+1 by omega,List.nil_append,List.drop_succ_cons,List.drop_drop,List.length_cons,show o+1+r.length=o+(r.length+1) by omega]
  rw[e1,e2,List.append_assoc];rfl
theorem KH (g:Nat):∀(vs:List Value) (o:Nat) (w:World),w.grownBy (w.setCells g o vs) (some g)
 |[],_,w=>⟨rfl,rfl,rfl,Nat.le_refl _,fun _ _ _=>rfl⟩
 |v::r,o,w=>(gB w g o v).trans (KH g r (o+1) _)
theorem ao7 (w:World) (row:Option Nat):w.grownBy w.drew row:=⟨rfl,rfl,rfl,Nat.le_refl _,fun _ _ _=>rfl⟩
theorem ahF (b:Nat):∀(vs:List Value) (o:Nat) (w:World),w.drew.setCells b o vs=(w.setCells b o vs).drew
 |[],_,_=>rfl
 |v::r,o,w=>ahF b r (o+1) (w.setCell ⟨b,o,none⟩ v)
theorem Ie (p:aF×Value):(kW p).length=6:=rfl
theorem aud {l:List (aF×Value)} {i:Nat} (hi:i≤l.length):(cellsD l).take (i*6)=cellsD (l.take i):=by
 have hl:(l.take i).length=i:=by rw[List.length_take];omega
 have e:cellsD l=cellsD (l.take i)++cellsD (l.drop i):=by rw[←Ih,List.take_append_drop]
 rw[e,List.take_left' (by rw[uY,hl])]
theorem aoq {l:List (aF×Value)} {i:Nat} (hi:i≤l.length):(cellsD l).drop (i*6)=cellsD (l.drop i):=by
 have hl:(l.take i).length=i:=by rw[List.length_take];omega
 have e:cellsD l=cellsD (l.take i)++cellsD (l.drop i):=by rw[←Ih,List.take_append_drop]
 rw[e,List.drop_left' (by rw[uY,hl])]
theorem ahv {W:World} {base g cap n:Nat} {cur:Array Value} {l:List (aF×Value)} (hb:base≤g) (hk:aj W g (.cells cur 90 (0,0))) (hs:cur.size=cap*6) (hc:cap≤maxLen) (hl:l.length=n) (hn:n≤cap) (ht:cur.toList.take (n*6)=cellsD l):dG W base (.slice (some ⟨g,0,none⟩) n cap) l:=
 ⟨by rw[uY],.inr ⟨g,cap,cur,by rw[hl],hb,hk,by rw[hl];exact hn,hc,hs,by rw[hl];exact ht⟩⟩
theorem dG.blk {W:World} {base g cap n:Nat} {l:List (aF×Value)} (h:dG W base (.slice (some ⟨g,0,none⟩) n cap) l):∃cur,base≤g∧aj W g (.cells cur 90 (0,0))∧cur.size=cap*6∧cap≤maxLen∧n=l.length∧n≤cap∧cur.toList.take (n*6)=cellsD l:=by
 rcases h.2 with⟨h1,_⟩|⟨g2,cap2,cur,h1,hb,hh,hnc,hcm,hcs,htk⟩
 ·simp at h1
 ·simp only[Value.slice.injEq,Option.some.injEq,Addr.mk.injEq,and_true]at h1;obtain⟨rfl,rfl,rfl⟩:=h1;exact⟨cur,hb,hh,hcs,hcm,rfl,hnc,htk⟩
theorem agj {l:List (aF×Value)} {q:aF×Value} {i:Nat} (hi:i≤l.length):(l.take i++q::l.drop i).length=l.length+1:=by
 rw[List.length_append,List.length_cons,List.length_take,List.length_drop];omega
theorem agh {l:List (aF×Value)} {q:aF×Value} {i:Nat}:cellsD (l.take i++q::l.drop i)=cellsD (l.take i)++(kW q++cellsD (l.drop i)):=by rw[Ih,Qf]
theorem asK {W:World} {base g cap i:Nat} {cur:Array Value} {l:List (aF×Value)} {q:aF×Value} (hb:base≤g) (hk:aj W g (.cells cur 90 (0,0))) (hs:cur.size=cap*6) (hc:cap≤maxLen) (hn:l.length+1≤cap) (hi:i≤l.length) (ht:cur.toList.take (i*6)=cellsD (l.take i)):
  dG ((W.setCells g ((i+1)*6) (cellsD (l.drop i))).setCells g (i*6) (kW q)) base (.slice (some ⟨g,0,none⟩) (l.length+1) cap) (l.take i++q::l.drop i):=by
 have hd:(cellsD (l.drop i)).length=(l.length-i)*6:=by rw[uY,List.length_drop]
 have hcl:cur.toList.length=cap*6:=by simp[hs]
 have hT:(cellsD (l.take i)).length=i*6:=by rw[uY,List.length_take];omega
 refine ahv hb (Kw _ _ _ _ (Kw _ _ _ _ hk)) (by rw[F8,F8];exact hs) hc (agj hi) hn ?_;rw[R8 _ _ _ (by rw[F8,Ie];omega),R8 _ _ _ (by rw[hd];omega),agh];have e1:(cur.toList.take ((i+1)*6)++(cellsD (l.drop i)++cur.toList.drop ((i+1)*6+(cellsD (l.drop i)).length))).take (i*6)=cellsD (l.take i):=by
  rw[List.take_append_of_le_length (by rw[List.length_take];omega),List.take_take,Nat.min_eq_left (by omega)];exact ht
 have e2:(cur.toList.take ((i+1)*6)++(cellsD (l.drop i)++cur.toList.drop ((i+1)*6+(cellsD (l.drop i)).length))).drop (i*6+(kW q).length)=cellsD (l.drop i)++cur.toList.drop ((i+1)*6+(cellsD (l.drop i)).length):=by
  rw[List.drop_left' (by rw[List.length_take,Ie];omega)]
 rw[e1,e2,←List.append_assoc,←List.append_assoc,List.append_assoc (cellsD (l.take i)),List.take_left' (by rw[List.length_append,List.length_append,hT,Ie,hd];omega)]
theorem asL {W:World} {base g cap i:Nat} {cur:Array Value} {l:List (aF×Value)} {q:aF×Value} (hb:base≤g) (hk:aj W g (.cells cur 90 (0,0))) (hs:cur.size=cap*6) (hc:cap≤maxLen) (hn:l.length+1≤cap) (hi:i≤l.length) (ht:cur.toList.take (i*6)=cellsD (l.take i)):
  dG ((W.setCells g (i*6) (kW q)).setCells g ((i+1)*6) (cellsD (l.drop i))) base (.slice (some ⟨g,0,none⟩) (l.length+1) cap) (l.take i++q::l.drop i):=by
 have hd:(cellsD (l.drop i)).length=(l.length-i)*6:=by rw[uY,List.length_drop]
 have hcl:cur.toList.length=cap*6:=by simp[hs]
 have hT:(cellsD (l.take i)).length=i*6:=by rw[uY,List.length_take];omega
 refine ahv hb (Kw _ _ _ _ (Kw _ _ _ _ hk)) (by rw[F8,F8];exact hs) hc (agj hi) hn ?_;rw[R8 _ _ _ (by rw[F8,hd];omega),R8 _ _ _ (by rw[Ie];omega),agh,ht];have e1:(cellsD (l.take i)++(kW q++cur.toList.drop (i*6+(kW q).length))).take ((i+1)*6)=cellsD (l.take i)++kW q:=by
  rw[←List.append_assoc,List.take_left' (by rw[List.length_append,hT,Ie];omega)]
 rw[e1,←List.append_assoc,List.take_left' (by rw[List.length_append,List.length_append,hT,Ie,hd];omega),List.append_assoc]
theorem VW (w:World) (ty:TypeId) (b o dLen dCap:Nat) (a:Addr) (sLen sCap k:Nat) (cs:List Value) (hk:Nat.min sLen dLen=k) (hn:cs.length=k*6)
  (hsrc:∀j v,cs[j]? =some v→w.cell? (a.add j)=some v) (hc:∀j,j<cs.length→(w.cell? ⟨b,o+j,none⟩).isSome=true) (hf:∀j,j<cs.length→w.frozen? ⟨b,o+j,none⟩=false) (h1:∀v∈cs,v.oneCell'=true):
  (Builtin.copy_ #[24,24] ty #[.slice (some ⟨b,o,none⟩) dLen dCap,.slice (some a) sLen sCap]).run Tryz.prog w= .ok (.int .i64 k) (w.setCells b o cs):=by
 obtain⟨i0,hi,_,hz1,_⟩:=info_parts Rp;have hl:=run_loadCells_list (P:=Tryz.prog) w a cs hsrc;have hst:=run_storeCells_cells (P:=Tryz.prog) b o cs 0 w (by simpa using hc) (by simpa using hf) h1;rw[hn]at hl;simp[Builtin.copy_,run_underlying Tryz.underlying24,Builtin.lenOf,Builtin.firstCells,sizeOf,typeInfo,hi,hz1,hk,hl,hst,goInt]
theorem ahT {w:World} {ops:Array Oper} {o:Oper} {a:Act} {K:Act→World→Prop} {Q:Exit→Act→World→Prop} {E:Prop} (hgd:o.guard=none) (d x:Operand)
  (ho:o.op= .call { callee:=.builtin .copy,args:=#[d,x],argTypes:=#[24,24] }) (v u:Value) (hd:a.eval d=v) (hx:a.eval x=u) {v1:Value} {w1:World}
  (hr:(Builtin.copy_ #[24,24] o.type #[v,u]).run Tryz.prog w= .ok v1 w1) (h:K (a.put o.dst v1) w1):
  if Region.wanted o (yielded ops a.tmps)=true then Oper.wp Tryz.prog o a w K Q else E:=by
 have hw:Region.wanted o (yielded ops a.tmps)=true:=by simp[Region.wanted,hgd]
 rw[if_pos hw];unfold Oper.wp execOp;simp only[ho,resolve,invoke,builtin,Sem.run_bind,Sem.run_pure,Result.andThen_ok,List.map_toArray,List.map_cons,List.map_nil,hd,hx,hr];exact h
theorem amV {q:aF×Value} {E:Option Addr} {m c:Nat} (h:q.2= .slice E m c):∀v∈kW q,v.oneCell'=true:=by
 intro v hv;simp[kW,h]at hv;rcases hv with rfl|rfl|rfl|rfl|rfl|rfl<;>rfl
theorem ahM {W:World} {b o:Nat} {q:aF×Value} (h:tT W b o q.1 q.2):∀j u,(kW q)[j]? =some u→W.cell? ((⟨b,o,none⟩:Addr).add j)=some u:=by
 intro j u hj;have hl:j<6:=(List.getElem?_eq_some_iff.1 hj).1;rw[Zm];obtain⟨c0,c1,c2,c3,c4,c5⟩:=h;rcases(by omega:j=0∨j=1∨j=2∨j=3∨j=4∨j=5)with rfl|rfl|rfl|rfl|rfl|rfl
 ·rw[←hj];exact c0
 ·rw[←hj];exact c1
 ·rw[←hj];exact c2
 ·rw[←hj];exact c3
 ·rw[←hj];exact c4
 ·rw[←hj];exact c5
theorem Uj {W:World} {g:Nat} {cur:Array Value} {T:TypeId} (h:aj W g (.cells cur T (0,0))) {j:Nat} (hj:j<cur.size):(W.cell? ⟨g,j,none⟩).isSome=true:=by
 rw[aj.cell h j,Array.getElem?_eq_getElem hj];rfl
theorem ZA {W:World} {g o:Nat} {cur:Array Value} {T:TypeId} {cs:List Value} (h:aj W g (.cells cur T (0,0))) (hc:(cur.toList.drop o).take cs.length=cs):∀j u,cs[j]? =some u→W.cell? ((⟨g,o,none⟩:Addr).add j)=some u:=by
 intro j u hj;have hl:j<cs.length:=(List.getElem?_eq_some_iff.1 hj).1;rw[Zm,aj.cell h,←Array.getElem?_toList,←hj];have e:cs[j]? =((cur.toList.drop o).take cs.length)[j]? :=by rw[hc]
 rw[e,List.getElem?_take,if_pos hl,List.getElem?_drop]
end Go.Proofs.YtodaapcohdpenaaGreat
namespace Go.Proofs.YtodaapcohdpenaaGreat
open Go.RowKit
def alK (w:World) (base:Nat) (row:Option Nat) (l:List (aF×Value)) (q:aF×Value) (i:Nat) (e:Ending) (w':World):Prop:=
 ∃v,e= .returned v∧dG w' base v (l.take i++q::l.drop i)∧w.grownBy w' row
theorem arL {w:World} {vb:Nat} {q:aF×Value} (h:aj w vb (.cells (aD q.1 q.2) 90 (0,0))):uf w (some ⟨vb,0,none⟩) 1 [q]:=
 ⟨rfl,by unfold maxLen;omega,fun _=>⟨vb,0,rfl,aj.lt h,fun i hi=>by
  have:i=0:=by simpa using hi
  subst this;exact⟨aj.cell h 0,aj.cell h 1,aj.cell h 2,aj.cell h 3,aj.cell h 4,aj.cell h 5⟩⟩⟩
theorem ap3 (l:List (aF×Value)) (q:aF×Value) (A:Option Addr) (n cap i base vb:Nat) (w:World) (hrow:dG w base (.slice A n cap) l) (hn:n=l.length) (hi:i≤n) (h20:n≤20) (hbase:base≤w.heap.size)
  (hv:aj w vb (.cells (aD q.1 q.2) 90 (0,0))) (hq:∃E m c,q.2= .slice E m c) (hvb:(Value.slice A n cap).ownBlock≠some vb) (hsl:zN l):
  Calls Tryz.prog 88 #[.slice A n cap,.int .i64 i,.slice (some ⟨vb,0,none⟩) 1 1] w (alK w base (Value.slice A n cap).ownBlock l q i):=by
 have nL:Hid (zN [q]):=fun p hp=>by rw[List.mem_singleton]at hp;rw[hp];exact hq
 have EW:=ah (arL hv);have HSL:=ah hsl;clear hsl;have HN:=ah hn;clear hn;have Ol:=ah hbase;clear hbase;have hcap:n≤cap:=by
  rcases hrow.2 with⟨h1,h2⟩|⟨g,cp,cur,h1,_,_,h3,_⟩
  ·simp only[Value.slice.injEq]at h1;omega
  ·simp only[Value.slice.injEq]at h1;have:=HN.out;omega
 have hin:(i:Int)≤(n:Int):=by omega
 have hi0:(0:Int)≤(i:Int):=by omega
 rcases Nat.lt_or_eq_of_le hi with hlt|heq;rotate_left
 ·subst heq;have JY:Hid (l.take i++q::l.drop i=l++[q]):=by show _=_;rw[HN.out,List.take_length,List.drop_length]
  have eY:=ah hrow;clear hrow;obtain⟨X,hX⟩:∃X,(if cap=i then A else Option.map (fun x=>x.add (i*6)) A)=X:=⟨_,rfl⟩;clear hvb hq hv;go_enter Tryz.func88,Tryz.ntmps88;go_wp2_with (at_builtin;refine Li rfl _ _ rfl base _ l rfl eY.out (some ⟨vb,0,none⟩) 1 1 [q] rfl EW.out nL.out (by have:=HN.out;omega) Ol.out ?_)
  all_goals
   intro v1 w1 vC KN;have HR1:=ah vC;clear vC;have nZ:=ah KN;clear KN;go_wp2_with fail;go_ret;exact⟨_,rfl,by rw[JY.out];exact HR1.out,nZ.out⟩
 obtain⟨g,hA,hbg⟩:=hrow.qh (i:=i) (by have:=HN.out;omega);subst hA;obtain⟨cur,IG,hblk,hcs,hcm,jy,pJ,htk⟩:=hrow.blk;clear IG jy pJ;have Rl:vb≠g:=fun e=>hvb (by rw[e];rfl);have jB:Hid (i<l.length):=by have:=HN.out;show i<_;omega
 have hpre:cur.toList.take (i*6)=cellsD (l.take i):=by
  rw[←aud (Nat.le_of_lt jB.out),←htk,List.take_take,Nat.min_eq_left (by omega)]
 have BA:(cur.toList.drop (i*6)).take (cellsD (l.drop i)).length=cellsD (l.drop i):=by
  have hd:(cellsD (l.drop i)).length=(n-i)*6:=by rw[uY,List.length_drop,HN.out]
  rw[←aoq (Nat.le_of_lt jB.out),←htk,List.drop_take,List.length_take,List.length_drop,Array.length_toList,hcs];exact congrArg (fun k=>(cur.toList.drop (i*6)).take k) (by simp only[Nat.min_def];split<;>omega)
 have hd:(cellsD (l.drop i)).length=(n-i)*6:=by rw[uY,List.length_drop,HN.out]
 have hone:∀v∈cellsD (l.drop i),v.oneCell'=true:=ZJ (fun p hp=>HSL.out p (List.mem_of_mem_drop hp));obtain⟨Eq,mq,cq,hq2⟩:=hq;have FP:=amV hq2;have KP:tT w vb 0 q.1 q.2:=⟨aj.cell hv 0,aj.cell hv 1,aj.cell hv 2,aj.cell hv 3,aj.cell hv 4,aj.cell hv 5⟩;have hc1:¬(cap=i):=by omega
 have hz1:¬((i:Int)=(n:Int)):=by omega
 have hz2:((i:Int)==(n:Int))=false:=by rw[beq_eq_false_iff_ne];exact hz1
 have hwn:IntKind.i64.wrap ((n:Int)+1)=(n:Int)+1:=IntWalk.i64_in _ (by omega);have hwi:IntKind.i64.wrap ((i:Int)+1)=(i:Int)+1:=IntWalk.i64_in _ (by omega)
 by_cases hroom:n+1≤cap
 ·have rz:Hid (∀W:World,aj W g (.cells cur 90 (0,0))→dG ((W.setCells g ((i+1)*6) (cellsD (l.drop i))).setCells g (i*6) (kW q)) base (.slice (some ⟨g,0,none⟩) (n+1) cap) (l.take i++q::l.drop i)):=fun W hk=>by
   have:=asK (q:=q) hbg hk hcs hcm (by have:=HN.out;omega) (Nat.le_of_lt jB.out) hpre;rw[←HN.out]at this;exact this
  have hov:∀(lb cb:Nat),(callFunc 139 #[.slice (some ⟨vb,0,none⟩) 1 1,.slice (some ⟨g,(i+1)*6,none⟩) lb cb]).run Tryz.prog w= .ok (.value (.bool false)) w:=fun lb cb=>by
   have aaO:w.shape? vb=some (90,6):=by unfold World.shape?;rw[show w.heap[vb]? =_ from hv];rfl
   have aaN:w.shape? g=some (90,cap*6):=by unfold World.shape?;rw[show w.heap[g]? =_ from hblk];exact congrArg (fun k=>some (90,k)) hcs
   obtain⟨i0,hi0,_,hs0,_⟩:=info_parts Rp;rw[run_callFunc_extern Tryz.func139 (by kernel_rfl) (by kernel_rfl) (by kernel_rfl) (e:=Extern.SlicesOverlaps.overlaps #[24,24] #[4]) (by kernel_rfl),
    Lib.run_overlaps_apart w 24 4 90 Tryz.underlying24 6 (fun w=>by simp[sizeOf,typeInfo,hi0,hs0]) ⟨vb,0,none⟩ ⟨g,(i+1)*6,none⟩ 1 1 lb cb Rl 90 90 6 (cap*6) aaO aaN (by omega) (aj.frozen hv 0) (aj.frozen hv 6)]
   rfl
  have hcp1:∀(ty:TypeId) (o2 dl dc o3 sl sc:Nat),o2=(i+1)*6→o3=i*6→Nat.min sl dl=n-i→(Builtin.copy_ #[24,24] ty #[.slice (some ⟨g,o2,none⟩) dl dc,.slice (some ⟨g,o3,none⟩) sl sc]).run Tryz.prog w.drew= .ok (.int .i64 (n-i:Nat)) (w.drew.setCells g ((i+1)*6) (cellsD (l.drop i))):=fun ty o2 dl dc o3 sl sc h2 h3 hm=>by
   subst h2 h3;exact VW w.drew ty g _ dl dc ⟨g,_,none⟩ sl sc (n-i) _ hm hd (ZA (aj.drew hblk) BA) (fun j hj=>Uj (aj.drew hblk) (by rw[hcs];omega)) (fun j hj=>aj.frozen (aj.drew hblk) _) hone
  obtain⟨W1,hW1⟩:=aQ (w.drew.setCells g ((i+1)*6) (cellsD (l.drop i)));have hblk1:aj W1 g (.cells (F7 cur ((i+1)*6) (cellsD (l.drop i))) 90 (0,0)):=by rw[←hW1];exact Kw _ _ _ _ (aj.drew hblk)
  have hv1:tT W1 vb 0 q.1 q.2:=by
   have hk:=KH g (cellsD (l.drop i)) ((i+1)*6) w.drew;rw[hW1]at hk;have hvk:aj W1 vb (.cells (aD q.1 q.2) 90 (0,0)):=aj.kept (aj.drew hv) hk (fun e=>Rl (by cases e;rfl));exact⟨aj.cell hvk 0,aj.cell hvk 1,aj.cell hvk 2,aj.cell hvk 3,aj.cell hvk 4,aj.cell hvk 5⟩
  have hcp2:∀(ty:TypeId) (o2 dl dc sl sc:Nat),o2=i*6→Nat.min sl dl=1→(Builtin.copy_ #[24,24] ty #[.slice (some ⟨g,o2,none⟩) dl dc,.slice (some ⟨vb,0,none⟩) sl sc]).run Tryz.prog W1= .ok (.int .i64 (1:Nat)) (W1.setCells g (i*6) (kW q)):=fun ty o2 dl dc sl sc h2 hm=>by
   subst h2;exact VW W1 ty g _ dl dc ⟨vb,0,none⟩ sl sc 1 _ hm rfl (ahM hv1) (fun j hj=>Uj hblk1 (by rw[F8,hcs];rw[Ie]at hj;omega)) (fun j hj=>aj.frozen hblk1 _) FP
  have HF:=ah (rz.out w.drew (aj.drew hblk));rw[hW1]at HF hcp1;have HG:Hid (w.grownBy (W1.setCells g (i*6) (kW q)) (some g)):=by
   have h1:=KH g (cellsD (l.drop i)) ((i+1)*6) w.drew;rw[hW1]at h1;exact((ao7 w _).trans h1).trans (KH g _ _ _)
  have hb1:(n:Int)+1≤(cap:Int):=by omega
  have hb2:¬((cap:Int)<(n:Int)+1):=by omega
  have hb3:(0:Int)≤(n:Int)+1:=by omega
  have hb4:(0:Int)≤(i:Int)+1:=by omega
  have hb5:(i:Int)+1≤(n:Int)+1:=by omega
  have hb6:(i:Int)≤(n:Int)+1:=by omega
  have hc2:¬(cap=i+1):=by omega
  have HL:Hid (i<n∧n+1≤cap):=⟨hlt,hroom⟩;have Sr:=ah hblk;have J8:=ah hv;have HW1:=ah hW1;clear hrow hblk hcs hcm htk hpre BA hd hone FP KP hq2 hblk1 hv1 rz hW1 hv hvb hbg;go_enter Tryz.func88,Tryz.ntmps88;go_wp2_with (simp only[hov]);go_upto_region 15 with(simp only[hov]);refine wp_region_noPanic ?_;refine wp_region_held_drew (S:=(fun _=>True)) (by kernel_rfl) (trivial) (fun hHeld=>?_);refine ay 0 ?_;refine ay 1 ?_;refine ay 2 ?_;refine ay 3 ?_;refine ay 4 ?_;refine ay 5 ?_;refine ay 6 ?_;refine ay 7 ?_;refine wpAnyH_ready (rs:=[8]) (by kernel_rfl) (by simp) ?_;refine AllReadyH.cons rfl (fun K hK=>?_) AllReadyH.nil;refine ahT rfl _ _ rfl _ _ rfl rfl (hcp1 _ _ _ _ _ _ _ (by omega) (by omega) (by have:=HL.out;simp only[Nat.min_def];split<;>omega)) ?_;refine hK.out _ _ trivial fun hHeld=>?_;clear hK K;refine wpAnyH_done (by kernel_rfl) ?_ _;refine NoPanic.normal ?_;have hx2:=hcp2 3 (i*6) (n+1-i) (cap-i) 1 1 rfl (by have:=HL.out;simp only[Nat.min_def];split<;>omega);clear hcp1 hcp2;go_wp2_with fail;go_ret;exact⟨_,rfl,HF.out,HG.out⟩
 ·have hcn:cap=n:=by omega
  subst hcn;clear hroom hcap;obtain⟨i0,hi0,hz0,hs0,hb0⟩:=info_parts Rp;have yQ:(cellsD (l.take i)).length=i*6:=by rw[uY,List.length_take];have:=jB.out;omega
  have hold:(Builtin.firstCells i0.size i (.slice (some ⟨g,0,none⟩) i cap)).run Tryz.prog w.drew= .ok (cellsD (l.take i)).toArray w.drew:=by
   rw[hs0];refine run_firstCells_some w.drew 6 i ⟨g,0,none⟩ i cap (cellsD (l.take i)) yQ ?_;refine ZA (aj.drew hblk) ?_;rw[List.drop_zero,yQ];exact hpre
  have hrz:∀(ty:TypeId) (k:Int),k=((cap+1-i:Nat):Int)→(Builtin.append_ #[24,3] ty #[.slice (some ⟨g,0,none⟩) i cap,.int .i64 k]).run Tryz.prog w=
    .ok (.slice (some ⟨w.heap.size,0,none⟩) (cap+1) (grownCap w (cap+1) cap 90)) (w.drew.alloc (.cells ((cellsD (l.take i)).toArray++Builtin.zeroCells (Value.agg zD).cells (cap+1-i)++Builtin.zeroCells (Value.agg zD).cells (grownCap w (cap+1) cap 90-(cap+1))) 90)):=fun ty k hk=>by
   subst hk;have h:=Lib.run_append_grow_zeros w 24 3 ty 90 i0 (Value.agg zD) .i64 .i64 Tryz.underlying24 Tryz.underlying3 hi0 hz0 (some ⟨g,0,none⟩) i cap _ hold (cap+1-i) (by omega) (by rw[hs0];omega) (by omega) (by omega)
    (by rw[hb0];omega)
    (by rw[show i+(cap+1-i)=cap+1 by omega];exact growslice_fits (by omega) (by rw[hb0];omega))
   rw[show i+(cap+1-i)=cap+1 by omega]at h;exact h
  have hGn:cap+1≤grownCap w (cap+1) cap 90:=grownCap_ge w _ _ _;have hG63:grownCap w (cap+1) cap 90≤maxLen:=grownCap_le_maxLen w _ _ _ (by unfold maxLen;omega);obtain⟨G,hG⟩:∃G,grownCap w (cap+1) cap 90=G:=⟨_,rfl⟩;rw[hG]at hrz hGn hG63;obtain⟨Z,hZ⟩:∃Z,(cellsD (l.take i)).toArray++Builtin.zeroCells (Value.agg zD).cells (cap+1-i)++Builtin.zeroCells (Value.agg zD).cells (G-(cap+1))=Z:=⟨_,rfl⟩;rw[hZ]at hrz;have hZs:Z.size=G*6:=by
   rw[←hZ];simp[size_zeroCells,Value.cells,yQ];omega
  have QJ:Z.toList.take (i*6)=cellsD (l.take i):=by
   rw[←hZ];rw[Array.toList_append,Array.toList_append,List.append_assoc,List.toList_toArray,List.take_left' yQ]
  clear hold hZ hG hi0 hz0 hs0 hb0 i0;obtain⟨W0,hW0⟩:=aQ (w.drew.alloc (.cells Z 90));have hzb:aj W0 w.heap.size (.cells Z 90 (0,0)):=by rw[←hW0];exact aj.new w.drew _
  have hb0:Below w.heap.size w W0:=by rw[←hW0];exact((Below.refl _ w).drew).alloc (Nat.le_refl _) _
  have hv0:tT W0 vb 0 q.1 q.2:=KP.below hb0;have QU:aj W0 g (.cells cur 90 (0,0)):=aj.below hblk hb0;rw[hW0]at hrz;have hcp1:∀(ty:TypeId) (o2 dl dc sl sc:Nat),o2=i*6→Nat.min sl dl=1→(Builtin.copy_ #[24,24] ty #[.slice (some ⟨w.heap.size,o2,none⟩) dl dc,.slice (some ⟨vb,0,none⟩) sl sc]).run Tryz.prog W0= .ok (.int .i64 (1:Nat)) (W0.setCells w.heap.size (i*6) (kW q)):=fun ty o2 dl dc sl sc h2 hm=>by
   subst h2;exact VW W0 ty w.heap.size _ dl dc ⟨vb,0,none⟩ sl sc 1 _ hm rfl (ahM hv0) (fun j hj=>Uj hzb (by rw[hZs];rw[Ie]at hj;omega)) (fun j hj=>aj.frozen hzb _) FP
  have hgw:g≠w.heap.size:=by have:=aj.lt hblk;omega
  obtain⟨W1,hW1⟩:=aQ (W0.setCells w.heap.size (i*6) (kW q));have hk1:=KH w.heap.size (kW q) (i*6) W0;have qE:aj W1 w.heap.size (.cells (F7 Z (i*6) (kW q)) 90 (0,0)):=by rw[←hW1];exact Kw _ _ _ _ hzb
  rw[hW1]at hk1;have QV:aj W1 g (.cells cur 90 (0,0)):=aj.kept QU hk1 (fun e=>hgw (by cases e;rfl));have hcp2:∀(ty:TypeId) (o2 dl dc o3 sl sc:Nat),o2=(i+1)*6→o3=i*6→Nat.min sl dl=cap-i→(Builtin.copy_ #[24,24] ty #[.slice (some ⟨w.heap.size,o2,none⟩) dl dc,.slice (some ⟨g,o3,none⟩) sl sc]).run Tryz.prog W1.drew= .ok (.int .i64 (cap-i:Nat)) (W1.drew.setCells w.heap.size ((i+1)*6) (cellsD (l.drop i))):=fun ty o2 dl dc o3 sl sc h2 h3 hm=>by
   subst h2 h3;exact VW W1.drew ty w.heap.size _ dl dc ⟨g,_,none⟩ sl sc (cap-i) _ hm hd (ZA (aj.drew QV) BA) (fun j hj=>Uj (aj.drew qE) (by rw[F8,hZs];omega)) (fun j hj=>aj.frozen (aj.drew qE) _) hone
  have HF:Hid (dG (W1.drew.setCells w.heap.size ((i+1)*6) (cellsD (l.drop i))) base (.slice (some ⟨w.heap.size,0,none⟩) (cap+1) G) (l.take i++q::l.drop i)):=by
   have h:=asL (q:=q) (W:=W0.drew) Ol.out (aj.drew hzb) hZs hG63 (by have:=HN.out;omega) (Nat.le_of_lt jB.out) QJ;have e:W0.drew.setCells w.heap.size (i*6) (kW q)=W1.drew:=by rw[←hW1];exact ahF _ _ _ _
   rw[e,←HN.out]at h;exact h
  have HG:Hid (w.grownBy (W1.drew.setCells w.heap.size ((i+1)*6) (cellsD (l.drop i))) (some g)):=by
   have h1:=hb0.trans ((Below.refl W0.heap.size W0).mono hb0.size);have hz:∀k,k<w.heap.size→(W1.drew.setCells w.heap.size ((i+1)*6) (cellsD (l.drop i))).heap[k]? =w.heap[k]? :=fun k hk=>by
    have h2:=(KH w.heap.size (cellsD (l.drop i)) ((i+1)*6) W1.drew).block k (by show k<W1.heap.size;have:=hk1.size;have:=hb0.size;omega) (by simp;omega);have h3:=hk1.block k (by have:=hb0.size;omega) (by simp;omega);exact h2.trans (h3.trans (hb0.block k hk))
   have hs2:=KH w.heap.size (cellsD (l.drop i)) ((i+1)*6) W1.drew;exact⟨hs2.os.trans (hk1.os.trans hb0.os),hs2.tape.trans (hk1.tape.trans hb0.tape),hs2.output.trans (hk1.output.trans hb0.output),Nat.le_trans hb0.size (Nat.le_trans hk1.size hs2.size),fun k hk _=>hz k hk⟩
  have hb1:¬((cap:Int)+1≤(cap:Int)):=by omega
  have hb2:(cap:Int)<(cap:Int)+1:=by omega
  have hws:IntKind.i64.wrap ((cap:Int)+1-(i:Int))=((cap+1-i:Nat):Int):=by rw[IntWalk.i64_in _ (by omega)];omega
  have hb4:(0:Int)≤(i:Int)+1:=by omega
  have hb5:(i:Int)+1≤(cap:Int)+1:=by omega
  have hb6:(i:Int)≤(cap:Int)+1:=by omega
  have CZ:i≤cap+1:=by omega
  have hc2:¬(G=i):=by omega
  have hc3:¬(G=i+1):=by omega
  have HL:Hid (i<cap∧cap+1≤G):=⟨hlt,hGn⟩;have hGG:G≤9223372036854775807:=by unfold maxLen at hG63;omega
  have HV0:=ah hv0;clear hv0;rw[hW1]at hcp1;have HW1:=ah hW1;clear hrow hblk hcs hcm htk hpre BA hd hone FP KP hq2 hW1 hv hvb hbg hzb hb0 QU qE QV hk1 hgw hW0 hZs QJ yQ hGn hG63;go_enter Tryz.func88,Tryz.ntmps88;have hx1:=hcp1 3 (i*6) (cap+1-i) (G-i) 1 1 rfl (by have:=HL.out;simp only[Nat.min_def];split<;>omega);go_upto_region 9 with fail;go_upto_region 10 with(at_builtin;refine Lib.wpList_append_run _ rfl _ _ _ _ rfl _ _ rfl rfl _ _ (hrz _ _ rfl) ?_);go_upto_region 11 with fail;clear hx1;refine wp_region_noPanic ?_;refine wp_region_held_drew (S:=(fun _=>True)) (by kernel_rfl) (trivial) (fun hHeld=>?_);refine ay 0 ?_;refine ay 1 ?_;refine ay 2 ?_;refine ay 3 ?_;refine ay 4 ?_;refine ay 5 ?_;refine ay 6 ?_;refine ay 7 ?_;refine wpAnyH_ready (rs:=[8]) (by kernel_rfl) (by simp) ?_;refine AllReadyH.cons rfl (fun K hK=>?_) AllReadyH.nil;refine ahT rfl _ _ rfl _ _ rfl rfl (hcp2 _ _ _ _ _ _ _ (by omega) (by omega) (by have:=HL.out;simp only[Nat.min_def];split<;>omega)) ?_;refine hK.out _ _ trivial fun hHeld=>?_;clear hK K;refine wpAnyH_done (by kernel_rfl) ?_ _;refine NoPanic.normal ?_;go_wp2_with fail;go_ret;exact⟨_,rfl,HF.out,HG.out⟩
end Go.Proofs.YtodaapcohdpenaaGreat
namespace Go.Proofs.YtodaapcohdpenaaGreat
open Go.RowKit
theorem ap7 {l:List aF} {c i:Int} {r:dx} (h:(dJ l c i).2=1∨(dJ l c i).2=0∨¬iT r):fV l c i r=([],1):=if_pos h
theorem aqa {l:List aF} {c i:Int} {r:dx} (hm:iT r) (h:(dJ l c i).2=81):fV l c i r=([],81):=by
 unfold fV;rw[h,if_neg (by rintro(e|e|e);cases e;cases e;exact e hm),if_pos rfl]
theorem ap9 {l:List aF} {c i:Int} {r:dx} (hm:iT r) (h:(dJ l c i).2=70):j4 l∧fV l c i r=if 8<(mY l c i r).length then([],50)else(mY l c i r,0):=by
 constructor
 ·exact Classical.byContradiction fun hn=>by
   unfold dJ at h;rw[if_pos (fun hh=>hn hh.1)]at h;cases h
 ·unfold fV;rw[h,if_neg (by rintro(e|e|e);cases e;cases e;exact e hm),if_neg (by decide)]
def Y9 (w:World) (u:List aF) (z:Nat) (e:Ending) (w':World):Prop:=
 ∃v l,e= .returned (.tuple #[v,.int .i64 z])∧dG w' w.heap.size v l∧l.map Prod.fst=u∧dU w' l∧Below w.heap.size w w'
def TU (w:World) (u:List aF) (z:Nat) (e:Ending) (w':World):Prop:=(z≠0∧TV w u z e w')∨(z=0∧Y9 w u z e w')
theorem Y9.post {w w':World} {u:List aF} {z:Nat} {e:Ending} (h:Y9 w u z e w'):TV w u z e w':=by
 obtain⟨v,l,he,hr,hm,hk,hb⟩:=h;obtain⟨A2,cap2,hv,hc2,hds⟩:=hr.I8 hk;subst hv;rw[hm]at hds;exact⟨_,_,_,he,hc2,hds,hb⟩
theorem TU.post {w w':World} {u:List aF} {z:Nat} {e:Ending} (h:TU w u z e w'):TV w u z e w':=by
 rcases h with h|h
 ·exact h.2
 ·exact h.2.post
theorem agq {w W:World} {base g N C p:Nat} {L:List (aF×Value)} {c i:Int} {r:dx} {E:Option Addr} {m cc:Nat} {u:List aF}
  (hrow:dG W base (.slice (some ⟨g,0,none⟩) N C) L) (hp:p<L.length) (hc:(dV L p).1.client=c) (hx:dU W L) (hd:xZ ⟨c,i,r⟩) (hm:m≤cc) (hk:yK W E m r.keys) (hb:Below w.heap.size w W) (hbase:w.heap.size≤base)
  (hu:(L.map Prod.fst).set p ⟨c,i,r⟩=u):
  TU w u 0 (.returned (.tuple #[.slice (some ⟨g,0,none⟩) N C,.int .i64 0])) (zk (W.setCell ⟨g,p*6+1,none⟩ (.int .i64 i)) g p r (.slice E m cc)):=by
 have hg:base≤g:=by
  obtain⟨g2,e,h2⟩:=hrow.qh hp
  cases e;exact h2
 obtain⟨cs,fr,hblk⟩:=hrow.block g (by simp[Value.ownBlock]);have h1:=(dG.set hrow p 1 (.int .i64 i) (⟨(dV L p).1.client,i,(dV L p).1.rep⟩,(dV L p).2) hp (by omega) rfl).1;have hp1:p<(L.set p (⟨(dV L p).1.client,i,(dV L p).1.rep⟩,(dV L p).2)).length:=by rw[List.length_set];exact hp
 have h2:=h1.zk hp1 r (.slice E m cc);rw[Qc hp,List.set_set]at h2;simp only at h2;rw[hc]at h2;have hgb:=(gB W g (p*6+1) (.int .i64 i)).trans (afs (W.setCell ⟨g,p*6+1,none⟩ (.int .i64 i)) g p r (.slice E m cc));have hky:dU (zk (W.setCell ⟨g,p*6+1,none⟩ (.int .i64 i)) g p r (.slice E m cc)) (L.set p (⟨c,i,r⟩,.slice E m cc)):=fun x hxm=>by
  rcases List.mem_or_eq_of_mem_set hxm with h3|rfl
  ·exact⟨(hx x h3).1,(hx x h3).2.kept hgb (fun q hq=>by cases hq;exact⟨_,_,hblk⟩)⟩
  ·have:lD W ((⟨c,i,r⟩:aF),.slice E m cc):=⟨E,m,cc,rfl,hm,hk.1,hk.2⟩;exact⟨hd,this.kept hgb (fun q hq=>by cases hq;exact⟨_,_,hblk⟩)⟩
 have hg2:w.heap.size≤g:=Nat.le_trans hbase hg;exact .inr ⟨rfl,_,_,rfl,dG.base hbase h2,by rw[agE,hu],hky,((((hb.setCell (p:=⟨g,p*6+1,none⟩) hg2 _).setCell (p:=⟨g,p*6+2,none⟩) hg2 _).setCell (p:=⟨g,p*6+3,none⟩) hg2 _).setCell (p:=⟨g,p*6+4,none⟩) hg2 _).setCell (p:=⟨g,p*6+5,none⟩) hg2 _⟩
def FT (c:Int):aF:=⟨c,0,⟨0,0,⟨#[]⟩,[]⟩⟩
theorem aqC {c:Int} (h:(Lit.int .i64 c).wf=true):xZ (FT c):=⟨h,by show(Lit.int .i64 0).wf=true;decide,⟨by show(Lit.int .i64 0).wf=true;decide,by show(Lit.int .i64 0).wf=true;decide,by show(⟨#[]⟩:ByteArray).size≤_;decide⟩,by show 0*16≤_;omega⟩
theorem agp (l:List aF) (c i:Int) (r:dx) (A K:Option Addr) (n cap k kc:Nat) (w:World) (h:jr w A n l) (hc:(Lit.int .i64 c).wf=true) (hi:(Lit.int .i64 i).wf=true) (hr:zM r) (hs:dw w K k r.keys) (h16:k*16≤140737488351232):
  Calls Tryz.prog 43 #[.slice A n cap,.int .i64 c,.int .i64 i,bX r (.slice K k kc)] w (TU w (fV l c i r).1 (fV l c i r).2):=by
 have HN:Hid (n=l.length):=h.1;have jy:=h.2.1;unfold maxLen at jy;have AQ:Hid (xZ ⟨c,i,r⟩):=⟨hc,hi,hr,by show r.keys.length*16≤_;have:=hs.1;omega⟩;have kF:=ah hc;clear hc hi;have HRW:=ah hr;clear hr;have Sm:=ah h16;clear h16;have hb0:Below w.heap.size w (w.alloc (.cells (aR r (.slice K k kc)) 43)):=ak _ _;have hx0:=aj.new w (.cells (aR r (.slice K k kc)) 43);have hds:=h.below hb0;have hss:=hs.below hb0;obtain⟨W0,hW0⟩:=aQ (w.alloc (.cells (aR r (.slice K k kc)) 43));rw[hW0]at hb0 hx0 hds hss;have HT:=ah hds;clear hds h;have HS:=ah hss;clear hss hs;have HX:=ah hx0;clear hx0;have HB0:=ah hb0;clear hb0;have lu:Hid (w.heap.size≤W0.heap.size):=HB0.out.size;have q:=agy l c i A n cap W0 HT.out;have PS:=ah (Vl l c i);have Cb:Hid ((dJ l c i).2=1∨(dJ l c i).2=0∨¬iT r→fV l c i r=([],1)):=ap7;have DT:Hid (iT r→(dJ l c i).2=81→fV l c i r=([],81)):=aqa;have gV:Hid (iT r→(dJ l c i).2=70→j4 l∧fV l c i r=if 8<(mY l c i r).length then([],50)else(mY l c i r,0)):=ap9;generalize dJ l c i=Lk at*;obtain⟨R,z⟩:=Lk;simp only at q PS Cb DT gV;generalize fV l c i r=KK at*;unfold bX;go_enter Tryz.func43,Tryz.ntmps43;go_wp2_with fail
 ((with_reducible refine q.mono ?_);rintro e W1 ⟨K2,k2,kc2,rfl,_,_,b1⟩)
 unfold bX;clear q;have hb2:=b1.alloc b1.size (.cells (aR R (.slice K2 k2 kc2)) 43);go_upto_region 2 with fail;obtain⟨V,hV⟩:=aQ (W1.alloc (.cells (aR R (.slice K2 k2 kc2)) 43));rw[hV]at hb2 ⊢;clear hV b1;have hxv:=aj.below HX.out hb2;obtain⟨x0,x1,x2,x3⟩:=aY hxv;clear hxv;have HB2:=ah hb2;clear hb2;have wV:=ah (aA HB0.out HB2.out)
 by_cases hz0:z=0
 ·subst hz0;have HE:Hid (KK=([],1)):=Cb.out (.inr (.inl rfl));go_wp2_with fail;go_ret2;exact by rw[HE.out];exact .inl ⟨by simp,none,0,0,rfl,Nat.le_refl _,FQ _ _,wV.out⟩
 have e0:((z:Int)==0)=false:=by rw[beq_eq_false_iff_ne];omega
 have q:=agN r K k kc V (HS.out.below HB2.out) HRW.out;unfold bX at q
 by_cases hm:iT r
 rotate_left
 ·have HE:Hid (KK=([],1)):=Cb.out (.inr (.inr hm));have e1:mX r=false:=decide_eq_false hm;rw[e1]at q;clear hm e1;go_wp2_with fail
  ((with_reducible refine q.mono ?_);rintro e V2 ⟨rfl,b2⟩)
  have dO:=ah (aA wV.out b2);clear q b2;go_wp2_with fail;go_ret2;exact by rw[HE.out];exact .inl ⟨by simp,none,0,0,rfl,Nat.le_refl _,FQ _ _,dO.out⟩
 have HM:=ah hm;have e1:mX r=true:=decide_eq_true hm;rw[e1]at q;clear hm e1;rcases PS.out with hz|hz|hz|hz
 ·subst hz;have HE:Hid (KK=([],1)):=Cb.out (.inl rfl);go_wp2_with fail
  ((with_reducible refine q.mono ?_);rintro e V2 ⟨rfl,b2⟩)
  have dO:=ah (aA wV.out b2);clear q b2;go_wp2_with fail;go_ret2;exact by rw[HE.out];exact .inl ⟨by simp,none,0,0,rfl,Nat.le_refl _,FQ _ _,dO.out⟩
 ·exact absurd hz hz0
 ·subst hz;have HE:Hid (KK=([],81)):=DT.out HM.out rfl;go_wp2_with fail
  ((with_reducible refine q.mono ?_);rintro e V2 ⟨rfl,b2⟩)
  have dO:=ah (aA wV.out b2);clear q b2;go_wp2_with fail;go_ret2;exact by rw[HE.out];exact .inl ⟨by simp,none,0,0,rfl,Nat.le_refl _,FQ _ _,dO.out⟩
 ·subst hz;obtain⟨hrd,hke⟩:=gV.out HM.out rfl;have HR:=ah hrd;clear hrd;have vU:=ah hke;clear hke;clear Cb DT gV PS hz0 e0;go_wp2_with fail
  ((with_reducible refine q.mono ?_);rintro e V2 ⟨rfl,b2⟩)
  have HB3:=ah (aA HB2.out b2);clear q b2 x0 x1 x2 x3;have hnn:n≤8:=by have:=HR.out.2.2;have:=HN.out;omega
  have q:=afg A n cap l c V2 (HT.out.below HB3.out) HR.out.2.1 hnn;go_wp2_with fail
  ((with_reducible refine q.mono ?_);rintro e V3 ⟨⟨p,th,hp,rfl⟩,b2⟩)
  have cB:=ah (aA HB3.out b2);clear q b2;have HLEN:=ah (Vw c i r HR.out.2.1);have qc:=fun(W:World) (hb:Below W0.heap.size W0 W)=>anK l A n cap W (HT.out.below hb) (by omega)
  cases th with
  |false=>
   have hno:=abk HR.out.2.1 hp
   by_cases h8:n=8
   ·have HE:Hid (KK=([],50)):=by
     show _=_;rw[vU.out,if_pos];rw[HLEN.out,if_pos hno];have:=HN.out;omega
    have e8:((n:Int)==8)=true:=by rw[beq_iff_eq];omega
    have dO:=ah (aA HB0.out cB.out);clear hno hp qc h8;go_wp2_with fail;go_ret2;exact by rw[HE.out];exact .inl ⟨by simp,none,0,0,rfl,Nat.le_refl _,FQ _ _,dO.out⟩
   have HE:Hid (KK=(mY l c i r,0)):=by
    show _=_;rw[vU.out,if_neg];rw[HLEN.out,if_pos hno];have:=HN.out;omega
   have JX:=ah (arI (i:=i) (r:=r) HR.out.2.1 hp);have GQ:Hid (p≤l.length):=hp.1;have e8:((n:Int)==8)=false:=by rw[beq_eq_false_iff_ne];omega
   clear hno hp;have q:=qc V3 cB.out;clear qc;go_wp2_with fail
   ((with_reducible refine q.mono ?_);rintro e V4 ⟨v,lk,rfl,hrow,hmap,hky,b2⟩)
   clear q;have TH:Hid (W0.heap.size≤V3.heap.size):=cB.out.size;have eH:=ah (aA cB.out b2);have J5:Hid (V3.heap.size≤V4.heap.size):=b2.size;clear b2;obtain⟨A2,cap2,hv2,hcp2,Q6⟩:=hrow.parts;have gN:Hid (lk.length=n):=by have:=congrArg List.length hmap;rw[List.length_map]at this;show _=_;have:=HN.out;omega
   rw[gN.out]at hv2 hcp2;subst hv2;have g_:=ah hmap;clear hmap Q6;have hb3:Below V4.heap.size V4 (V4.alloc (.cells #[.int .i64 c,.int .i64 0,.int .i64 0,.int .i64 0,.string ⟨#[]⟩,.slice none 0 0] 90)):=ak _ _;have hvb:=aj.new V4 (.cells #[.int .i64 c,.int .i64 0,.int .i64 0,.int .i64 0,.string ⟨#[]⟩,.slice none 0 0] 90);obtain⟨V5,Iz⟩:=aQ (V4.alloc (.cells #[.int .i64 c,.int .i64 0,.int .i64 0,.int .i64 0,.string ⟨#[]⟩,.slice none 0 0] 90));rw[Iz]at hb3 hvb;have M9:=hrow.below hb3;have aay:=hky.below hb3;have hpl:p≤n:=by have:=GQ.out;have:=HN.out;omega
   have HPN:=ah hpl;have q:=ap3 lk (FT c,.slice none 0 0) A2 n cap2 p V3.heap.size V4.heap.size V5 M9 gN.out.symm hpl (by omega) (Nat.le_trans J5.out hb3.size) hvb ⟨none,0,0,rfl⟩ (fun e=>by have:=(hrow.lt _ e).2;omega) aay.sl;have acT:=ah aay;clear aay hky;have Yr:=ah M9;clear M9 hrow;have gM:=ah (aA eH.out hb3);clear hb3 hvb;have Tj:Hid (n+1=l.length+1):=by show _=_;rw[HN.out]
   go_wp2_with fail
   ((with_reducible refine q.mono ?_);rintro e V6 ⟨v3,rfl,U9,aas⟩)
   clear q Iz;have hll:(lk.take p++(FT c,Value.slice none 0 0)::lk.drop p).length=n+1:=by
    rw[List.length_append,List.length_cons,List.length_take,List.length_drop,gN.out];have:=HPN.out;omega
   have aaz:dU V6 (lk.take p++(FT c,Value.slice none 0 0)::lk.drop p):=fun x hx=>by
    have hk:=acT.out.kept aas Yr.out.block;rcases List.mem_append.1 hx with h1|h1
    ·exact hk x (List.mem_of_mem_take h1)
    ·rcases List.mem_cons.1 h1 with rfl|h1
     ·exact⟨aqC kF.out,none,0,0,rfl,Nat.le_refl _,sW _ _,fun h=>absurd h (by omega)⟩
     ·exact hk x (List.mem_of_mem_drop h1)
   have afB:Below W0.heap.size W0 V6:=gM.out.grown aas gM.out.size (fun q hq=>by have:=(Yr.out.lt _ hq).1;have:=TH.out;omega);obtain⟨A3,rE,hv3,aal,_⟩:=U9.parts;rw[hll]at hv3 aal;subst hv3;have jk:Hid (p<(lk.take p++(FT c,Value.slice none 0 0)::lk.drop p).length):=by show _<_;rw[hll];omega
   have AP:Hid ((dV (lk.take p++(FT c,Value.slice none 0 0)::lk.drop p) p).1.client=c):=by
    have hlt:(lk.take p).length=p:=by rw[List.length_take];have:=HPN.out;have:=gN.out;omega
    show _=_;rw[Br (by rw[hll];omega),List.getElem_append_right (by omega)];simp[hlt,FT]
   have HU:Hid (((lk.take p++(FT c,Value.slice none 0 0)::lk.drop p).map Prod.fst).set p ⟨c,i,r⟩=mY l c i r):=by
    show _=_;rw[JX.out,List.map_append,List.map_cons,List.map_take,List.map_drop,g_.out];have hlt:(l.take p).length=p:=by rw[List.length_take];have:=GQ.out;omega
    rw[List.set_append_right _ _ (by omega),hlt,Nat.sub_self];rfl
   obtain⟨LL,UU⟩:∃LL,lk.take p++(FT c,Value.slice none 0 0)::lk.drop p=LL:=⟨_,rfl⟩;rw[UU]at U9 aaz jk AP HU;have eY:=ah U9;clear U9;have sF:=ah aaz;clear aaz;have eT:=ah afB;clear afB;have hp0:(0:Int)≤(p:Int):=by omega
   have hp1:(p:Int)<((n+1:Nat):Int):=by omega
   have hp2:(p:Int)<(n:Int)+1:=by omega
   clear aas UU hll acT Yr;obtain⟨g,hA3,hbg⟩:=eY.out.qh jk.out;subst hA3;have hxv:=aj.below HX.out eT.out;obtain⟨x0,x1,x2,x3⟩:=aY hxv;clear hxv;have q:=Us r K k kc V6 (HS.out.below eT.out) Sm.out;unfold bX at q;go_wp2_with fail
   ((with_reducible refine q.mono ?_);rintro e W8 ⟨A5,m5,c5,rfl,xR,Ra,Rf,b8⟩)
   unfold bX;clear q x0 x1 x2 x3;have mF:=eY.out.below b8;have rz:=ah (agq (i:=i) (r:=r) (cc:=c5) mF jk.out AP.out (sF.out.below b8) AQ.out xR ⟨Ra,Rf⟩ (aA (aA HB0.out eT.out) b8) (by have:=lu.out;have:=TH.out;omega) HU.out);unfold zk at rz;obtain⟨_,y1,y2,y3,y4,y5⟩:=mF.six jk.out;have f1:W8.frozen? ⟨g,p*6+1,none⟩=false:=mF.frozen;have f2:W8.frozen? ⟨g,p*6+2,none⟩=false:=mF.frozen;have f3:W8.frozen? ⟨g,p*6+3,none⟩=false:=mF.frozen;have f4:W8.frozen? ⟨g,p*6+4,none⟩=false:=mF.frozen;have f5:W8.frozen? ⟨g,p*6+5,none⟩=false:=mF.frozen;clear mF xR Ra Rf b8 hbg;generalize(dV LL p).2=yx at*;generalize(dV LL p).1=yd at*;go_wp2_with fail;go_ret2;rw[HE.out];exact rz.out
  |true=>
   obtain⟨afW,aaA⟩:=agV HR.out.2.1 hp;have HE:Hid (KK=(mY l c i r,0)):=by
    show _=_;rw[vU.out,if_neg];rw[HLEN.out,if_neg (by rw[aaA];simp)];have:=HN.out;omega
   have JX:=ah (arJ (i:=i) (r:=r) HR.out.2.1 hp);have aj5:=ah afW;clear afW;have HCP:Hid ((bg l p).client=c):=(KX aaA).2;clear hp aaA;have q:=qc V3 cB.out;clear qc;go_wp2_with fail
   ((with_reducible refine q.mono ?_);rintro e V4 ⟨v,lk,rfl,hrow,hmap,hky,b2⟩)
   clear q;have TH:Hid (W0.heap.size≤V3.heap.size):=cB.out.size;have hb5:=aA cB.out b2;clear b2;obtain⟨A2,cap2,hv2,hcp2,Q6⟩:=hrow.parts;have gN:Hid (lk.length=n):=by have:=congrArg List.length hmap;rw[List.length_map]at this;show _=_;have:=HN.out;omega
   rw[gN.out]at hv2 hcp2;subst hv2;have jk:Hid (p<lk.length):=by show _<_;have:=gN.out;have:=aj5.out;have:=HN.out;omega
   have AP:Hid ((dV lk p).1.client=c):=by show _=_;rw[Qb lk jk.out,hmap];exact HCP.out
   have HU:Hid ((lk.map Prod.fst).set p ⟨c,i,r⟩=mY l c i r):=by show _=_;rw[JX.out,hmap]
   have eY:=ah hrow;clear hrow;have sF:=ah hky;clear hky;have eT:=ah hb5;clear hb5;have hpn:p<n:=by have:=jk.out;have:=gN.out;omega
   have hp0:(0:Int)≤(p:Int):=by omega
   have hp1:(p:Int)<(n:Int):=by omega
   clear hmap Q6;obtain⟨g,hA3,hbg⟩:=eY.out.qh jk.out;subst hA3;have hxv:=aj.below HX.out eT.out;obtain⟨x0,x1,x2,x3⟩:=aY hxv;clear hxv;have q:=Us r K k kc V4 (HS.out.below eT.out) Sm.out;unfold bX at q;go_wp2_with fail
   ((with_reducible refine q.mono ?_);rintro e W8 ⟨A5,m5,c5,rfl,xR,Ra,Rf,b8⟩)
   unfold bX;clear q x0 x1 x2 x3;have mF:=eY.out.below b8;have rz:=ah (agq (i:=i) (r:=r) (cc:=c5) mF jk.out AP.out (sF.out.below b8) AQ.out xR ⟨Ra,Rf⟩ (aA (aA HB0.out eT.out) b8) (by have:=lu.out;have:=TH.out;omega) HU.out);unfold zk at rz;obtain⟨_,y1,y2,y3,y4,y5⟩:=mF.six jk.out;have f1:W8.frozen? ⟨g,p*6+1,none⟩=false:=mF.frozen;have f2:W8.frozen? ⟨g,p*6+2,none⟩=false:=mF.frozen;have f3:W8.frozen? ⟨g,p*6+3,none⟩=false:=mF.frozen;have f4:W8.frozen? ⟨g,p*6+4,none⟩=false:=mF.frozen;have f5:W8.frozen? ⟨g,p*6+5,none⟩=false:=mF.frozen;clear mF xR Ra Rf b8 hbg;generalize(dV lk p).2=yx at*;generalize(dV lk p).1=yd at*;go_wp2_with fail;go_ret2;rw[HE.out];exact rz.out
theorem ap5 (l:List aF) (c i:Int) (r:dx) (A K:Option Addr) (n cap k kc:Nat) (w:World) (h:jr w A n l) (hc:(Lit.int .i64 c).wf=true) (hi:(Lit.int .i64 i).wf=true) (hr:zM r) (hs:dw w K k r.keys) (h16:k*16≤140737488351232):
  Calls Tryz.prog 43 #[.slice A n cap,.int .i64 c,.int .i64 i,bX r (.slice K k kc)] w (TV w (fV l c i r).1 (fV l c i r).2):=
 (agp l c i r A K n cap k kc w h hc hi hr hs h16).mono fun e w' h=>h.post
end Go.Proofs.YtodaapcohdpenaaGreat
namespace Go.Proofs.YtodaapcohdpenaaGreat
open Go.RowKit
noncomputable def F4 (a b:List ByteArray):Bool:=@decide (a=b) (Classical.propDecidable _)
theorem abF {a b:List ByteArray}:F4 a b=true↔a=b:=by unfold F4;simp
theorem asY {a b:List ByteArray} (h:a≠b):F4 a b=false:=by rw[Bool.eq_false_iff];exact fun e=>h (abF.1 e)
theorem aoy (a b:List ByteArray) (A B:Option Addr) (n cap m cap2:Nat) (w:World) (ha:dw w A n a) (hb:dw w B m b):
  Calls Tryz.prog 123 #[.slice A n cap,.slice B m cap2] w fun e w'=>e= .returned (.bool (F4 a b))∧Below w.heap.size w w':=by
 have bA:Hid (a≠b→F4 a b=false):=asY;have iF:Hid (a=b→F4 a b=true):=abF.2;generalize F4 a b=R at*;have HA:=ah ha;clear ha;have HB:=ah hb;clear hb;have yA:Hid (n=a.length):=HA.out.1;have Cc:Hid (m=b.length):=HB.out.1;have jy:=HA.out.2.1;have Ah:=HB.out.2.1;unfold maxLen at jy Ah
 by_cases g3:n=m
 rotate_left
 ·have HE:Hid (R=false):=bA.out fun e=>g3 (by rw[yA.out,Cc.out,e]);have e3:((n:Int) != (m:Int))=true:=by simp;omega
  clear g3;go_enter Tryz.func123,Tryz.ntmps123;go_wp2_with fail;go_ret;exact⟨by rw[HE.out];rfl,Below.refl _ _⟩
 have e3:((n:Int) != (m:Int))=false:=by simp;omega
 have G3:=ah g3;clear g3;go_enter Tryz.func123,Tryz.ntmps123;go_wp2_with fail;go_loopw [13] (fun i wy=>∃(j:Nat) (wr:World),wr=wy∧j≤n∧i= .int .i64 j∧(∀q,q<j→a.getD q ByteArray.empty=b.getD q ByteArray.empty)∧Hid (Below w.heap.size w wr)) (fun i _=>n-(intOf i).toNat)
 case atStart=>exact⟨0,_,rfl,by omega,rfl,(fun q hq=>by omega),Below.refl _ _⟩
 case round=>
  obtain⟨j,wr,rfl,hj,rfl,hsm,hb⟩:=hrel;have oh:=ah hsm;clear hsm
  by_cases hlt:j<n
  ·have hji:(j:Int)<(n:Int):=by omega
   have hj0:(0:Int)≤(j:Int):=by omega
   have hjm:j<m:=by have:=G3.out;omega
   have hg1:decide ((j:Int)<0)=false:=decide_eq_false (by omega);have hg2:decide ((n:Int)≤(j:Int))=false:=decide_eq_false (by omega);have QS:decide (n≤j)=false:=decide_eq_false (by omega);have hg3:decide ((m:Int)≤(j:Int))=false:=decide_eq_false (by omega);have afG:decide (m≤j)=false:=decide_eq_false (by omega);obtain⟨p,off,Qz,hp,hc⟩:=HA.out.2.2.2 (by omega);obtain⟨q,off2,KI,hq,hd⟩:=HB.out.2.2.2 (by omega);subst Qz;subst KI;have x0:=(hb.out.cell (p:=⟨p,off+j,none⟩) hp).trans (hc j (by have:=yA.out;omega));have y0:=(hb.out.cell (p:=⟨q,off2+j,none⟩) hq).trans (hd j (by have:=Cc.out;omega));clear hc hd
   by_cases hk:a.getD j ByteArray.empty=b.getD j ByteArray.empty
   ·have lT:Hid (∀q,q<j+1→a.getD q ByteArray.empty=b.getD q ByteArray.empty):=fun q hq=>by rcases(by omega:q<j∨q=j)with h|rfl;exact oh.out q h;exact hk
    have ek:((a.getD j ByteArray.empty).toList==(b.getD j ByteArray.empty).toList)=true:=EC hk;clear hk;generalize a.getD j ByteArray.empty=s at*;generalize b.getD j ByteArray.empty=t at*;go_wp2_with fail;go_quiet (fail);go_wp2_with fail;go_roundw
    case rel=>exact⟨j+1,_,rfl,by omega,by go_num,lT.out,jL hb.out _⟩
    case measure=>simp[intOf];omega
   ·have HE:Hid (R=false):=bA.out fun e=>hk (by rw[e]);have ek:((a.getD j ByteArray.empty).toList==(b.getD j ByteArray.empty).toList)=false:=ED hk;clear hk;generalize a.getD j ByteArray.empty=s at*;generalize b.getD j ByteArray.empty=t at*;go_wp2_with fail;go_quiet (fail);go_wp2_with fail;go_ret;exact⟨by rw[HE.out];rfl,jL hb.out _⟩
  ·have iw:j=n:=by omega
   have HE:Hid (R=true):=iF.out (List.ext_getElem (by rw[←yA.out,←Cc.out,G3.out]) fun i hi hj2=>by
     have:=oh.out i (by have:=yA.out;omega);rw[List.getD_eq_getElem?_getD,List.getD_eq_getElem?_getD,List.getElem?_eq_getElem hi,List.getElem?_eq_getElem hj2]at this;exact this)
   have hji:¬((j:Int)<(n:Int)):=by omega
   clear hlt iw;go_wp2_with fail;go_ret;exact⟨by rw[HE.out];rfl,hb.out⟩
theorem asU (a b:dx) (A B:Option Addr) (n cap m cap2:Nat) (w:World) (ha:dw w A n a.keys) (hb:dw w B m b.keys):
  Calls Tryz.prog 79 #[bX a (.slice A n cap),bX b (.slice B m cap2)] w fun e w'=>e= .returned (.bool (tL a b))∧Below w.heap.size w w':=by
 have bA:Hid (a≠b→tL a b=false):=fun h=>by rw[Bool.eq_false_iff];exact fun e=>h (F6.1 e)
 have iF:Hid (a=b→tL a b=true):=F6.2;generalize tL a b=R at*;have hbw:Below w.heap.size w ((w.alloc (.cells (aR a (.slice A n cap)) 43)).alloc (.cells (aR b (.slice B m cap2)) 43)):=(ak _ _).alloc (by simp) _;have h1:aj ((w.alloc (.cells (aR a (.slice A n cap)) 43)).alloc (.cells (aR b (.slice B m cap2)) 43)) w.heap.size (.cells (aR a (.slice A n cap)) 43 (0,0)):=aj.below (aj.new w (.cells (aR a (.slice A n cap)) 43)) (ak _ _);have h2:aj ((w.alloc (.cells (aR a (.slice A n cap)) 43)).alloc (.cells (aR b (.slice B m cap2)) 43)) (w.heap.size+1) (.cells (aR b (.slice B m cap2)) 43 (0,0)):=by have h:=aj.new (w.alloc (.cells (aR a (.slice A n cap)) 43)) (.cells (aR b (.slice B m cap2)) 43);rw[World.size_alloc]at h;exact h
 obtain⟨W0,hW0⟩:=aQ ((w.alloc (.cells (aR a (.slice A n cap)) 43)).alloc (.cells (aR b (.slice B m cap2)) 43));rw[hW0]at hbw h1 h2;have c0:=aj.cell h1 0;have c1:=aj.cell h1 1;have c2:=aj.cell h1 2;have c3:=aj.cell h1 3;have d0:=aj.cell h2 0;have d1:=aj.cell h2 1;have d2:=aj.cell h2 2;have d3:=aj.cell h2 3;simp only[aM]at c0 c1 c2 c3 d0 d1 d2 d3;have q:=aoy a.keys b.keys A B n cap m cap2 W0 (ha.below hbw) (hb.below hbw);have HB0:=ah hbw;clear hbw ha hb h1 h2;have aiM:Hid (a.errno=b.errno→a.rev=b.rev→a.value=b.value→a.keys=b.keys→a=b):=fun k0 k1 k2 hk=>by
  cases a;cases b
  simp only at k0 k1 k2 hk;rw[k0,k1,k2,hk]
 unfold bX
 by_cases g0:a.errno=b.errno
 rotate_left
 ·have HE:Hid (R=false):=bA.out fun e=>g0 (by rw[e]);have e0:((a.errno:Int)==(b.errno:Int))=false:=by rw[beq_eq_false_iff_ne];omega
  clear g0;go_enter Tryz.func79,Tryz.ntmps79;go_wp2_with fail;go_ret;exact⟨by rw[HE.out];rfl,HB0.out⟩
 have e0:((a.errno:Int)==(b.errno:Int))=true:=by rw[beq_iff_eq];omega
 have G0:=ah g0;clear g0
 by_cases g1:a.rev=b.rev
 rotate_left
 ·have HE:Hid (R=false):=bA.out fun e=>g1 (by rw[e]);have e1:(a.rev==b.rev)=false:=by rw[beq_eq_false_iff_ne];exact g1
  clear g1;go_enter Tryz.func79,Tryz.ntmps79;go_wp2_with fail;go_ret;exact⟨by rw[HE.out];rfl,HB0.out⟩
 have e1:(a.rev==b.rev)=true:=by rw[beq_iff_eq];exact g1
 have G1:=ah g1;clear g1
 by_cases g2:a.value=b.value
 rotate_left
 ·have HE:Hid (R=false):=bA.out fun e=>g2 (by rw[e]);have e2:(a.value.toList==b.value.toList)=false:=ED g2;clear g2;go_enter Tryz.func79,Tryz.ntmps79;go_wp2_with fail;go_ret;exact⟨by rw[HE.out];rfl,HB0.out⟩
 have e2:(a.value.toList==b.value.toList)=true:=EC g2;have G2:=ah g2;clear g2;have Pf:Hid (∀v,F4 a.keys b.keys=v→(v=true↔a.keys=b.keys)):=fun v hv=>by rw[←hv];exact abF
 obtain⟨v,hv⟩:∃v,F4 a.keys b.keys=v:=⟨_,rfl⟩;have HV:=ah (Pf.out v hv);rw[hv]at q;have HE:Hid (R=v):=by
  show _=_
  cases v with
  |true=>exact iF.out (aiM.out G0.out G1.out G2.out (HV.out.1 rfl))
  |false=>exact bA.out fun e=>by have:=HV.out.2 (by rw[e]);cases this
 clear hv Pf HV;go_enter Tryz.func79,Tryz.ntmps79;go_wp2_with fail
 ((with_reducible refine q.mono ?_);rintro e W1 ⟨rfl,b1⟩)
 have dO:=ah (aA HB0.out b1);clear q b1;go_wp2_with fail;go_ret;exact⟨bC (by rw[HE.out]),dO.out⟩
noncomputable def Jo (a b:aF):Bool:=@decide (a=b) (Classical.propDecidable _)
theorem abE {a b:aF}:Jo a b=true↔a=b:=by unfold Jo;simp
theorem as1 (x y:aF) (A B:Option Addr) (n cap m cap2:Nat) (w:World) (ha:dw w A n x.rep.keys) (hb:dw w B m y.rep.keys):
  Calls Tryz.prog 78 #[.agg (aD x (.slice A n cap)),.agg (aD y (.slice B m cap2))] w fun e w'=>e= .returned (.bool (Jo x y))∧Below w.heap.size w w':=by
 have bA:Hid (x≠y→Jo x y=false):=fun h=>by rw[Bool.eq_false_iff];exact fun e=>h (abE.1 e)
 have iF:Hid (x=y→Jo x y=true):=abE.2;generalize Jo x y=R at*;have hbw:Below w.heap.size w ((w.alloc (.cells (aD x (.slice A n cap)) 90)).alloc (.cells (aD y (.slice B m cap2)) 90)):=(ak _ _).alloc (by simp) _;have h1:=aj.below (aj.new w (.cells (aD x (.slice A n cap)) 90)) (ak _ (.cells (aD y (.slice B m cap2)) 90));have h2:=aj.new (w.alloc (.cells (aD x (.slice A n cap)) 90)) (.cells (aD y (.slice B m cap2)) 90);rw[World.size_alloc]at h2;obtain⟨W0,hW0⟩:=aQ ((w.alloc (.cells (aD x (.slice A n cap)) 90)).alloc (.cells (aD y (.slice B m cap2)) 90));rw[hW0]at hbw h1 h2;have c0:=aj.cell h1 0;have c1:=aj.cell h1 1;have c2:=aj.cell h1 2;have c3:=aj.cell h1 3;have c4:=aj.cell h1 4;have c5:=aj.cell h1 5;have d0:=aj.cell h2 0;have d1:=aj.cell h2 1;have d2:=aj.cell h2 2;have d3:=aj.cell h2 3;have d4:=aj.cell h2 4;have d5:=aj.cell h2 5;simp only[aM]at c0 c1 c2 c3 c4 c5 d0 d1 d2 d3 d4 d5;have q:=asU x.rep y.rep A B n cap m cap2 W0 (ha.below hbw) (hb.below hbw);unfold bX at q;have HB0:=ah hbw;clear hbw ha hb h1 h2
 by_cases g0:x.client=y.client
 rotate_left
 ·have HE:Hid (R=false):=bA.out fun e=>g0 (by rw[e]);have e0:(x.client==y.client)=false:=by rw[beq_eq_false_iff_ne];exact g0
  clear g0;go_enter Tryz.func78,Tryz.ntmps78;go_wp2_with fail;go_ret;exact⟨by rw[HE.out];rfl,HB0.out⟩
 have e0:(x.client==y.client)=true:=by rw[beq_iff_eq];exact g0
 have G0:=ah g0;clear g0
 by_cases g1:x.id=y.id
 rotate_left
 ·have HE:Hid (R=false):=bA.out fun e=>g1 (by rw[e]);have e1:(x.id==y.id)=false:=by rw[beq_eq_false_iff_ne];exact g1
  clear g1;go_enter Tryz.func78,Tryz.ntmps78;go_wp2_with fail;go_ret;exact⟨by rw[HE.out];rfl,HB0.out⟩
 have e1:(x.id==y.id)=true:=by rw[beq_iff_eq];exact g1
 have G1:=ah g1;clear g1;have Pf:Hid (∀v,tL x.rep y.rep=v→(v=true↔x.rep=y.rep)):=fun v hv=>by rw[←hv];exact F6
 obtain⟨v,hv⟩:∃v,tL x.rep y.rep=v:=⟨_,rfl⟩;have HV:=ah (Pf.out v hv);rw[hv]at q;have HE:Hid (R=v):=by
  show _=_
  cases v with
  |true=>exact iF.out (aeW G0.out G1.out (HV.out.1 rfl))
  |false=>exact bA.out fun e=>by have:=HV.out.2 (by rw[e]);cases this
 clear hv Pf HV;go_enter Tryz.func78,Tryz.ntmps78;go_wp2_with fail
 ((with_reducible refine q.mono ?_);rintro e W1 ⟨rfl,b1⟩)
 have dO:=ah (aA HB0.out b1);clear q b1;go_wp2_with fail;go_ret;exact⟨bC (by rw[HE.out]),dO.out⟩
theorem anl (args:Array Value) (w:World):(callFunc 78 args).run Tryz.prog w= .ok (.enter 78 args) w:=Jm Tryz.func78 (by kernel_rfl) (by kernel_rfl) args w
theorem aoA (t u:List aF) (A B:Option Addr) (n m cap cap2:Nat) (w:World) (h:jr w A n t) (h2:jr w B m u):
  Calls Tryz.prog 77 #[.slice A n cap,.slice B m cap2,.func (.func 78) #[] #[]] w fun e w'=>e= .returned (.bool (zh t u))∧Below w.heap.size w w':=by
 have jy:=h.2.1;have Ah:=h2.2.1;unfold maxLen at jy Ah;have HN:Hid (n=t.length):=h.1;have HM:Hid (m=u.length):=h2.1;have HT:=ah h;clear h;have HU:=ah h2;clear h2;have bA:Hid (t≠u→zh t u=false):=fun h=>by rw[Bool.eq_false_iff];exact fun e=>h (NI.1 e)
 have iF:Hid (t=u→zh t u=true):=NI.2;generalize zh t u=R at*
 by_cases hnm:n=m
 rotate_left
 ·have HE:Hid (R=false):=bA.out fun e=>hnm (by rw[HN.out,HM.out,e]);have e1:((n:Int) != (m:Int))=true:=by simp;omega
  clear hnm;go_enter Tryz.func77,Tryz.ntmps77;go_wp2_with fail;go_ret;exact⟨by rw[HE.out];rfl,Below.refl _ _⟩
 subst hnm;have e1:((n:Int) != (n:Int))=false:=by simp
 go_enter Tryz.func77,Tryz.ntmps77;go_wp2_with fail;go_loopw [17] (fun i wy=>∃(j:Nat) (wr:World),wr=wy∧j≤n∧i= .int .i64 j∧(∀q,q<j→bg t q=bg u q)∧Below w.heap.size w wr) (fun i _=>n-(intOf i).toNat)
 case atStart=>exact⟨0,_,rfl,by omega,rfl,(fun q hq=>by omega),Below.refl _ _⟩
 case round=>
  obtain⟨j,wr,rfl,hj,rfl,hsm,hb⟩:=hrel;have HB:=ah hb;clear hb;have oh:=ah hsm;clear hsm
  by_cases hlt:j<n
  ·have hji:(j:Int)<(n:Int):=by omega
   have hj0:(0:Int)≤(j:Int):=by omega
   have hjl:j<t.length:=by have:=HN.out;omega
   have z_:j<u.length:=by have:=HM.out;omega
   obtain⟨b,off,hA,_⟩:=HT.out.block (by omega);subst hA;obtain⟨b2,off2,hA2,_⟩:=HU.out.block (by omega);subst hA2;obtain⟨E,m1,c,hx,_,hfs⟩:=HT.out.at hjl HB.out;obtain⟨E2,m2,c2,hy,_,mD⟩:=HU.out.at z_ HB.out;have HX:Hid (∀b,Jo (bg t j) (bg u j)=b→(b=true↔bg t j=bg u j)):=fun b hb=>by rw[←hb];exact abE
   obtain⟨s,hs⟩:∃s,Jo (bg t j) (bg u j)=s:=⟨_,rfl⟩;have HS:=ah (HX.out s hs);have uS:=ah hs;clear hs HX;have m_:Hid (s=false→t≠u):=fun e h=>by subst e;have:=HS.out.2 (by rw[h]);cases this
   have HST:Hid (s=true→bg t j=bg u j):=HS.out.1;clear HS hjl z_;have Ov:=ah hfs;clear hfs;have Xq:=ah mD;clear mD;generalize Et:bg t j=x at*;generalize Rn:bg u j=y at*;have Ea:=ah Et;clear Et;have YU:=ah Rn;clear Rn;have hb1:Below wr.heap.size wr (wr.alloc (.cells (aD x (.slice E m1 c)) 90)):=ak _ _;have hbx:=aj.new wr (.cells (aD x (.slice E m1 c)) 90);have hgx:=World.size_alloc wr (.cells (aD x (.slice E m1 c)) 90);have hy1:=hy.below hb1;obtain⟨x0,x1,x2,x3,x4,x5⟩:=hx;clear hy;go_upto_region 6 with fail;clear x0 x1 x2 x3 x4 x5;obtain⟨V1,hV1⟩:∃V,wr.alloc (.cells (aD x (.slice E m1 c)) 90)=V:=⟨_,rfl⟩;rw[hV1]at hb1 hbx hgx hy1 ⊢;clear hV1;have HB1:=ah hb1;clear hb1;have Gw:=ah hgx;clear hgx;have Oo:=ah hbx;clear hbx;have hb2:Below V1.heap.size V1 (V1.alloc (.cells (aD y (.slice E2 m2 c2)) 90)):=ak _ _;have hby:=aj.new V1 (.cells (aD y (.slice E2 m2 c2)) 90);have sS:=aj.below Oo.out hb2;have kC:=World.size_alloc V1 (.cells (aD y (.slice E2 m2 c2)) 90);obtain⟨y0,y1,y2,y3,y4,y5⟩:=hy1;go_upto_region 7 with fail;clear y0 y1 y2 y3 y4 y5;obtain⟨V2,hV2⟩:∃V,V1.alloc (.cells (aD y (.slice E2 m2 c2)) 90)=V:=⟨_,rfl⟩;rw[hV2]at hb2 hby sS kC ⊢;clear hV2 Oo;have DJ:=ah kC;clear kC;have HB2:=ah (aA HB1.out hb2);clear hb2;have q:=as1 x y E E2 m1 c m2 c2 V2 (Ov.out.below HB2.out) (Xq.out.below HB2.out);rw[uS.out]at q;have y0:=aj.cell sS 0;have y1:=aj.cell sS 1;have y2:=aj.cell sS 2;have y3:=aj.cell sS 3;have y4:=aj.cell sS 4;have y5:=aj.cell sS 5;have z0:=aj.cell hby 0;have z1:=aj.cell hby 1;have z2:=aj.cell hby 2;have z3:=aj.cell hby 3;have z4:=aj.cell hby 4;have z5:=aj.cell hby 5;simp only[aM]at y0 y1 y2 y3 y4 y5 z0 z1 z2 z3 z4 z5;have HBY:=ah hby;clear hby;have aiD:=ah sS;clear sS;have cf:=anl
   cases s with
   |true=>
    go_wp2_with fail
    ((with_reducible refine q.mono ?_);rintro e W3 ⟨rfl,b3⟩)
    have HB3:=ah (aA HB.out (aA HB2.out b3));clear b3 q;clear y0 y1 y2 y3 y4 y5 z0 z1 z2 z3 z4 z5;go_wp2_with fail;go_roundw
    case rel=>exact⟨j+1,_,rfl,by omega,by go_num,fun q hq=>by rcases(by omega:q<j∨q=j)with h|rfl;exact oh.out q h;rw[Ea.out,YU.out];exact HST.out (by first|trivial|rfl),HB3.out⟩
    case measure=>simp[intOf];omega
   |false=>
    have HE:Hid (R=false):=bA.out (m_.out rfl);go_wp2_with fail
    ((with_reducible refine q.mono ?_);rintro e W3 ⟨rfl,b3⟩)
    have HB3:=ah (aA HB.out (aA HB2.out b3));clear b3 q;clear y0 y1 y2 y3 y4 y5 z0 z1 z2 z3 z4 z5;go_wp2_with fail;go_ret;exact⟨by rw[HE.out];rfl,HB3.out⟩
  ·have iw:j=n:=by omega
   subst iw;have HE:Hid (R=true):=iF.out (by
    refine List.ext_getElem (by rw[←HN.out,←HM.out]) fun i hi hj2=>?_;have:=oh.out i (by have:=HN.out;omega);rw[lZ hi,lZ hj2]at this;exact this)
   clear hlt;go_wp2_with fail;go_ret;exact⟨by rw[HE.out];rfl,HB.out⟩
theorem asW (t u:List aF) (A B:Option Addr) (n m cap cap2:Nat) (w:World) (h:jr w A n t) (h2:jr w B m u):
  Calls Tryz.prog 35 #[.slice A n cap,.slice B m cap2] w fun e w'=>e= .returned (.bool (zh t u))∧Below w.heap.size w w':=by
 have q:=aoA t u A B n m cap cap2 w h h2;clear h h2;go_enter Tryz.func35,Tryz.ntmps35;go_wp2_with fail
 ((with_reducible refine q.mono ?_);rintro e W1 ⟨rfl,b1⟩)
 go_wp2_with fail;go_ret;exact⟨rfl,b1⟩
theorem asX:alW:=fun t u A B n cap m cap2 w _ _ h h2 _ _=>asW t u A B n m cap cap2 w h h2
end Go.Proofs.YtodaapcohdpenaaGreat
