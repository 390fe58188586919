-- eB
import Derived.Test.YtodaapcohdpenaaGreatGSq
import Derived.Test.YtodaapcohdpenaaGreatGShM
import Derived.Test.YtodaapcohdpenaaGreatTabSameRep
import Derived.Test.YtodaapcohdpenaaGreatGTabD
import Derived.Maps.AppendAt
import Derived.OwnWalk
import Derived.WalkMore
import Derived.Laws.OwnMore
import Derived.Laws.Cover1
namespace Go.Proofs.YtodaapcohdpenaaGreat
open Go.RowKit
set_option linter.unusedSimpArgs false
set_option linter.unusedVariables false
set_option maxHeartbeats 8000000
set_option maxRecDepth 100000
def zM (r:dx):Prop:=(Lit.int .i64 (r.errno:Int)).wf=true∧(Lit.int .i64 r.rev).wf=true∧r.value.size≤140737490365000
def xZ (d:aF):Prop:=(Lit.int .i64 d.client).wf=true∧(Lit.int .i64 d.id).wf=true∧zM d.rep∧d.rep.keys.length*16≤140737488351232
def tT (w:World) (b o:Nat) (d:aF) (x:Value):Prop:=w.cell? ⟨b,o,none⟩=some (.int .i64 d.client)∧w.cell? ⟨b,o+1,none⟩=some (.int .i64 d.id)∧w.cell? ⟨b,o+2,none⟩=some (.int .i64 d.rep.errno)∧w.cell? ⟨b,o+3,none⟩=some (.int .i64 d.rep.rev)∧w.cell? ⟨b,o+4,none⟩=some (.string d.rep.value)∧w.cell? ⟨b,o+5,none⟩=some x
theorem tT.below {w w':World} {b o:Nat} {r:aF} {x:Value} (h:tT w b o r x) (hb:Below w.heap.size w w'):tT w' b o r x:=by
 obtain⟨h0,h1,h2,h3,h4,h5⟩:=h;have hlt:=lt_of_cell (a:=⟨b,o,none⟩) h0;exact⟨(hb.cell (p:=⟨b,o,none⟩) hlt).trans h0,(hb.cell (p:=⟨b,o+1,none⟩) hlt).trans h1,(hb.cell (p:=⟨b,o+2,none⟩) hlt).trans h2,(hb.cell (p:=⟨b,o+3,none⟩) hlt).trans h3,(hb.cell (p:=⟨b,o+4,none⟩) hlt).trans h4,(hb.cell (p:=⟨b,o+5,none⟩) hlt).trans h5⟩
def jr (w:World) (A:Option Addr) (n:Nat) (l:List aF):Prop:=
 n=l.length∧n≤maxLen∧(∀r∈l,xZ r)∧(0<n→∃b off,A=some ⟨b,off,none⟩∧b<w.heap.size∧∀i,i<l.length→∃E m c,tT w b (off+i*6) (bg l i) (.slice E m c)∧m≤c∧dw w E m (bg l i).rep.keys)
theorem jr.below {w w':World} {A:Option Addr} {n:Nat} {l:List aF} (h:jr w A n l) (hb:Below w.heap.size w w'):jr w' A n l:=by
 obtain⟨h1,h2,h3,h4⟩:=h;refine⟨h1,h2,h3,fun hn=>?_⟩;obtain⟨b,off,e,hlt,hc⟩:=h4 hn;refine⟨b,off,e,Nat.lt_of_lt_of_le hlt hb.size,fun i hi=>?_⟩;obtain⟨E,m,c,k1,k2,k3⟩:=hc i hi;exact⟨E,m,c,k1.below hb,k2,k3.below hb⟩
theorem FQ (w:World) (A:Option Addr):jr w A 0 []:=⟨rfl,by unfold maxLen;omega,(fun r h=>nomatch h),fun h=>by omega⟩
theorem jr.at {w W:World} {b off n i:Nat} {l:List aF} (h:jr w (some ⟨b,off,none⟩) n l) (hi:i<l.length) (hb:Below w.heap.size w W):
  ∃E m c,tT W b (off+i*6) (bg l i) (.slice E m c)∧m≤c∧dw W E m (bg l i).rep.keys:=by
 have h2:=h.below hb;obtain⟨b2,o2,hA,hlt,hc⟩:=h2.2.2.2 (by have:=h.1;omega);simp only[Option.some.injEq,Addr.mk.injEq,and_true]at hA;obtain⟨rfl,rfl⟩:=hA;exact hc i hi
theorem jr.block {w:World} {A:Option Addr} {n:Nat} {l:List aF} (h:jr w A n l) (hn:0<n):∃b off,A=some ⟨b,off,none⟩∧b<w.heap.size:=by
 obtain⟨b,off,e,hlt,_⟩:=h.2.2.2 hn;exact⟨b,off,e,hlt⟩
def TV (w:World) (u:List aF) (z:Nat) (e:Ending) (w':World):Prop:=
 ∃A n cap,e= .returned (.tuple #[.slice A n cap,.int .i64 z])∧n≤cap∧jr w' A n u∧Below w.heap.size w w'
def Za (w:World) (r:dx) (z:Nat) (e:Ending) (w':World):Prop:=
 ∃K k kc,e= .returned (.tuple #[bX r (.slice K k kc),.int .i64 z])∧k≤kc∧dw w' K k r.keys∧Below w.heap.size w w'
def alL:Prop:=∀(l:List aF) (c i:Int) (A:Option Addr) (n cap:Nat) (w:World),n≤cap→jr w A n l→n*72≤140737488351232→(Lit.int .i64 c).wf=true→(Lit.int .i64 i).wf=true→
 Calls Tryz.prog 42 #[.slice A n cap,.int .i64 c,.int .i64 i] w (Za w (dJ l c i).1 (dJ l c i).2)
def alT:Prop:=∀(l:List aF) (A:Option Addr) (n cap:Nat) (w:World),n≤cap→jr w A n l→n*72≤140737488351232→
 Calls Tryz.prog 31 #[.slice A n cap] w fun e w'=>e= .returned (.bool (tF l))∧Below w.heap.size w w'
noncomputable def zh (a b:List aF):Bool:=@decide (a=b) (Classical.propDecidable _)
theorem NI {a b:List aF}:zh a b=true↔a=b:=by unfold zh;simp
def alW:Prop:=∀(a b:List aF) (A B:Option Addr) (n cap m cap2:Nat) (w:World),n≤cap→m≤cap2→jr w A n a→jr w B m b→n*72≤140737488351232→m*72≤140737488351232→
 Calls Tryz.prog 35 #[.slice A n cap,.slice B m cap2] w fun e w'=>e= .returned (.bool (zh a b))∧Below w.heap.size w w'
def kW (p:aF×Value):List Value:=[.int .i64 p.1.client,.int .i64 p.1.id,.int .i64 p.1.rep.errno,.int .i64 p.1.rep.rev,.string p.1.rep.value,p.2]
def cellsD (l:List (aF×Value)):List Value:=l.flatMap kW
theorem Ih (a b:List (aF×Value)):cellsD (a++b)=cellsD a++cellsD b:=by simp[cellsD]
theorem Qf (p:aF×Value) (b:List (aF×Value)):cellsD (p::b)=kW p++cellsD b:=by simp[cellsD]
theorem uY (l:List (aF×Value)):(cellsD l).length=l.length*6:=by
 induction l with
 |nil=>rfl
 |cons p l ih=>rw[Qf,List.length_append,ih];simp[kW];omega
def avc:aF×Value:=(aip,.slice none 0 0)
def dV (l:List (aF×Value)) (i:Nat):aF×Value:=l.getD i avc
theorem Br {l:List (aF×Value)} {i:Nat} (h:i<l.length):dV l i=l[i]:=by unfold dV;rw[List.getD_eq_getElem?_getD,List.getElem?_eq_getElem h];rfl
theorem Zr {l:List (aF×Value)} {i:Nat} (h:i<l.length):dV l i∈l:=by rw[Br h];exact List.getElem_mem _
theorem MO (l:List (aF×Value)) (i j:Nat) (hi:i<l.length) (hj:j<6):(cellsD l)[i*6+j]? =(kW (dV l i))[j]? :=by
 have e:l=l.take i++(dV l i::l.drop (i+1)):=by rw[Br hi,List.getElem_cons_drop,List.take_append_drop]
 have h2:(cellsD l)[i*6+j]? =(cellsD (l.take i)++(kW (dV l i)++cellsD (l.drop (i+1))))[i*6+j]? :=by
  rw[←Qf,←Ih,←e]
 rw[h2,List.getElem?_append_right (by rw[uY,List.length_take];omega),uY,List.length_take,Nat.min_eq_left (by omega),Nat.add_sub_cancel_left,List.getElem?_append_left (by simp[kW];omega)]
theorem aex (l:List (aF×Value)) (i:Nat) (hi:i<l.length):(cellsD l)[i*6]? =some (.int .i64 (dV l i).1.client)∧(cellsD l)[i*6+1]? =some (.int .i64 (dV l i).1.id)∧(cellsD l)[i*6+2]? =some (.int .i64 (dV l i).1.rep.errno)∧(cellsD l)[i*6+3]? =some (.int .i64 (dV l i).1.rep.rev)∧(cellsD l)[i*6+4]? =some (.string (dV l i).1.rep.value)∧(cellsD l)[i*6+5]? =some (dV l i).2:=
 ⟨MO l i 0 hi (by omega),MO l i 1 hi (by omega),MO l i 2 hi (by omega),MO l i 3 hi (by omega),MO l i 4 hi (by omega),MO l i 5 hi (by omega)⟩
def zN (l:List (aF×Value)):Prop:=∀p∈l,∃E m c,p.2= .slice E m c
theorem ZJ {l:List (aF×Value)} (h:zN l):∀u∈cellsD l,u.oneCell'=true:=by
 intro u hu;unfold cellsD at hu;obtain⟨p,hp,hm⟩:=List.mem_flatMap.1 hu;obtain⟨E,m,c,e⟩:=h p hp;simp[kW]at hm;rcases hm with rfl|rfl|rfl|rfl|rfl|rfl<;>first|rfl|(rw[e];rfl)
def dG (w:World) (base:Nat) (v:Value) (l:List (aF×Value)):Prop:=w.ownsRow base 90 6 v l.length (cellsD l)
theorem Dp (w:World) (base:Nat):dG w base (.slice none 0 0) []:=World.ownsRow_nil _ _ _ _
theorem dG.below {w w':World} {base:Nat} {v:Value} {l:List (aF×Value)} (h:dG w base v l) (hb:Below w.heap.size w w'):dG w' base v l:=Vv h hb
theorem dG.drew {w:World} {base:Nat} {v:Value} {l:List (aF×Value)} (h:dG w base v l):dG w.drew base v l:=h
theorem dG.base {w:World} {a b:Nat} {v:Value} {l:List (aF×Value)} (h:b≤a) (hr:dG w a v l):dG w b v l:=by
 refine⟨hr.1,?_⟩;rcases hr.2 with h2|⟨g,cap,cur,h1,h2,h3⟩
 ·exact .inl h2
 ·exact .inr ⟨g,cap,cur,h1,Nat.le_trans h h2,h3⟩
theorem dG.new {w:World} {base n cap:Nat} {A:Option Addr} {l:List (aF×Value)} (h:dG w base (.slice A n cap) l):Fh base A n:=fun _ b off hA=>by
 subst hA;exact(h.lt b rfl).1
def TY (w:World) (b o:Nat) (p:aF×Value):Prop:=tT w b o p.1 p.2
def uf (w:World) (A:Option Addr) (n:Nat) (l:List (aF×Value)):Prop:=
 n=l.length∧n≤maxLen∧(0<n→∃b off,A=some ⟨b,off,none⟩∧b<w.heap.size∧∀i,i<l.length→TY w b (off+i*6) (dV l i))
theorem uf.below {w w':World} {A:Option Addr} {n:Nat} {l:List (aF×Value)} (h:uf w A n l) (hb:Below w.heap.size w w'):uf w' A n l:=by
 obtain⟨h1,h2,h3⟩:=h;refine⟨h1,h2,fun hn=>?_⟩;obtain⟨b,off,e,hlt,hc⟩:=h3 hn;exact⟨b,off,e,Nat.lt_of_lt_of_le hlt hb.size,fun i hi=>tT.below (hc i hi) hb⟩
theorem uf.at {w W:World} {b off n i:Nat} {l:List (aF×Value)} (h:uf w (some ⟨b,off,none⟩) n l) (hi:i<l.length) (hb:Below w.heap.size w W):TY W b (off+i*6) (dV l i):=by
 have h2:=h.below hb;obtain⟨b2,o2,hA,hlt,hc⟩:=h2.2.2 (by have:=h.1;omega);simp only[Option.some.injEq,Addr.mk.injEq,and_true]at hA;obtain⟨rfl,rfl⟩:=hA;exact hc i hi
theorem dG.parts {w:World} {base:Nat} {v:Value} {l:List (aF×Value)} (h:dG w base v l):∃A cap,v= .slice A l.length cap∧l.length≤cap∧uf w A l.length l:=by
 rcases h.2 with⟨rfl,hv⟩|⟨g,cap,cur,hv,hg,hh,hnc,hcm,hcs,htk⟩
 ·have:l.length=0:=by omega
  exact⟨none,0,by simp_all,by omega,rfl,by unfold maxLen;omega,fun h=>by omega⟩
 ·subst hv;refine⟨_,cap,rfl,hnc,rfl,Nat.le_trans hnc hcm,fun _=>⟨g,0,rfl,fF hh,fun i hi=>?_⟩⟩;obtain⟨e0,e1,e2,e3,e4,e5⟩:=aex l i hi;rw[Nat.zero_add];exact⟨(h.cellAt (i*6) (by omega)).trans e0,(h.cellAt (i*6+1) (by omega)).trans e1,(h.cellAt (i*6+2) (by omega)).trans e2,(h.cellAt (i*6+3) (by omega)).trans e3,(h.cellAt (i*6+4) (by omega)).trans e4,(h.cellAt (i*6+5) (by omega)).trans e5⟩
def Fp (w:World) (E:Option Addr) (m:Nat):Prop:=0<m→∃b off cs fr,E=some ⟨b,off,none⟩∧w.heap[b]? =some (.cells cs 9 fr)
def lD (w:World) (p:aF×Value):Prop:=∃E m c,p.2= .slice E m c∧m≤c∧dw w E m p.1.rep.keys∧Fp w E m
def dU (w:World) (l:List (aF×Value)):Prop:=∀p∈l,xZ p.1∧lD w p
theorem dU.sl {w:World} {l:List (aF×Value)} (h:dU w l):zN l:=fun p hp=>by
 obtain⟨_,E,m,c,e,_⟩:=h p hp;exact⟨E,m,c,e⟩
theorem dU.nil (w:World):dU w []:=fun p h=>nomatch h
theorem dU.append {w:World} {a b:List (aF×Value)} (h:dU w a) (h2:dU w b):dU w (a++b):=fun p hp=>by
 rcases List.mem_append.1 hp with h3|h3
 ·exact h p h3
 ·exact h2 p h3
theorem dU.one {w:World} {p:aF×Value} (h:xZ p.1) (h2:lD w p):dU w [p]:=fun x hx=>by rw[List.mem_singleton]at hx;rw[hx];exact⟨h,h2⟩
theorem Fp.below {w w':World} {E:Option Addr} {m:Nat} (h:Fp w E m) (hb:Below w.heap.size w w'):Fp w' E m:=fun hm=>by
 obtain⟨b,off,cs,fr,e,hh⟩:=h hm;exact⟨b,off,cs,fr,e,(hb.block b (fF hh)).trans hh⟩
theorem lD.below {w w':World} {p:aF×Value} (h:lD w p) (hb:Below w.heap.size w w'):lD w' p:=by
 obtain⟨E,m,c,e,hc,hf,ht⟩:=h;exact⟨E,m,c,e,hc,hf.below hb,ht.below hb⟩
theorem dU.below {w w':World} {l:List (aF×Value)} (h:dU w l) (hb:Below w.heap.size w w'):dU w' l:=fun p hp=>⟨(h p hp).1,(h p hp).2.below hb⟩
theorem dU.drew {w:World} {l:List (aF×Value)} (h:dU w l):dU w.drew l:=h
theorem lD.nS {w w':World} {p:aF×Value} {row:Option Nat} (h:lD w p) (hg:w.grownBy w' row) (hr:∀g,row=some g→∃cs T fr,w.heap[g]? =some (.cells cs T fr)∧T≠9):lD w' p:=by
 obtain⟨E,m,c,e,hc,hf,ht⟩:=h;have key:0<m→∀b off,E=some ⟨b,off,none⟩→w'.heap[b]? =w.heap[b]?∧b<w'.heap.size∧∃cs fr,w.heap[b]? =some (.cells cs 9 fr):=fun hm b off e2=>by
  obtain⟨b2,o2,cs,fr,e3,hh⟩:=ht hm;rw[e2]at e3;simp only[Option.some.injEq,Addr.mk.injEq,and_true]at e3;obtain⟨rfl,rfl⟩:=e3;have hne:some b≠row:=fun e4=>by
   obtain⟨cs2,T2,zR,h2,hT⟩:=hr b e4.symm;rw[hh]at h2;simp only[Option.some.injEq,Obj.cells.injEq]at h2;exact hT h2.2.1.symm
  exact⟨hg.block b (fF hh) hne,Nat.lt_of_lt_of_le (fF hh) hg.size,cs,fr,hh⟩
 refine⟨E,m,c,e,hc,?_,fun hm=>?_⟩
 ·obtain⟨h1,h2,h3,h4⟩:=hf;refine⟨h1,h2,h3,fun hm=>?_⟩;obtain⟨b,off,e2,hlt,hat⟩:=h4 hm;obtain⟨hk,hl,_⟩:=key hm b off e2;refine⟨b,off,e2,hl,fun i hi=>?_⟩;have hkc:∀i,w'.cell? ⟨b,i,none⟩=w.cell? ⟨b,i,none⟩:=fun i=>by
   unfold World.cell?;rw[show(⟨b,i,none⟩:Addr).block=b from rfl,hk]
  rw[hkc];exact hat i hi
 ·obtain⟨b,off,cs,fr,e2,hh⟩:=ht hm;exact⟨b,off,cs,fr,e2,(key hm b off e2).1.trans hh⟩
theorem lD.kept {w w':World} {p:aF×Value} {row:Option Nat} (h:lD w p) (hg:w.grownBy w' row) (hr:∀g,row=some g→∃cs fr,w.heap[g]? =some (.cells cs 90 fr)):lD w' p:=
 h.nS hg fun g e=>by obtain⟨cs,fr,h2⟩:=hr g e;exact⟨cs,_,fr,h2,by decide⟩
theorem dU.nS {w w':World} {l:List (aF×Value)} {row:Option Nat} (h:dU w l) (hg:w.grownBy w' row) (hr:∀g,row=some g→∃cs T fr,w.heap[g]? =some (.cells cs T fr)∧T≠9):dU w' l:=fun p hp=>⟨(h p hp).1,(h p hp).2.nS hg hr⟩
theorem dU.kept {w w':World} {l:List (aF×Value)} {row:Option Nat} (h:dU w l) (hg:w.grownBy w' row) (hr:∀g,row=some g→∃cs fr,w.heap[g]? =some (.cells cs 90 fr)):dU w' l:=fun p hp=>⟨(h p hp).1,(h p hp).2.kept hg hr⟩
theorem dG.block {w:World} {base:Nat} {v:Value} {l:List (aF×Value)} (h:dG w base v l):∀g,v.ownBlock=some g→∃cs fr,w.heap[g]? =some (.cells cs 90 fr):=by
 intro g hg;rcases h.2 with⟨rfl,_⟩|⟨g2,cap,cur,rfl,_,hh,_⟩
 ·simp[Value.ownBlock]at hg
 ·have:g2=g:=by simpa[Value.ownBlock]using hg
  subst this;exact⟨_,_,hh⟩
theorem Qb (l:List (aF×Value)) {i:Nat} (h:i<l.length):(dV l i).1=bg (l.map Prod.fst) i:=by
 rw[Br h,lZ (by simpa using h),List.getElem_map]
theorem dG.I8 {w:World} {base:Nat} {v:Value} {l:List (aF×Value)} (h:dG w base v l) (hx:dU w l):
  ∃A cap,v= .slice A l.length cap∧l.length≤cap∧jr w A l.length (l.map Prod.fst):=by
 obtain⟨A,cap,hv,hc,h1,h2,h3⟩:=h.parts;refine⟨A,cap,hv,hc,by simp,h2,fun r hr=>?_,fun hn=>?_⟩
 ·obtain⟨p,hp,rfl⟩:=List.mem_map.1 hr;exact(hx p hp).1
 ·obtain⟨b,off,e,hlt,hat⟩:=h3 hn;refine⟨b,off,e,hlt,fun i hi=>?_⟩;have hi2:i<l.length:=by simpa using hi
  obtain⟨E,m,c,e2,hmc,hf,_⟩:=(hx _ (Zr hi2)).2;have:=hat i hi2;unfold TY at this;rw[e2,Qb l hi2]at this;rw[Qb l hi2]at hf;exact⟨E,m,c,this,hmc,hf⟩
theorem Rp:(Tryz.prog.info? 90).map (fun i=>(i.zero,i.size,i.bytes))=some (some (.agg zD),6,72):=by kernel_rfl
theorem Zm (b off j:Nat):(⟨b,off,none⟩:Addr).add j=⟨b,off+j,none⟩:=by
 by_cases h0:j=0
 ·subst h0;simp[Addr.add]
 ·simp[Addr.add,h0]
theorem agR {w:World} {b off:Nat} {l:List (aF×Value)} (h:∀i,i<l.length→TY w b (off+i*6) (dV l i)):∀j u,(cellsD l)[j]? =some u→w.cell? ((⟨b,off,none⟩:Addr).add j)=some u:=by
 intro j u hj;have hl:j<l.length*6:=by rw[←uY];exact(List.getElem?_eq_some_iff.1 hj).1
 obtain⟨c0,c1,c2,c3,c4,c5⟩:=h (j / 6) (by omega);obtain⟨d0,d1,d2,d3,d4,d5⟩:=aex l (j / 6) (by omega);rw[Zm];rcases(by omega:j=j / 6*6∨j=j / 6*6+1∨j=j / 6*6+2∨j=j / 6*6+3∨j=j / 6*6+4∨j=j / 6*6+5)with h2|h2|h2|h2|h2|h2
 ·rw[h2,d0]at hj;rw[h2,c0];exact hj
 ·rw[h2,d1]at hj;rw[h2,show off+(j / 6*6+1)=off+j / 6*6+1 by omega,c1];exact hj
 ·rw[h2,d2]at hj;rw[h2,show off+(j / 6*6+2)=off+j / 6*6+2 by omega,c2];exact hj
 ·rw[h2,d3]at hj;rw[h2,show off+(j / 6*6+3)=off+j / 6*6+3 by omega,c3];exact hj
 ·rw[h2,d4]at hj;rw[h2,show off+(j / 6*6+4)=off+j / 6*6+4 by omega,c4];exact hj
 ·rw[h2,d5]at hj;rw[h2,show off+(j / 6*6+5)=off+j / 6*6+5 by omega,c5];exact hj
theorem Li {w:World} {ops:Array Oper} {rest:List Oper} {o:Oper} {a:Act} {Q:Exit→Act→World→Prop} (hgd:o.guard=none) (s x:Operand)
  (ho:o.op= .call { callee:=.builtin .append,args:=#[s,x],argTypes:=#[24,24] })
  (base:Nat) (v:Value) (l:List (aF×Value)) (hs:a.eval s=v) (hown:dG w base v l)
  (A:Option Addr) (m c:Nat) (k:List (aF×Value)) (hx:a.eval x= .slice A m c) (hf:uf w A m k) (hk1:zN k)
  (h63:(l.length+m)*72≤140737488355328) (hbase:base≤w.heap.size)
  (h:∀v' w',dG w' base v' (l++k)→w.grownBy w' v.ownBlock→wpList Tryz.prog ops Q rest (a.put o.dst v') w'):
  wpList Tryz.prog ops Q (o::rest) a w:=by
 obtain⟨i0,hi,hz0,hz1,hz2⟩:=info_parts Rp;obtain⟨hm,_,hat⟩:=hf;rcases Nat.eq_zero_or_pos m with rfl|hp
 ·have hg:k=[]:=List.eq_nil_of_length_eq_zero hm.symm;subst hg;refine wpList_plain hgd fun K hK=>?_;have hrun:=VT (P:=Tryz.prog) (w:=w) base 24 o.type 90 i0 6 Tryz.underlying24 hi v l.length _ hown A c;unfold Oper.wp;simp[execOp,ho,resolve,invoke,builtin,hs,hx,hrun,Result.andThen];refine hK _ _ (h v w (by simpa using hown) ?_);exact⟨rfl,rfl,rfl,Nat.le_refl _,fun _ _ _=>rfl⟩
 ·obtain⟨b,off,rfl,hb,hat⟩:=hat hp;refine wpList_append_own_at w hgd s x 24 ho base 90 i0 (.agg zD) 6 72 Tryz.underlying24 hi hz0 hz1 hz2 rfl (by decide) v l.length _ hs hown ⟨b,off,none⟩ m c (cellsD k) hx (by rw[uY,hm]) (agR hat) (ZJ hk1) (by unfold maxLen;omega) h63 hbase ?_;intro v' w' h1 h2 _ _;refine h v' w' ?_ h2;unfold dG;rw[Ih,List.length_append,←hm];exact h1
theorem Ni (w:World) (p:aF×Value):uf (w.alloc (.cells (aD p.1 p.2) 90)) (some ⟨w.heap.size,0,none⟩) 1 [p]:=by
 have hx:=World.alloc_heap_new w (.cells (aD p.1 p.2) 90);refine⟨rfl,by unfold maxLen;omega,fun _=>⟨w.heap.size,0,rfl,by simp,fun i hi=>?_⟩⟩;have:i=0:=by simpa using hi
 subst this;exact⟨bJ hx 0,bJ hx 1,bJ hx 2,bJ hx 3,bJ hx 4,bJ hx 5⟩
theorem amZ (l:List (aF×Value)) (i j:Nat) (u:Value) (q:aF×Value) (hi:i<l.length) (hj:j<6) (hq:kW q=(kW (dV l i)).set j u):(cellsD l).set (i*6+j) u=cellsD (l.set i q):=by
 have e:l=l.take i++(dV l i::l.drop (i+1)):=by rw[Br hi,List.getElem_cons_drop,List.take_append_drop]
 have hl:(l.take i).length=i:=by rw[List.length_take];omega
 have e2:l.set i q=l.take i++(q::l.drop (i+1)):=by rw[List.set_eq_take_append_cons_drop,if_pos hi]
 have h2:(cellsD l).set (i*6+j) u=(cellsD (l.take i)++(kW (dV l i)++cellsD (l.drop (i+1)))).set (i*6+j) u:=by
  rw[←Qf,←Ih,←e]
 rw[h2,List.set_append_right _ _ (by rw[uY,hl];omega),uY,hl,Nat.add_sub_cancel_left,List.set_append_left _ _ (by simp[kW];omega),←hq,←Qf,←Ih,←e2]
theorem dG.set {w:World} {base g n cap:Nat} {l:List (aF×Value)} (h:dG w base (.slice (some ⟨g,0,none⟩) n cap) l) (i j:Nat) (u:Value) (q:aF×Value) (hi:i<l.length) (hj:j<6) (hq:kW q=(kW (dV l i)).set j u):
  dG (w.setCell ⟨g,i*6+j,none⟩ u) base (.slice (some ⟨g,0,none⟩) n cap) (l.set i q)∧w.grownBy (w.setCell ⟨g,i*6+j,none⟩ u) (some g):=by
 have hn:n=l.length:=by
  rcases h.2 with⟨h',_⟩|⟨g',cap',cur,h',_⟩
  ·simp at h'
  ·simp only[Value.slice.injEq]at h';exact h'.2.1
 subst hn;obtain⟨h1,h2⟩:=World.ownsRow.stored h (i*6+j) u;refine⟨?_,h2⟩;unfold dG;rw[List.length_set,←amZ l i j u q hi hj hq];exact h1
theorem ahe (r:dx) (K:Option Addr) (k kc:Nat) (w:World) (h:dw w K k r.keys):
  Calls Tryz.prog 74 #[bX r (.slice K k kc)] w fun e w'=>e= .returned (.bool (mX r))∧Below w.heap.size w w':=by
 have vk:=h.2.1;unfold maxLen at vk;have HN:Hid (k=r.keys.length):=h.1;have hbw:Below w.heap.size w (w.alloc (.cells (aR r (.slice K k kc)) 43)):=ak _ _;have hbx:=aj.new w (.cells (aR r (.slice K k kc)) 43);have hss:=h.below hbw;obtain⟨W0,hW0⟩:=aQ (w.alloc (.cells (aR r (.slice K k kc)) 43));rw[hW0]at hbw hbx hss;have HX:=ah hbx;clear hbx;have HS:=ah hss;clear hss h;have HB:=ah hbw;clear hbw;have bA:Hid (¬iT r→mX r=false):=fun h=>decide_eq_false h;have iF:Hid (iT r→mX r=true):=fun h=>decide_eq_true h;unfold bX;go_enter Tryz.func74,Tryz.ntmps74;go_wp2_with fail;go_loopw [3] (fun i wy=>∃(j:Nat) (wr:World),wr=wy∧j≤k∧i= .int .i64 j∧(∀q,q<j→(r.keys.getD q ByteArray.empty).size≤16)∧Below W0.heap.size W0 wr) (fun i _=>k-(intOf i).toNat)
 case atStart=>exact⟨0,_,rfl,by omega,rfl,(fun q hq=>by omega),Below.refl _ _⟩
 case round=>
  obtain⟨j,wr,rfl,hj,rfl,hall,hb⟩:=hrel;have HB1:=ah hb;clear hb;have BO:=ah hall;clear hall;have hx1:=aj.below HX.out HB1.out;obtain⟨b0,b1,b2,b3⟩:=aY hx1;have jl:=ah hx1;clear hx1;have dO:=ah (aA HB.out HB1.out)
  by_cases hlt:j<k
  ·have hji:(j:Int)<(k:Int):=by omega
   have hj0:(0:Int)≤(j:Int):=by omega
   obtain⟨_,_,_,hat⟩:=HS.out;obtain⟨b,off,hK,hbl,hc⟩:=hat (by omega);subst hK;have c0:=(HB1.out.cell (p:=⟨b,off+j,none⟩) hbl).trans (hc j (by have:=HN.out;omega));clear hat hc
   by_cases h16:((r.keys.getD j ByteArray.empty).size:Int)≤16
   ·have HK:Hid ((r.keys.getD j ByteArray.empty).size≤16):=by show _≤_;omega
    have aaj:¬(16:Int)<((r.keys.getD j ByteArray.empty).size:Int):=by omega
    obtain⟨s,hs⟩:∃s,r.keys.getD j ByteArray.empty=s:=⟨_,rfl⟩;rw[hs]at c0 h16 aaj;have uS:=ah hs;clear hs h16;go_wp2_with fail;go_roundw
    case rel=>exact⟨j+1,_,rfl,by omega,by go_num,fun q hq=>by rcases(by omega:q<j∨q=j)with h|rfl;exact BO.out q h;exact HK.out,HB1.out⟩
    case measure=>simp[intOf];omega
   ·have HE:Hid (mX r=false):=bA.out fun h=>by
     have hjl:j<r.keys.length:=by have:=HN.out;omega
     have:=h.1 (r.keys.getD j ByteArray.empty) (by rw[List.getD_eq_getElem?_getD,List.getElem?_eq_getElem hjl];exact List.getElem_mem hjl);omega
    have aaj:(16:Int)<((r.keys.getD j ByteArray.empty).size:Int):=by omega
    clear h16;obtain⟨s,hs⟩:∃s,r.keys.getD j ByteArray.empty=s:=⟨_,rfl⟩;rw[hs]at c0 aaj;clear hs;go_wp2_with fail;go_ret;exact⟨by rw[HE.out];rfl,dO.out⟩
  ·have iw:j=k:=by omega
   subst iw;have DT:Hid (∀s∈r.keys,s.size≤16):=fun s hs=>by
    obtain⟨q,hq,rfl⟩:=List.getElem_of_mem hs;have:=BO.out q (by have:=HN.out;omega);rw[List.getD_eq_getElem?_getD,List.getElem?_eq_getElem hq]at this;exact this
   clear hlt
   by_cases h1:0≤r.rev
   rotate_left
   ·have HE:Hid (mX r=false):=bA.out fun h=>by obtain⟨_,⟨a1,a2⟩,a3,a4,a5⟩:=h;unfold bZ at a2;have:=HN.out;omega
    go_wp2_with fail;go_ret;exact⟨by rw[HE.out];rfl,dO.out⟩
   by_cases h2:r.rev≤9007199254740992
   rotate_left
   ·have HE:Hid (mX r=false):=bA.out fun h=>by obtain⟨_,⟨a1,a2⟩,a3,a4,a5⟩:=h;unfold bZ at a2;have:=HN.out;omega
    go_wp2_with fail;go_ret;exact⟨by rw[HE.out];rfl,dO.out⟩
   by_cases h3:(r.value.size:Int)≤200
   rotate_left
   ·have HE:Hid (mX r=false):=bA.out fun h=>by obtain⟨_,⟨a1,a2⟩,a3,a4,a5⟩:=h;unfold bZ at a2;have:=HN.out;omega
    go_wp2_with fail;go_ret;exact⟨by rw[HE.out];rfl,dO.out⟩
   by_cases h4:(j:Int)≤5
   rotate_left
   ·have HE:Hid (mX r=false):=bA.out fun h=>by obtain⟨_,⟨a1,a2⟩,a3,a4,a5⟩:=h;unfold bZ at a2;have:=HN.out;omega
    go_wp2_with fail;go_ret;exact⟨by rw[HE.out];rfl,dO.out⟩
   by_cases h5:0≤r.errno
   rotate_left
   ·have HE:Hid (mX r=false):=bA.out fun h=>by obtain⟨_,⟨a1,a2⟩,a3,a4,a5⟩:=h;unfold bZ at a2;have:=HN.out;omega
    go_wp2_with fail;go_ret;exact⟨by rw[HE.out];rfl,dO.out⟩
   by_cases h6:r.errno≤255
   rotate_left
   ·have HE:Hid (mX r=false):=bA.out fun h=>by obtain⟨_,⟨a1,a2⟩,a3,a4,a5⟩:=h;unfold bZ at a2;have:=HN.out;omega
    go_wp2_with fail;go_ret;exact⟨by rw[HE.out];rfl,dO.out⟩
   have HE:Hid (mX r=true):=iF.out ⟨DT.out,⟨h1,by unfold bZ;omega⟩,by omega,by have:=HN.out;omega,h5,h6⟩;go_wp2_with fail;go_ret;exact⟨by rw[HE.out];rfl,dO.out⟩
theorem aii {w:World} {ops:Array Oper} {rest:List Oper} {o:Oper} {a:Act} {Q:Exit→Act→World→Prop} (hgd:o.guard=none) (s x:Operand)
  (ho:o.op= .call { callee:=.builtin .append,args:=#[s,x],argTypes:=#[41,41] })
  (base:Nat) (v:Value) (l:List ByteArray) (hs:a.eval s=v) (hown:RowK w base v l)
  (A:Option Addr) (m c:Nat) (k:List ByteArray) (hx:a.eval x= .slice A m c) (hf:dw w A m k)
  (h63:(l.length+m)*16≤140737488355328) (hbase:base≤w.heap.size)
  (h:∀v' w',RowK w' base v' (l++k)→w.grownBy w' v.ownBlock→wpList Tryz.prog ops Q rest (a.put o.dst v') w'):
  wpList Tryz.prog ops Q (o::rest) a w:=by
 obtain⟨i0,hi,hz0,hz1,hz2⟩:=info_parts aaY;obtain⟨hm,_,_,hat⟩:=hf;rcases Nat.eq_zero_or_pos m with rfl|hp
 ·have hg:k=[]:=List.eq_nil_of_length_eq_zero hm.symm;subst hg;refine wpList_plain hgd fun K hK=>?_;have hrun:=VT (P:=Tryz.prog) (w:=w) base 41 o.type 9 i0 1 Tryz.underlying41 hi v l.length _ hown A c;unfold Oper.wp;simp[execOp,ho,resolve,invoke,builtin,hs,hx,hrun,Result.andThen];refine hK _ _ (h v w (by simpa using hown) ?_);exact⟨rfl,rfl,rfl,Nat.le_refl _,fun _ _ _=>rfl⟩
 ·obtain⟨b,off,rfl,hb,hat⟩:=hat hp;refine wpList_append_own_at w hgd s x 41 ho base 9 i0 (.string ⟨#[]⟩) 1 16 Tryz.underlying41 hi hz0 hz1 hz2 rfl (by decide) v l.length _ hs hown ⟨b,off,none⟩ m c (uZ k) hx (by rw[aeA,hm];omega) (abT hat) (ZN k) (by unfold maxLen;omega) h63 hbase ?_;intro v' w' h1 h2 _ _;refine h v' w' ?_ h2;unfold RowK;rw[ZM,List.length_append,←hm];exact h1
def alN (w:World) (r:dx) (e:Ending) (w':World):Prop:=
 ∃A n cap,e= .returned (bX r (.slice A n cap))∧n≤cap∧n=r.keys.length∧RowK w' w.heap.size (.slice A n cap) r.keys∧Below w.heap.size w w'
theorem tJ {W:World} {g:Nat} {a b c d:Value} {T:TypeId} (h:aj W g (.cells #[a,b,c,d] T (0,0))) (x y z u:Value):
  aj (((((W).setCell ⟨g,0,none⟩ x).setCell ⟨g,1,none⟩ y).setCell ⟨g,2,none⟩ z).setCell ⟨g,3,none⟩ u) g (.cells #[x,y,z,u] T (0,0)):=
 aj.set (aj.set (aj.set (aj.set h 0 x #[x,b,c,d] rfl) 1 y #[x,y,c,d] rfl) 2 z #[x,y,z,d] rfl) 3 u #[x,y,z,u] rfl
theorem gB (w:World) (g j:Nat) (u:Value):w.grownBy (w.setCell ⟨g,j,none⟩ u) (some g):=
 ⟨rfl,rfl,rfl,by simp,fun k _ hk=>heap_setCell_other w ⟨g,j,none⟩ k u (fun e=>hk (by simp[e]))⟩
theorem wF {w W:World} {B g:Nat} (h:Below B w W) (hg:B≤g) (x y z u:Value):Below B w (((((W).setCell ⟨g,0,none⟩ x).setCell ⟨g,1,none⟩ y).setCell ⟨g,2,none⟩ z).setCell ⟨g,3,none⟩ u):=
 (((h.setCell (p:=⟨g,0,none⟩) hg _).setCell (p:=⟨g,1,none⟩) hg _).setCell (p:=⟨g,2,none⟩) hg _).setCell (p:=⟨g,3,none⟩) hg _
theorem vG {W:World} {base g j:Nat} {v:Value} {l:List ByteArray} {u:Value} (h:RowK W base v l) (hne:some g≠v.ownBlock):RowK (W.setCell ⟨g,j,none⟩ u) base v l:=
 World.ownsRow.kept h (gB W g j u) (.inr fun e=>hne e.symm)
theorem ahx {W:World} {base g:Nat} {v:Value} {l:List ByteArray} (h:RowK W base v l) (hne:some g≠v.ownBlock) (x y z u:Value):RowK (((((W).setCell ⟨g,0,none⟩ x).setCell ⟨g,1,none⟩ y).setCell ⟨g,2,none⟩ z).setCell ⟨g,3,none⟩ u) base v l:=
 vG (vG (vG (vG h hne) hne) hne) hne
theorem ahw {w:World} {a b:Nat} {v:Value} {l:List ByteArray} (h:b≤a) (hr:RowK w a v l):RowK w b v l:=by
 refine⟨hr.1,?_⟩;rcases hr.2 with h2|⟨g,cap,cur,h1,h2,h3⟩
 ·exact .inl h2
 ·exact .inr ⟨g,cap,cur,h1,Nat.le_trans h h2,h3⟩
theorem RY (r:dx) (K:Option Addr) (k kc:Nat) (w:World) (h:dw w K k r.keys) (h16:k*16≤140737488351232):
  Calls Tryz.prog 90 #[bX r (.slice K k kc)] w (alN w r):=by
 have HN:Hid (k=r.keys.length):=h.1;have lu:Hid (∀s∈r.keys,s.size≤maxLen):=h.2.2.1;have hb1:Below w.heap.size w (w.alloc (.cells (aR r (.slice K k kc)) 43)):=ak _ _;have hb2:Below w.heap.size w ((w.alloc (.cells (aR r (.slice K k kc)) 43)).alloc (.cells z4 43)):=hb1.alloc (by simp) _;have hb3:Below w.heap.size w (((w.alloc (.cells (aR r (.slice K k kc)) 43)).alloc (.cells z4 43)).alloc (.cells (aR r (.slice K k kc)) 43)):=hb2.alloc (by simp;omega) _;have hx:=aj.below (aj.below (aj.new w (.cells (aR r (.slice K k kc)) 43)) (ak _ (.cells z4 43))) (ak _ (.cells (aR r (.slice K k kc)) 43));have hz:aj (((w.alloc (.cells (aR r (.slice K k kc)) 43)).alloc (.cells z4 43)).alloc (.cells (aR r (.slice K k kc)) 43)) (w.heap.size+1) (.cells z4 43 (0,0)):=by
  have h:=aj.below (aj.new (w.alloc (.cells (aR r (.slice K k kc)) 43)) (.cells z4 43)) (ak _ (.cells (aR r (.slice K k kc)) 43));rw[World.size_alloc]at h;exact h
 have hl:aj (((w.alloc (.cells (aR r (.slice K k kc)) 43)).alloc (.cells z4 43)).alloc (.cells (aR r (.slice K k kc)) 43)) (w.heap.size+2) (.cells (aR r (.slice K k kc)) 43 (0,0)):=by
  have h:=aj.new ((w.alloc (.cells (aR r (.slice K k kc)) 43)).alloc (.cells z4 43)) (.cells (aR r (.slice K k kc)) 43);rw[World.size_alloc,World.size_alloc]at h;exact h
 have hx0:=aj.below (aj.new w (.cells (aR r (.slice K k kc)) 43)) (ak _ (.cells z4 43));obtain⟨q0,q1,q2,q3⟩:=aY hx0;have hss:=h.below hb3;clear hx0 hb1 hb2 h;unfold bX;go_enter Tryz.func90,Tryz.ntmps90;go_upto_region 2 with fail;clear q0 q1 q2 q3;have e2:w.heap.size+1+1=w.heap.size+2:=rfl
 try rw[e2]
 obtain⟨W0,hW0⟩:=aQ (((w.alloc (.cells (aR r (.slice K k kc)) 43)).alloc (.cells z4 43)).alloc (.cells (aR r (.slice K k kc)) 43));rw[hW0]at hb3 hx hz hl hss ⊢;clear hW0 e2;obtain⟨g,hg⟩:∃g,w.heap.size=g:=⟨_,rfl⟩;have HG:=ah hg;rw[hg]at hb3 hx hz hl ⊢;clear hg;have HL:=ah hl;clear hl;have HZ:=ah hz;clear hz;have bU:=ah hb3;clear hb3;have uS:=ah hss;clear hss;obtain⟨q0,q1,q2,q3⟩:=aY hx;have HX:=ah hx;clear hx;go_wp2_with (at_builtin;refine aii rfl _ _ rfl W0.heap.size _ [] rfl (nI _ _) K k kc r.keys rfl uS.out (by simp;omega) (Nat.le_refl _) ?_);intro v1 W1 vC KN;clear q0 q1 q2 q3;obtain⟨A1,c1,hv,hc1,KO⟩:=vC.wK lu.out;subst hv;have hb1:Below W0.heap.size W0 W1:=(Below.refl _ _).grown KN (Nat.le_refl _) (fun q h=>by simp[Value.ownBlock]at h);have hl1:=aj.below HL.out hb1;have hz1:=aj.below HZ.out hb1;have HB1:=ah (bU.out.trans (hb1.mono (show g≤W0.heap.size by have:=aj.lt HL.out;omega)));have HG2:Hid (g+2<W0.heap.size):=aj.lt HL.out;have aaK:RowK W1 W0.heap.size (.slice A1 ([]++r.keys).length c1) r.keys:=vC;simp only[List.nil_append]at aaK hc1 KO;have HR1:=ah aaK;clear vC aaK;have hl2:=aj.set hl1 3 (.slice A1 r.keys.length c1) (aR r (.slice A1 r.keys.length c1)) rfl;have hz2:=aj.far hz1 (show g+1≠g+2 by omega) 3 (.slice A1 r.keys.length c1);have HR2:=ah (vG HR1.out (g:=g+2) (j:=3) (u:=.slice A1 r.keys.length c1) (fun e=>by have:=(HR1.out.lt _ e.symm).1;have:=HG2.out;omega));have HB2:=ah (HB1.out.setCell (p:=⟨g+2,3,none⟩) (show g≤g+2 by omega) (.slice A1 r.keys.length c1));have l3:=aj.cell hl1 3;have lf3:=aj.frozen hl1 3;simp only[aM]at l3
 try simp only[List.nil_append]
 go_upto_region 3 with fail;clear l3 lf3;obtain⟨W2,hW2⟩:=aQ (W1.setCell ⟨g+2,3,none⟩ (.slice A1 r.keys.length c1));rw[hW2]at hl2 hz2 HR2 HB2 ⊢;clear hW2;obtain⟨l0,l1,l2,l3⟩:=aY hl2;obtain⟨z0,z1,z2,z3⟩:=aY hz2;obtain⟨f0,f1,f2,f3⟩:=dX hz2;have hfin:=tJ hz2 (.int .i64 r.errno) (.int .i64 r.rev) (.string r.value) (.slice A1 r.keys.length c1);obtain⟨e0,e1,e2,e3⟩:=aY hfin;have iB:=ah (ahx HR2.out (g:=g+1) (fun e=>by have:=(HR2.out.lt _ e.symm).1;have:=HG2.out;omega) (.int .i64 r.errno) (.int .i64 r.rev) (.string r.value) (.slice A1 r.keys.length c1));have aU:=ah (wF (g:=g+1) HB2.out (Nat.le_succ _) (.int .i64 r.errno) (.int .i64 r.rev) (.string r.value) (.slice A1 r.keys.length c1));clear hfin;go_wp2_with fail;refine bodyPost_ret (v:=bX r (.slice A1 r.keys.length c1)) (by simp[bX,results,Tryz.results90,go_sem,e0,e1,e2,e3]) rfl ⟨A1,_,c1,rfl,hc1,rfl,ahw (by have:=HG2.out;have:=HG.out;omega) iB.out,by rw[HG.out];exact aU.out⟩
theorem ahg (l:List aF) (A:Option Addr) (n cap:Nat) (w:World) (h:jr w A n l):
  Calls Tryz.prog 33 #[.slice A n cap] w fun e w'=>e= .returned (.bool (tF l))∧Below w.heap.size w w':=by
 have jy:=h.2.1;unfold maxLen at jy;have HN:Hid (n=l.length):=h.1;have HT:=ah h;clear h;have bA:Hid (¬j4 l→tF l=false):=ahp;have iF:Hid (j4 l→tF l=true):=Ny.2;generalize tF l=R at*;go_enter Tryz.func33,Tryz.ntmps33;go_wp2_with fail;go_loopw [3,4] (fun la i wy=>∃(j:Nat) (wr:World) (z:Int),wr=wy∧j≤n∧la= .int .i64 z∧i= .int .i64 j∧0≤z∧(∀q,q<j→iT (bg l q).rep∧iN (bg l q).client (bg l q).id)∧lF (l.take j)∧(∀q,q<j→(bg l q).client≤z)∧(0<j→z=(bg l (j-1)).client)∧(j=0→z=0)∧Below w.heap.size w wr) (fun _ i _=>n-(intOf i).toNat)
 case atStart=>exact⟨0,_,0,rfl,by omega,rfl,rfl,Int.le_refl _,(fun q hq=>by omega),List.Pairwise.nil,(fun q hq=>by omega),(fun h=>by omega),(fun _=>rfl),Below.refl _ _⟩
 case round=>
  obtain⟨j,wr,z,rfl,hj,rfl,rfl,hz0,hall,yS,hle,hlast,hzz,hb⟩:=hrel;have HZ0:=ah hzz;clear hzz;have HB:=ah hb;clear hb;have BO:=ah hall;clear hall;have sI:=ah yS;clear yS;have qN:=ah hle;clear hle;have ajV:=ah hlast;clear hlast
  by_cases hlt:j<n
  ·have hji:(j:Int)<(n:Int):=by omega
   have hj0:(0:Int)≤(j:Int):=by omega
   have hjl:j<l.length:=by have:=HN.out;omega
   obtain⟨b,off,hA,_⟩:=HT.out.block (by omega);subst hA;obtain⟨E,m,c,hx,_,hss⟩:=HT.out.at hjl HB.out;have q:=ahe (bg l j).rep E m c wr hss;have HX:Hid (∀W,Below wr.heap.size wr W→tT W b (off+j*6) (bg l j) (.slice E m c)):=fun W hb=>hx.below hb;have kG:=ah hjl;have DX:Hid (¬(iT (bg l j).rep∧z<(bg l j).client∧iN (bg l j).client (bg l j).id)→¬j4 l):=fun hh h=>hh (by
    obtain⟨h1,h2⟩:=h.1 _ (yL kG.out);refine⟨h1,?_,h2⟩;rcases Nat.eq_zero_or_pos j with h0|h0
    ·obtain⟨⟨a,_⟩,_⟩:=h2;rcases Nat.eq_zero_or_pos j with h5|h5
     ·have:=HZ0.out h0;omega
     ·omega
    ·have e:=ajV.out h0;have:=Ey h.2.1 (i:=j-1) (j:=j) (by omega) kG.out;omega)
   clear hss hjl;unfold bX at q;obtain⟨x0,x1,x2,x3,x4,x5⟩:=hx;have EM:Hid (∀d,bg l j=d→bg l j=d):=fun d h=>h;obtain⟨d,hd⟩:∃d,bg l j=d:=⟨_,rfl⟩;have HD:=ah hd;rw[hd]at q x0 x1 x2 x3 x4 HX DX;clear hd EM;go_upto_region 5 with fail;go_wp2_with fail
   ((with_reducible refine q.mono ?_);rintro e W1 ⟨rfl,b1⟩)
   have hx1:=HX.out W1 b1;have HB1:=ah (aA HB.out b1);clear q b1 x0 x1 x2 x3 x4 x5 HX;obtain⟨x0,x1,x2,x3,x4,x5⟩:=hx1
   by_cases hm:iT d.rep
   rotate_left
   ·have HE:Hid (R=false):=bA.out (DX.out fun h=>hm h.1);have hmb:mX d.rep=false:=decide_eq_false hm;rw[hmb];clear hm hmb;go_wp2_with fail;go_ret;exact⟨by rw[HE.out];rfl,HB1.out⟩
   have hmb:mX d.rep=true:=decide_eq_true hm;have HM:=ah hm;clear hm;rw[hmb];clear hmb
   by_cases k0:d.client≤z
   ·have HE:Hid (R=false):=bA.out (DX.out (fun h=>by have:=h.2.1;omega));go_wp2_with fail;go_ret;exact⟨by rw[HE.out];rfl,HB1.out⟩
   by_cases avN:1000<d.client
   ·have HE:Hid (R=false):=bA.out (DX.out (fun h=>by have:=h.2.2.1.2;omega));go_wp2_with fail;go_ret;exact⟨by rw[HE.out];rfl,HB1.out⟩
   by_cases avO:d.id<1
   ·have HE:Hid (R=false):=bA.out (DX.out (fun h=>by have:=h.2.2.2.1;omega));go_wp2_with fail;go_ret;exact⟨by rw[HE.out];rfl,HB1.out⟩
   by_cases avP:9007199254740992<d.id
   ·have HE:Hid (R=false):=bA.out (DX.out (fun h=>by have:=h.2.2.2.2;unfold bZ at this;omega));go_wp2_with fail;go_ret;exact⟨by rw[HE.out];rfl,HB1.out⟩
   have lT:Hid (lF (l.take (j+1))):=by
    show lF _;rw[Wm kG.out,HD.out];refine List.pairwise_append.2 ⟨sI.out,List.pairwise_singleton _ _,fun a ha b hb=>?_⟩;rw[List.mem_singleton.1 hb];obtain⟨q,hq,rfl⟩:=List.getElem_of_mem ha;rw[List.length_take]at hq;have h1:=qN.out q (by omega);rw[lZ (by omega)]at h1;rw[List.getElem_take];omega
   have Xt:Hid (iN d.client d.id):=⟨⟨by omega,by omega⟩,by omega,by unfold bZ;omega⟩;have AP:Hid (z≤d.client∧0≤d.client):=⟨by omega,by omega⟩;go_wp2_with fail;go_roundw
   case rel=>
    refine⟨j+1,_,d.client,rfl,by omega,rfl,by go_num,AP.out.2,fun q hq=>?_,lT.out,fun q hq=>?_,fun _=>by rw[show j+1-1=j by omega,HD.out],(fun h=>by omega),HB1.out⟩
    ·rcases(by omega:q<j∨q=j)with h|rfl
     ·exact BO.out q h
     ·rw[HD.out];exact⟨HM.out,Xt.out⟩
    ·rcases(by omega:q<j∨q=j)with h|rfl
     ·have:=qN.out q h;have:=AP.out;omega
     ·rw[HD.out];exact Int.le_refl _
   case measure=>simp[intOf];omega
  ·have iw:j=n:=by omega
   subst iw;have htl:l.take j=l:=by rw[List.take_of_length_le];have:=HN.out;omega
   rw[htl]at sI;have hall:∀d∈l,iT d.rep∧iN d.client d.id:=fun d hd=>by
    obtain⟨q,hq,rfl⟩:=List.getElem_of_mem hd;have:=BO.out q (by have:=HN.out;omega);rw[lZ hq]at this;exact this
   have HA:=ah hall;clear hall htl hlt
   by_cases h8:j≤8
   ·have HE:Hid (R=true):=iF.out ⟨HA.out,sI.out,by have:=HN.out;omega⟩;have Qx:(j:Int)≤8:=by omega
    go_wp2_with fail;go_ret;exact⟨by rw[HE.out];simp,HB.out⟩
   ·have HE:Hid (R=false):=bA.out fun h=>by have:=h.2.2;have:=HN.out;omega
    have Qx:¬(j:Int)≤8:=by omega
    go_wp2_with fail;go_ret;exact⟨by rw[HE.out];simp,HB.out⟩
def ad4 (w:World) (r:dx) (z:Nat) (e:Ending) (w':World):Prop:=
 ∃K k kc,e= .returned (.tuple #[bX r (.slice K k kc),.int .i64 z])∧k≤kc∧dw w' K k r.keys∧RowK w' w.heap.size (.slice K k kc) r.keys∧Below w.heap.size w w'
theorem ahd (l:List aF) (c i:Int) (A:Option Addr) (n cap:Nat) (w:World) (h:jr w A n l):
  Calls Tryz.prog 47 #[.slice A n cap,.int .i64 c,.int .i64 i] w (ad4 w (dJ l c i).1 (dJ l c i).2):=by
 have jy:=h.2.1;unfold maxLen at jy;have HN:Hid (n=l.length):=h.1;have hb0:Below w.heap.size w (w.alloc (.cells z4 43)):=ak _ _;have hz0:=aj.new w (.cells z4 43);have hts:=h.below hb0;obtain⟨W0,hW0⟩:=aQ (w.alloc (.cells z4 43));rw[hW0]at hb0 hz0 hts;have HT:=ah hts;clear hts h;have HZ:=ah hz0;clear hz0;have HB:=ah hb0;clear hb0;have q:=ahg l A n cap W0 HT.out;have HBAD:Hid (¬(j4 l∧iN c i)→dJ l c i=(lK,1)):=fun h=>if_pos h;have Px:Hid (j4 l∧iN c i→dJ l c i=wP (jF l c) i):=fun h=>Ja h.1 h.2;have lY:Hid (∀b,tF l=b→(b=true↔j4 l)):=fun b hb=>by rw[←hb];exact Ny
 obtain⟨b,hb⟩:∃b,tF l=b:=⟨_,rfl⟩;have mQ:=ah (lY.out b hb);rw[hb]at q;clear hb lY;generalize dJ l c i=L at*;go_enter Tryz.func47,Tryz.ntmps47;go_wp2_with fail
 ((with_reducible refine q.mono ?_);rintro e W1 ⟨rfl,b1⟩)
 clear q;have HZ1:=ah (aj.below HZ.out b1);have HT1:=ah (HT.out.below b1);have HB1:=ah (aA HB.out b1);clear b1
 cases b with
 |false=>
  have HE:Hid (L=(lK,1)):=HBAD.out fun h=>by have:=mQ.out.2 h.1;cases this
  obtain⟨z0,z1,z2,z3⟩:=aY HZ1.out;obtain⟨f0,f1,f2,f3⟩:=dX HZ1.out;have hfin:=tJ HZ1.out (.int .i64 0) (.int .i64 0) (.string ⟨#[]⟩) (.slice none 0 0);obtain⟨e0,e1,e2,e3⟩:=aY hfin;have aU:=ah (wF (g:=w.heap.size) HB1.out (Nat.le_refl _) (.int .i64 0) (.int .i64 0) (.string ⟨#[]⟩) (.slice none 0 0));clear hfin;go_wp2_with fail;refine bodyPost_ret (v:=.tuple #[.agg z4,.int .i64 1]) (by simp[results,Tryz.results47,go_sem,e0,e1,e2,e3]) rfl (by rw[HE.out];exact⟨none,0,0,rfl,Nat.le_refl _,sW _ _,nI _ _,aU.out⟩)
 |true=>
  have HR:Hid (j4 l):=mQ.out.1 rfl;clear mQ
  by_cases g0:1≤c
  rotate_left
  ·have HE:Hid (L=(lK,1)):=HBAD.out (fun h=>by have:=h.2.1.1;omega);have g:=(show c<1 by omega);obtain⟨z0,z1,z2,z3⟩:=aY HZ1.out;obtain⟨f0,f1,f2,f3⟩:=dX HZ1.out;have hfin:=tJ HZ1.out (.int .i64 0) (.int .i64 0) (.string ⟨#[]⟩) (.slice none 0 0);obtain⟨e0,e1,e2,e3⟩:=aY hfin;have aU:=ah (wF (g:=w.heap.size) HB1.out (Nat.le_refl _) (.int .i64 0) (.int .i64 0) (.string ⟨#[]⟩) (.slice none 0 0));clear hfin;go_wp2_with fail;refine bodyPost_ret (v:=.tuple #[.agg z4,.int .i64 1]) (by simp[results,Tryz.results47,go_sem,e0,e1,e2,e3]) rfl (by rw[HE.out];exact⟨none,0,0,rfl,Nat.le_refl _,sW _ _,nI _ _,aU.out⟩)
  by_cases g1:c≤1000
  rotate_left
  ·have HE:Hid (L=(lK,1)):=HBAD.out (fun h=>by have:=h.2.1.2;omega);have g:=(show 1000<c by omega);obtain⟨z0,z1,z2,z3⟩:=aY HZ1.out;obtain⟨f0,f1,f2,f3⟩:=dX HZ1.out;have hfin:=tJ HZ1.out (.int .i64 0) (.int .i64 0) (.string ⟨#[]⟩) (.slice none 0 0);obtain⟨e0,e1,e2,e3⟩:=aY hfin;have aU:=ah (wF (g:=w.heap.size) HB1.out (Nat.le_refl _) (.int .i64 0) (.int .i64 0) (.string ⟨#[]⟩) (.slice none 0 0));clear hfin;go_wp2_with fail;refine bodyPost_ret (v:=.tuple #[.agg z4,.int .i64 1]) (by simp[results,Tryz.results47,go_sem,e0,e1,e2,e3]) rfl (by rw[HE.out];exact⟨none,0,0,rfl,Nat.le_refl _,sW _ _,nI _ _,aU.out⟩)
  by_cases g2:1≤i
  rotate_left
  ·have HE:Hid (L=(lK,1)):=HBAD.out (fun h=>by have:=h.2.2.1;omega);have g:=(show i<1 by omega);obtain⟨z0,z1,z2,z3⟩:=aY HZ1.out;obtain⟨f0,f1,f2,f3⟩:=dX HZ1.out;have hfin:=tJ HZ1.out (.int .i64 0) (.int .i64 0) (.string ⟨#[]⟩) (.slice none 0 0);obtain⟨e0,e1,e2,e3⟩:=aY hfin;have aU:=ah (wF (g:=w.heap.size) HB1.out (Nat.le_refl _) (.int .i64 0) (.int .i64 0) (.string ⟨#[]⟩) (.slice none 0 0));clear hfin;go_wp2_with fail;refine bodyPost_ret (v:=.tuple #[.agg z4,.int .i64 1]) (by simp[results,Tryz.results47,go_sem,e0,e1,e2,e3]) rfl (by rw[HE.out];exact⟨none,0,0,rfl,Nat.le_refl _,sW _ _,nI _ _,aU.out⟩)
  by_cases g3:i≤9007199254740992
  rotate_left
  ·have HE:Hid (L=(lK,1)):=HBAD.out (fun h=>by have:=h.2.2.2;unfold bZ at this;omega);have g:=(show 9007199254740992<i by omega);obtain⟨z0,z1,z2,z3⟩:=aY HZ1.out;obtain⟨f0,f1,f2,f3⟩:=dX HZ1.out;have hfin:=tJ HZ1.out (.int .i64 0) (.int .i64 0) (.string ⟨#[]⟩) (.slice none 0 0);obtain⟨e0,e1,e2,e3⟩:=aY hfin;have aU:=ah (wF (g:=w.heap.size) HB1.out (Nat.le_refl _) (.int .i64 0) (.int .i64 0) (.string ⟨#[]⟩) (.slice none 0 0));clear hfin;go_wp2_with fail;refine bodyPost_ret (v:=.tuple #[.agg z4,.int .i64 1]) (by simp[results,Tryz.results47,go_sem,e0,e1,e2,e3]) rfl (by rw[HE.out];exact⟨none,0,0,rfl,Nat.le_refl _,sW _ _,nI _ _,aU.out⟩)
  have k0:¬c<1:=by omega
  have k1:¬1000<c:=by omega
  have k2:¬i<1:=by omega
  have k3:¬9007199254740992<i:=by omega
  have HG:Hid (L=wP (jF l c) i):=Px.out ⟨HR.out,⟨⟨g0,g1⟩,g2,by unfold bZ;exact g3⟩⟩;clear HBAD Px;have dK:Hid (w.heap.size<W1.heap.size):=aj.lt HZ1.out;go_wp2_with fail;go_loopw [9] (fun x wy=>∃(j:Nat) (wr:World),wr=wy∧j≤n∧x= .int .i64 j∧(∀q,q<j→(bg l q).client=c→(bg l q).id<i)∧Below W1.heap.size W1 wr) (fun x _=>n-(intOf x).toNat)
  case atStart=>exact⟨0,_,rfl,by omega,rfl,(fun q hq=>by omega),Below.refl _ _⟩
  case round=>
   obtain⟨j,wr,rfl,hj,rfl,hno,hb⟩:=hrel;have Om:=ah hb;clear hb;have bA:=ah hno;clear hno;have vZ:=ah (aj.below HZ1.out Om.out);have bU:=ah (aA HB1.out Om.out)
   by_cases hlt:j<n
   ·have hji:(j:Int)<(n:Int):=by omega
    have hj0:(0:Int)≤(j:Int):=by omega
    have hjl:j<l.length:=by have:=HN.out;omega
    obtain⟨b,off,hA,_⟩:=HT1.out.block (by omega);subst hA;obtain⟨E,m,cc,hx,hmc,hss⟩:=HT1.out.at hjl Om.out;have hdw:=HT1.out.2.2.1 _ (yL hjl);have lq:Hid ((bg l j).client=c→jF l c=some (bg l j)):=fun e=>by
     have:=agA HR.out.2.1 (yL hjl);rw[e]at this;exact this
    obtain⟨x0,x1,x2,x3,x4,x5⟩:=hx;obtain⟨d,hd⟩:∃d,bg l j=d:=⟨_,rfl⟩;have HD:=ah hd;rw[hd]at x0 x1 x2 x3 x4 hss hdw lq;clear hd
    by_cases hc:d.client=c
    ·have e0:(d.client != c)=false:=by simp[hc]
     have HK:=ah (lq.out hc);clear lq
     by_cases hid:d.id<i
     ·have OB:=ah hid;clear hc;go_wp2_with fail;go_roundw
      case rel=>exact⟨j+1,_,rfl,by omega,by go_num,fun q hq hk=>by rcases(by omega:q<j∨q=j)with h|rfl;exact bA.out q h hk;rw[HD.out];exact OB.out,Om.out⟩
      case measure=>simp[intOf];omega
     ·by_cases hgt:i<d.id
      ·have HE:Hid (L=(lK,81)):=by show _=_;rw[HG.out,HK.out];unfold wP;simp only;rw[if_neg hid,if_pos hgt]
       clear hc;obtain⟨z0,z1,z2,z3⟩:=aY vZ.out;obtain⟨f0,f1,f2,f3⟩:=dX vZ.out;have hfin:=tJ vZ.out (.int .i64 0) (.int .i64 0) (.string ⟨#[]⟩) (.slice none 0 0);obtain⟨e0,e1,e2,e3⟩:=aY hfin;have aU:=ah (wF (g:=w.heap.size) bU.out (Nat.le_refl _) (.int .i64 0) (.int .i64 0) (.string ⟨#[]⟩) (.slice none 0 0));clear hfin;go_wp2_with fail;refine bodyPost_ret (v:=.tuple #[.agg z4,.int .i64 81]) (by simp[results,Tryz.results47,go_sem,e0,e1,e2,e3]) rfl (by rw[HE.out];exact⟨none,0,0,rfl,Nat.le_refl _,sW _ _,nI _ _,aU.out⟩)
      ·have HE:Hid (L=(d.rep,0)):=by show _=_;rw[HG.out,HK.out];unfold wP;simp only;rw[if_neg hid,if_neg hgt]
       have q:=RY d.rep E m cc wr hss (by have:=hdw.2.2.2;have:=hss.1;omega);unfold bX at q;have XT:Hid (∀s∈d.rep.keys,s.size≤maxLen):=hss.2.2.1;clear hc hss;go_wp2_with fail
       ((with_reducible refine q.mono ?_);rintro e W2 ⟨Ak,nk,ck,rfl,hck,hnk,hrow,b2⟩)
       clear q x0 x1 x2 x3 x4 x5;have hz2:=aj.below vZ.out b2;have HB2:=ah (aA bU.out b2);have D8:Hid (w.heap.size<wr.heap.size):=aj.lt vZ.out;have HRW:=ah hrow;clear hrow b2;subst hnk;unfold bX;obtain⟨z0,z1,z2,z3⟩:=aY hz2;obtain⟨f0,f1,f2,f3⟩:=dX hz2;have hfin:=tJ hz2 (.int .i64 d.rep.errno) (.int .i64 d.rep.rev) (.string d.rep.value) (.slice Ak d.rep.keys.length ck);obtain⟨e0,e1,e2,e3⟩:=aY hfin;have aU:=ah (wF (g:=w.heap.size) HB2.out (Nat.le_refl _) (.int .i64 d.rep.errno) (.int .i64 d.rep.rev) (.string d.rep.value) (.slice Ak d.rep.keys.length ck));have hrf:=ahx HRW.out (g:=w.heap.size) (fun e=>by have:=(HRW.out.lt _ e.symm).1;have:=D8.out;omega) (.int .i64 d.rep.errno) (.int .i64 d.rep.rev) (.string d.rep.value) (.slice Ak d.rep.keys.length ck);obtain⟨A9,c9,gZ,_,mV⟩:=hrf.wK XT.out;simp only[Value.slice.injEq,true_and]at gZ;obtain⟨rfl,rfl⟩:=gZ;have HSF:=ah mV;have oW:=ah (ahw (a:=wr.heap.size) (b:=w.heap.size) (by have:=D8.out;omega) hrf);clear hrf mV;clear hfin;go_wp2_with fail;refine bodyPost_ret (v:=.tuple #[.agg (aR d.rep (.slice Ak d.rep.keys.length ck)),.int .i64 0]) (by simp[results,Tryz.results47,go_sem,e0,e1,e2,e3]) rfl (by rw[HE.out];exact⟨Ak,_,ck,rfl,hck,HSF.out,oW.out,aU.out⟩)
    ·have e0:(d.client != c)=true:=by simpa using hc
     have HC:=ah hc;clear hc;go_wp2_with fail;go_roundw
     case rel=>exact⟨j+1,_,rfl,by omega,by go_num,fun q hq hk=>by rcases(by omega:q<j∨q=j)with h|rfl;exact bA.out q h hk;rw[HD.out]at hk;exact absurd hk HC.out,Om.out⟩
     case measure=>simp[intOf];omega
   ·have iw:j=n:=by omega
    have HE:Hid (L=(lK,70)):=by
     show _=_;rw[HG.out]
     cases e:jF l c with
     |none=>rfl
     |some d=>
      obtain⟨h1,h2⟩:=KX e;obtain⟨q,hq,rfl⟩:=List.getElem_of_mem h1;have:=bA.out q (by have:=HN.out;omega);rw[lZ hq]at this;unfold wP;simp only;rw[if_pos (this h2)]
    have hji:¬(j:Int)<(n:Int):=by omega
    clear hlt iw;obtain⟨z0,z1,z2,z3⟩:=aY vZ.out;obtain⟨f0,f1,f2,f3⟩:=dX vZ.out;have hfin:=tJ vZ.out (.int .i64 0) (.int .i64 0) (.string ⟨#[]⟩) (.slice none 0 0);obtain⟨e0,e1,e2,e3⟩:=aY hfin;have aU:=ah (wF (g:=w.heap.size) bU.out (Nat.le_refl _) (.int .i64 0) (.int .i64 0) (.string ⟨#[]⟩) (.slice none 0 0));clear hfin;go_wp2_with fail;refine bodyPost_ret (v:=.tuple #[.agg z4,.int .i64 70]) (by simp[results,Tryz.results47,go_sem,e0,e1,e2,e3]) rfl (by rw[HE.out];exact⟨none,0,0,rfl,Nat.le_refl _,sW _ _,nI _ _,aU.out⟩)
theorem ahc (l:List aF) (c i:Int) (A:Option Addr) (n cap:Nat) (w:World) (h:jr w A n l):
  Calls Tryz.prog 47 #[.slice A n cap,.int .i64 c,.int .i64 i] w (Za w (dJ l c i).1 (dJ l c i).2):=
 (ahd l c i A n cap w h).mono (fun e w' ⟨K,k,kc,h1,h2,h3,_,h4⟩=>⟨K,k,kc,h1,h2,h3,h4⟩)
def gD (l:List aF) (x:aF):Bool:=l.any fun y=>decide (x.client<y.client)
def sD (l:List aF) (x:aF):List aF:=if gD l x then pQ l x else l
theorem agc {a:List aF} {x:aF} (h:gD a x=false) (b:List aF):pQ (a++b) x=a++pQ b x:=by
 induction a with
 |nil=>rfl
 |cons y a ih=>
  unfold gD at h;rw[List.any_cons,Bool.or_eq_false_iff]at h;have h1:¬x.client<y.client:=by simpa using h.1
  rw[List.cons_append,pQ,if_neg h1,ih h.2];rfl
theorem apW {a:List aF} {x:aF} (h:gD a x=true) (b:List aF):pQ (a++b) x=pQ a x++b:=by
 induction a with
 |nil=>cases h
 |cons y a ih=>
  unfold gD at h;rw[List.any_cons,Bool.or_eq_true]at h;rw[List.cons_append,pQ,pQ]
  by_cases hx:x.client<y.client
  ·rw[if_pos hx,if_pos hx];rfl
  ·rw[if_neg hx,if_neg hx,ih (h.resolve_left (by simpa using hx))];rfl
theorem aad (a:List aF) (x y:aF):gD (a++[y]) x=(gD a x||decide (x.client<y.client)):=by simp[gD]
theorem asP {a:List aF} {x y:aF} (h:gD a x=true):sD (a++[y]) x=sD a x++[y]∧gD (a++[y]) x=true:=by
 have e:gD (a++[y]) x=true:=by rw[aad,h];rfl
 refine⟨?_,e⟩;unfold sD;rw[if_pos e,if_pos h,apW h]
theorem asS {a:List aF} {x y:aF} (h:gD a x=false) (hl:x.client<y.client):sD (a++[y]) x=sD a x++[x]++[y]∧gD (a++[y]) x=true:=by
 have e:gD (a++[y]) x=true:=by rw[aad,decide_eq_true hl];simp
 refine⟨?_,e⟩;unfold sD;rw[if_pos e,if_neg (by rw[h];simp),agc h];simp[pQ,hl]
theorem asR {a:List aF} {x y:aF} (h:gD a x=false) (hl:¬x.client<y.client):sD (a++[y]) x=sD a x++[y]∧gD (a++[y]) x=false:=by
 have e:gD (a++[y]) x=false:=by rw[aad,h,decide_eq_false hl];rfl
 refine⟨?_,e⟩;unfold sD;rw[if_neg (by rw[e];simp),if_neg (by rw[h];simp)]
theorem asQ (a:List aF) (x:aF):pQ a x=if gD a x then sD a x else sD a x++[x]:=by
 unfold sD
 cases h:gD a x with
 |true=>simp
 |false=>
  have:=agc h [];rw[List.append_nil]at this;simpa[pQ]using this
theorem asq {l:List aF} {c:Int} {k:Nat} (hk:k<l.length) (h:(bg l k).client=c):jT (l.take (k+1)) c=jT (l.take k) c:=by
 rw[Wm hk];unfold jT;rw[List.filter_append];simp[h]
theorem asr {l:List aF} {c:Int} {k:Nat} (hk:k<l.length) (h:(bg l k).client≠c):jT (l.take (k+1)) c=jT (l.take k) c++[bg l k]:=by
 rw[Wm hk];unfold jT;rw[List.filter_append];simp[h]
theorem asn (l:List aF) (c:Int):(jT l c).length≤l.length:=List.length_filter_le _ _
theorem Vl (l:List aF) (c i:Int):(dJ l c i).2=1∨(dJ l c i).2=0∨(dJ l c i).2=81∨(dJ l c i).2=70:=by
 unfold dJ wP;split
 ·exact .inl rfl
 ·split
  ·exact .inr (.inr (.inr rfl))
  ·split
   ·exact .inr (.inr (.inr rfl))
   ·split
    ·exact .inr (.inr (.inl rfl))
    ·exact .inr (.inl rfl)
theorem RowK.NR {w:World} {base n cap:Nat} {A:Option Addr} {l:List ByteArray} (h:RowK w base (.slice A n cap) l):Fp w A n:=fun hn=>by
 rcases h.2 with⟨h1,h2⟩|⟨g,cp,cur,h1,h2,hh,_⟩
 ·simp at h1;omega
 ·simp only[Value.slice.injEq]at h1;exact⟨g,0,_,_,h1.1,hh⟩
theorem ZU {W:World} {g:Nat} {a b c d e f:Value} {T:TypeId} (h:aj W g (.cells #[a,b,c,d,e,f] T (0,0))) (x y z u:Value):
  aj ((((W.setCell ⟨g,2,none⟩ x).setCell ⟨g,3,none⟩ y).setCell ⟨g,4,none⟩ z).setCell ⟨g,5,none⟩ u) g (.cells #[a,b,x,y,z,u] T (0,0)):=
 aj.set (aj.set (aj.set (aj.set h 2 x #[a,b,x,d,e,f] rfl) 3 y #[a,b,x,y,e,f] rfl) 4 z #[a,b,x,y,z,f] rfl) 5 u #[a,b,x,y,z,u] rfl
theorem ME {w W:World} {B g:Nat} (h:Below B w W) (hg:B≤g) (x y z u:Value):Below B w ((((W.setCell ⟨g,2,none⟩ x).setCell ⟨g,3,none⟩ y).setCell ⟨g,4,none⟩ z).setCell ⟨g,5,none⟩ u):=
 (((h.setCell (p:=⟨g,2,none⟩) hg _).setCell (p:=⟨g,3,none⟩) hg _).setCell (p:=⟨g,4,none⟩) hg _).setCell (p:=⟨g,5,none⟩) hg _
def ad2 (w:World) (u:List aF) (z:Nat) (e:Ending) (w':World):Prop:=
 ∃v l,e= .returned (.tuple #[v,.int .i64 z])∧dG w' w.heap.size v l∧l.map Prod.fst=u∧dU w' l∧Below w.heap.size w w'
theorem asb (l:List aF) (c i:Int) (r:dx) (A K:Option Addr) (n cap k kc:Nat) (w:World) (h:jr w A n l) (h72:n*72≤140737488351232) (hc:(Lit.int .i64 c).wf=true) (hi:(Lit.int .i64 i).wf=true) (hr:zM r) (hs:dw w K k r.keys) (h16:k*16≤140737488351232):
  Calls Tryz.prog 48 #[.slice A n cap,.int .i64 c,.int .i64 i,bX r (.slice K k kc)] w (ad2 w (fV l c i r).1 (fV l c i r).2):=by
 have jy:=h.2.1;unfold maxLen at jy;have HN:Hid (n=l.length):=h.1;have oU:Hid (k=r.keys.length):=hs.1;have hs2:=hs.2.2.1;have AQ:Hid (xZ ⟨c,i,r⟩):=⟨hc,hi,hr,by show r.keys.length*16≤_;have:=oU.out;omega⟩;have hb0:Below w.heap.size w (w.alloc (.cells (aR r (.slice K k kc)) 43)):=ak _ _;have hx0:=aj.new w (.cells (aR r (.slice K k kc)) 43);have hts:=h.below hb0;have hss:=hs.below hb0;obtain⟨W0,hW0⟩:=aQ (w.alloc (.cells (aR r (.slice K k kc)) 43));rw[hW0]at hb0 hx0 hts hss;have HT:=ah hts;clear hts h;have HS:=ah hss;clear hss hs;have HX:=ah hx0;clear hx0;have HB:=ah hb0;clear hb0;have HW:Hid (w.heap.size<W0.heap.size):=aj.lt HX.out;have q:=ahc l c i A n cap W0 HT.out;have h1:Hid ((dJ l c i).2=1→fV l c i r=([],1)):=fun e=>by unfold fV;rw[if_pos (.inl e)]
 have h2:Hid ((dJ l c i).2=0→fV l c i r=([],1)):=fun e=>by unfold fV;rw[if_pos (.inr (.inl e))]
 have h3:Hid (¬iT r→fV l c i r=([],1)):=fun e=>by unfold fV;rw[if_pos (.inr (.inr e))]
 have h4:Hid ((dJ l c i).2=81→iT r→fV l c i r=([],81)):=fun e m=>by unfold fV;rw[e,if_neg (by rintro(e|e|e);cases e;cases e;exact e m),if_pos rfl]
 have h5:Hid ((dJ l c i).2=70→iT r→fV l c i r=if 8<(mY l c i r).length then([],50)else(mY l c i r,0)):=fun e m=>by unfold fV;rw[e,if_neg (by rintro(e|e|e);cases e;cases e;exact e m),if_neg (by decide)]
 have HZ:=ah (Vl l c i);generalize fV l c i r=L at*;generalize dJ l c i=LL at*;obtain⟨rp,z⟩:=LL;simp only at q h1 h2 h4 h5 HZ;unfold bX;go_enter Tryz.func48,Tryz.ntmps48;go_wp2_with fail
 ((with_reducible refine q.mono ?_);rintro e W1 ⟨Kl,kl,kcl,rfl,_,_,b1⟩)
 clear q hW0;have jl:=ah (aj.below HX.out b1);have HT1:=ah (HT.out.below b1);have dK:=ah (HS.out.below b1);have HB1:=ah (aA HB.out b1);clear b1;have HW1:Hid (w.heap.size<W1.heap.size):=aj.lt jl.out;clear HX HT HS HB HW
 try unfold bX
 have hb2:Below W1.heap.size W1 (W1.alloc (.cells (aR rp (.slice Kl kl kcl)) 43)):=ak _ _;have iR:=ah (aj.below jl.out hb2);have HT2:=ah (HT1.out.below hb2);have HS2:=ah (dK.out.below hb2);have HB2:=ah (aA HB1.out hb2);clear hb2;clear jl HT1 dK;go_upto_region 2 with fail;obtain⟨W2,hW2⟩:=aQ (W1.alloc (.cells (aR rp (.slice Kl kl kcl)) 43));rw[hW2]at iR HT2 HS2 HB2 ⊢;clear hW2;have q:=ahe r K k kc W2 HS2.out;unfold bX at q;obtain⟨q0,q1,q2,q3⟩:=aY iR.out;go_wp2_with fail
 ((with_reducible refine q.mono ?_);rintro e W3 ⟨rfl,b3⟩)
 clear q q0 q1 q2 q3;have jP:=ah (aj.below iR.out b3);have HT3:=ah (HT2.out.below b3);have D7:=ah (HS2.out.below b3);have HB3:=ah (aA HB2.out b3);clear b3;clear iR HT2 HS2 HB2 HB1 HW1;have HM:Hid (∀b,mX r=b→(b=true↔iT r)):=fun b hb=>by rw[←hb];unfold mX;simp
 obtain⟨b,hb⟩:∃b,mX r=b:=⟨_,rfl⟩;have DW:=ah (HM.out b hb);rw[hb];clear hb HM;rcases HZ.out with hz|hz|hz|hz
 ·have HE:=ah (h1.out hz);clear h1 h2 h3 h4 h5 HZ DW;subst hz
  cases b<;>(go_wp2_with fail)
  all_goals refine bodyPost_ret (v:=.tuple #[.slice none 0 0,.int .i64 1]) (by simp[results,Tryz.results48,go_sem]) rfl ⟨_,[],by rw[HE.out];rfl,Dp _ _,by rw[HE.out];rfl,dU.nil _,HB3.out⟩
 ·have HE:=ah (h2.out hz);clear h1 h2 h3 h4 h5 HZ DW;subst hz
  cases b<;>(go_wp2_with fail)
  all_goals refine bodyPost_ret (v:=.tuple #[.slice none 0 0,.int .i64 1]) (by simp[results,Tryz.results48,go_sem]) rfl ⟨_,[],by rw[HE.out];rfl,Dp _ _,by rw[HE.out];rfl,dU.nil _,HB3.out⟩
 ·cases b with
  |false=>
   have HE:=ah (h3.out fun m=>by have:=DW.out.2 m;cases this);clear h1 h2 h3 h4 h5 HZ DW;subst hz;go_wp2_with fail;refine bodyPost_ret (v:=.tuple #[.slice none 0 0,.int .i64 1]) (by simp[results,Tryz.results48,go_sem]) rfl ⟨_,[],by rw[HE.out];rfl,Dp _ _,by rw[HE.out];rfl,dU.nil _,HB3.out⟩
  |true=>
   have HE:=ah (h4.out hz (DW.out.1 rfl));clear h1 h2 h3 h4 h5 HZ DW;subst hz;go_wp2_with fail;refine bodyPost_ret (v:=.tuple #[.slice none 0 0,.int .i64 81]) (by simp[results,Tryz.results48,go_sem]) rfl ⟨_,[],by rw[HE.out];rfl,Dp _ _,by rw[HE.out];rfl,dU.nil _,HB3.out⟩
 cases b with
 |false=>
  have HE:=ah (h3.out fun m=>by have:=DW.out.2 m;cases this);clear h1 h2 h3 h4 h5 HZ DW;subst hz;go_wp2_with fail;refine bodyPost_ret (v:=.tuple #[.slice none 0 0,.int .i64 1]) (by simp[results,Tryz.results48,go_sem]) rfl ⟨_,[],by rw[HE.out];rfl,Dp _ _,by rw[HE.out];rfl,dU.nil _,HB3.out⟩
 |true=>
 have HE:=ah (h5.out hz (DW.out.1 rfl));clear h1 h2 h3 h4 h5 HZ DW;subst hz;have q:=RY r K k kc W3 D7.out h16;unfold bX at q;have adS:=jP.out;obtain⟨q0,q1,q2,q3⟩:=aY adS;clear adS;go_wp2_with fail
 ((with_reducible refine q.mono ?_);rintro e W4 ⟨Ax,nx,cx,rfl,hcx,hnx,hrow,b4⟩)
 clear q q0 q1 q2 q3;subst hnx;have xw:=ah (HT3.out.below b4);have cB:=ah (aA HB3.out b4);clear b4;have HRX:=ah hrow;clear hrow;clear jP D7 HT3 HB3
 try unfold bX
 have hb5:Below W4.heap.size W4 (W4.alloc (.cells #[.int .i64 c,.int .i64 i,.int .i64 r.errno,.int .i64 r.rev,.string r.value,.slice Ax r.keys.length cx] 90)):=ak _ _;have hx5:=aj.new W4 (.cells #[.int .i64 c,.int .i64 i,.int .i64 r.errno,.int .i64 r.rev,.string r.value,.slice Ax r.keys.length cx] 90);have hk5:lD (W4.alloc (.cells #[.int .i64 c,.int .i64 i,.int .i64 r.errno,.int .i64 r.rev,.string r.value,.slice Ax r.keys.length cx] 90)) (⟨c,i,r⟩,.slice Ax r.keys.length cx):=by
  have h9:=HRX.out.below hb5;obtain⟨A9,c9,gZ,_,mV⟩:=h9.wK (show ∀s∈r.keys,s.size≤maxLen from hs2);simp only[Value.slice.injEq,true_and]at gZ;obtain⟨rfl,rfl⟩:=gZ;exact⟨_,_,_,rfl,hcx,mV,h9.NR⟩
 have Er:=xw.out.below hb5;have Nf:=aA cB.out hb5;clear hb5;have HS2:=ah hs2;clear hs2;go_upto_region 9 with fail;obtain⟨W5,hW5⟩:=aQ (W4.alloc (.cells #[.int .i64 c,.int .i64 i,.int .i64 r.errno,.int .i64 r.rev,.string r.value,.slice Ax r.keys.length cx] 90));rw[hW5]at hx5 hk5 Er Nf ⊢;clear hW5;obtain⟨B,hB⟩:∃B,W4.heap.size=B:=⟨_,rfl⟩;rw[hB]at hx5 ⊢;clear hB;have oL:=ah hx5;clear hx5;have HKX:=ah hk5;clear hk5;have J7:=ah Er;clear Er;have eH:=ah Nf;clear Nf;clear xw cB HRX;go_wp2_with fail;go_loopw [13,15,16] (fun v d x wy=>∃(j:Nat) (wr:World) (ps:List (aF×Value)),wr=wy∧j≤n∧x= .int .i64 j∧d= .bool (gD (jT (l.take j) c) ⟨c,i,r⟩)∧ps.map Prod.fst=sD (jT (l.take j) c) ⟨c,i,r⟩∧dG wr W5.heap.size v ps∧dU wr ps∧Below W5.heap.size W5 wr) (fun _ _ x _=>n-(intOf x).toNat)
 case atStart=>exact⟨0,_,[],rfl,by omega,rfl,rfl,rfl,Dp _ _,dU.nil _,Below.refl _ _⟩
 case round=>
  obtain⟨j,wr,ps,rfl,hj,rfl,rfl,hmap,hrow,hky,hbw⟩:=hrel;have g_:=ah hmap;clear hmap;have eY:=ah hrow;clear hrow;have sF:=ah hky;clear hky;have bU:=ah hbw;clear hbw;have HLEN:Hid (ps.length≤j+1):=by
   have e:=congrArg List.length g_.out;rw[List.length_map]at e;have h9:=asn (l.take j) c;rw[List.length_take]at h9;show _≤_;unfold sD at e;split at e
   ·rw[aga]at e;omega
   ·omega
  obtain⟨Av,cv,apQ,hcv,_⟩:=eY.out.parts;subst apQ;clear hcv
  by_cases hlt:j<n
  ·have hji:(j:Int)<(n:Int):=by omega
   have hj0:(0:Int)≤(j:Int):=by omega
   have hjl:j<l.length:=by have:=HN.out;omega
   obtain⟨b,off,hA,_⟩:=J7.out.block (by omega);subst hA;have hx6:∃E m cc,(∀W,Below W5.heap.size W5 W→tT W b (off+j*6) (bg l j) (.slice E m cc))∧m≤cc∧(∀W,Below W5.heap.size W5 W→dw W E m (bg l j).rep.keys):=by
    obtain⟨E,m,cc,hx,hmc,hss⟩:=J7.out.at hjl (Below.refl _ _);exact⟨E,m,cc,fun W hb=>hx.below hb,hmc,fun W hb=>hss.below hb⟩
   obtain⟨E,m,cc,Et,hmc,hss⟩:=hx6;have hdd:=J7.out.2.2.1 _ (yL hjl);have aaP:(bg l j).client=c→jT (l.take (j+1)) c=jT (l.take j) c:=asq hjl;have hstep:(bg l j).client≠c→jT (l.take (j+1)) c=jT (l.take j) c++[bg l j]:=asr hjl;obtain⟨d,hd⟩:∃d,bg l j=d:=⟨_,rfl⟩;rw[hd]at Et hss hdd aaP hstep;clear hd;have Ea:=ah Et;clear Et;have uS:=ah hss;clear hss;have EM:=ah hdd;clear hdd;have TA:=ah aaP;clear aaP;have uT:=ah hstep;clear hstep;have lu:Hid (∀s∈d.rep.keys,s.size≤maxLen):=(uS.out W5 (Below.refl _ _)).2.2.1;obtain⟨G,hG⟩:∃G,jT (l.take j) c=G:=⟨_,rfl⟩;rw[hG]at g_ TA uT ⊢;clear hG;obtain⟨dn,hdn⟩:∃b,gD G ⟨c,i,r⟩=b:=⟨_,rfl⟩;have SA:=ah hdn;rw[hdn];clear hdn;obtain⟨x0,x1,x2,x3,x4,x5⟩:=Ea.out wr bU.out
   by_cases hc:d.client=c
   ·have e0:(d.client==c)=true:=by simpa using hc
    have Tz:=ah (TA.out hc);clear hc TA uT;go_wp2_with fail;go_roundw
    case rel=>exact⟨j+1,_,ps,rfl,by omega,by go_num,by rw[Tz.out,SA.out],by rw[Tz.out];exact g_.out,eY.out,sF.out,bU.out⟩
    case measure=>simp[intOf];omega
   have e0:(d.client==c)=false:=by simpa using hc
   have HST:=ah (uT.out hc);clear hc TA uT
   cases dn with
   |true=>
    have EE:=ah (asP (y:=d) SA.out);go_upto_region 17 with fail;clear x0 x1 x2 x3 x4 x5 e0;have hyb:Below wr.heap.size wr (wr.alloc (.cells (aD d (.slice E m cc)) 90)):=ak _ _;have hy0:=aj.new wr (.cells (aD d (.slice E m cc)) 90);obtain⟨x0,x1,x2,x3,x4,x5⟩:=Ea.out wr bU.out;have hys:=(uS.out wr bU.out).below hyb;have Dj:Below W5.heap.size W5 (wr.alloc (.cells (aD d (.slice E m cc)) 90)):=bU.out.alloc bU.out.size _;have Hw:=ah hyb;clear hyb;go_upto_region 18 with fail;clear x0 x1 x2 x3 x4 x5;obtain⟨Y,hY⟩:=aQ (wr.alloc (.cells (aD d (.slice E m cc)) 90));have HY:Hid (Below wr.heap.size wr Y):=by rw[←hY];exact Hw.out
    rw[hY]at hy0 hys Dj ⊢;clear hY Hw;obtain⟨gy,kC⟩:∃g,wr.heap.size=g:=⟨_,rfl⟩;have DJ:=ah kC;rw[kC]at hy0 ⊢;clear kC;have vY:=ah hy0;clear hy0;have Cn:=ah Dj;clear Dj;have q:=RY d.rep E m cc Y hys (by have:=EM.out.2.2.2;have:=hys.1;omega);clear hys;unfold bX at q;have I6:=vY.out;obtain⟨q0,q1,q2,q3,q4,q5⟩:=sN I6;clear I6;go_wp2_with fail
    ((with_reducible refine q.mono ?_);rintro e Z ⟨Ay,ny,cy,rfl,hcy,hny,IY,bz⟩)
    clear q q0 q1 q2 q3 q4 q5;subst hny
    try unfold bX
    have hz0:=aj.below vY.out bz;have jo:=ah (HY.out.trans (bz.mono HY.out.size));have Hu:=ah (Cn.out.trans (bz.mono Cn.out.size));have Co:=ah IY;clear IY bz;have z2:=aj.cell hz0 2;have z3:=aj.cell hz0 3;have z4:=aj.cell hz0 4;have z5:=aj.cell hz0 5;simp only[aM]at z2 z3 z4 z5;have f2:=aj.frozen hz0 2;have f3:=aj.frozen hz0 3;have f4:=aj.frozen hz0 4;have f5:=aj.frozen hz0 5;have hfin:=ZU hz0 (.int .i64 d.rep.errno) (.int .i64 d.rep.rev) (.string d.rep.value) (.slice Ay d.rep.keys.length cy);have hbf:=ME (g:=gy) jo.out (by have:=DJ.out;omega) (.int .i64 d.rep.errno) (.int .i64 d.rep.rev) (.string d.rep.value) (.slice Ay d.rep.keys.length cy);have hwf:=ME (g:=gy) Hu.out (by have:=DJ.out;have:=bU.out.size;omega) (.int .i64 d.rep.errno) (.int .i64 d.rep.rev) (.string d.rep.value) (.slice Ay d.rep.keys.length cy);have hne:some gy≠(Value.slice Ay d.rep.keys.length cy).ownBlock:=fun e=>by have:=(Co.out.lt _ e.symm).1;have:=aj.lt vY.out;omega
    have um:RowK ((((Z.setCell ⟨gy,2,none⟩ (.int .i64 d.rep.errno)).setCell ⟨gy,3,none⟩ (.int .i64 d.rep.rev)).setCell ⟨gy,4,none⟩ (.string d.rep.value)).setCell ⟨gy,5,none⟩ (.slice Ay d.rep.keys.length cy)) Y.heap.size (.slice Ay d.rep.keys.length cy) d.rep.keys:=vG (vG (vG (vG Co.out hne) hne) hne) hne;have rz:=ah hfin;clear hfin;have aU:=ah hbf;clear hbf;have yI:=ah hwf;clear hwf;have gV:=ah um;clear um hz0 hne;go_upto_region 19 with fail;clear z2 z3 z4 z5 f2 f3 f4 f5;obtain⟨T,hT⟩:=aQ ((((Z.setCell ⟨gy,2,none⟩ (.int .i64 d.rep.errno)).setCell ⟨gy,3,none⟩ (.int .i64 d.rep.rev)).setCell ⟨gy,4,none⟩ (.string d.rep.value)).setCell ⟨gy,5,none⟩ (.slice Ay d.rep.keys.length cy));rw[hT]at rz aU yI gV ⊢;clear hT jo Hu Co HY Cn vY;have iC:=ah (eY.out.below aU.out);have JR:=ah (sF.out.below aU.out);have hkt:lD T (d,.slice Ay d.rep.keys.length cy):=by
     obtain⟨A9,c9,gZ,_,mV⟩:=gV.out.wK (lu.out);simp only[Value.slice.injEq,true_and]at gZ;obtain⟨rfl,rfl⟩:=gZ;exact⟨_,_,_,rfl,hcy,mV,gV.out.NR⟩
    have OH:=ah hkt;clear hkt gV;have hfc:=rz.out;obtain⟨q0,q1,q2,q3,q4,q5⟩:=sN hfc;clear hfc;have hby:Below T.heap.size T (T.alloc (.cells (aD d (.slice Ay d.rep.keys.length cy)) 90)):=ak _ _;have Dc:uf (T.alloc (.cells (aD d (.slice Ay d.rep.keys.length cy)) 90)) (some ⟨T.heap.size,0,none⟩) 1 [(d,.slice Ay d.rep.keys.length cy)]:=Ni T (d,.slice Ay d.rep.keys.length cy);have Di:Below W5.heap.size W5 (T.alloc (.cells (aD d (.slice Ay d.rep.keys.length cy)) 90)):=yI.out.alloc yI.out.size _;have Df:=iC.out.below hby;have C8:=JR.out.below hby;have hpay:=lD.below OH.out hby;clear hby;obtain⟨Vy,IB⟩:=aQ (T.alloc (.cells (aD d (.slice Ay d.rep.keys.length cy)) 90));rw[IB]at Dc Di Df C8 hpay;have G_:=ah Dc;clear Dc;have yH:=ah Di;clear Di;have uN:=ah Df;clear Df;have GD:=ah C8;clear C8;have GL:=ah hpay;clear hpay;have Hr:Hid (zN [(d,.slice Ay d.rep.keys.length cy)]):=fun x hx=>by rw[List.mem_singleton]at hx;rw[hx];exact⟨_,_,_,rfl⟩
    go_wp2_with (at_builtin;refine Li rfl _ _ rfl W5.heap.size _ (ps) rfl uN.out (some ⟨T.heap.size,0,none⟩) 1 1 [(d,.slice Ay d.rep.keys.length cy)] rfl G_.out Hr.out (by have:=HLEN.out;(try simp only[List.length_append,List.length_singleton]at this ⊢);omega) yH.out.size ?_);intro vy Uy IZ kC;have PO:Hid (Below W5.heap.size W5 Uy):=yH.out.grown kC yH.out.size (fun g hg=>(uN.out.lt g hg).1);have OU:Hid (dU Uy (ps++[(d,.slice Ay d.rep.keys.length cy)])):=dU.append (GD.out.kept kC uN.out.block) (dU.one EM.out (GL.out.kept kC uN.out.block));have Pn:=ah IZ;clear IZ kC uN GD GL G_ yH Hr IB;clear q0 q1 q2 q3 q4 q5;go_wp2_with fail;go_roundw
    case rel=>exact⟨j+1,_,_,rfl,by omega,by go_num,by rw[HST.out,EE.out.2],by rw[HST.out,EE.out.1,←g_.out,List.map_append];rfl,Pn.out,OU.out,PO.out⟩
    case measure=>simp[intOf];omega
   |false=>
    by_cases hgt:c<d.client
    ·have EE:=ah (asS (x:=⟨c,i,r⟩) (y:=d) SA.out hgt);go_upto_region 15 with fail;clear x0 x1 x2 x3 x4 x5 e0;have hxb:=aj.below oL.out bU.out;obtain⟨q0,q1,q2,q3,q4,q5⟩:=sN hxb;clear hxb;have hbq:Below wr.heap.size wr (wr.alloc (.cells #[.int .i64 c,.int .i64 i,.int .i64 r.errno,.int .i64 r.rev,.string r.value,.slice Ax r.keys.length cx] 90)):=ak _ _;have hqq:uf (wr.alloc (.cells #[.int .i64 c,.int .i64 i,.int .i64 r.errno,.int .i64 r.rev,.string r.value,.slice Ax r.keys.length cx] 90)) (some ⟨wr.heap.size,0,none⟩) 1 [((⟨c,i,r⟩:aF),(.slice Ax r.keys.length cx:Value))]:=Ni wr ((⟨c,i,r⟩:aF),(.slice Ax r.keys.length cx:Value));have aaV:Below W5.heap.size W5 (wr.alloc (.cells #[.int .i64 c,.int .i64 i,.int .i64 r.errno,.int .i64 r.rev,.string r.value,.slice Ax r.keys.length cx] 90)):=bU.out.alloc bU.out.size _;have aaI:=eY.out.below hbq;have aax:=sF.out.below hbq;have aaE:=lD.below (lD.below HKX.out bU.out) hbq;clear hbq;obtain⟨Vq,hVq⟩:=aQ (wr.alloc (.cells #[.int .i64 c,.int .i64 i,.int .i64 r.errno,.int .i64 r.rev,.string r.value,.slice Ax r.keys.length cx] 90));rw[hVq]at hqq aaV aaI aax aaE;have HQq:=ah hqq;clear hqq;have TJ:=ah aaV;clear aaV;have Ph:=ah aaI;clear aaI;have acR:=ah aax;clear aax;have ac1:=ah aaE;clear aaE;have adt:Hid (zN [((⟨c,i,r⟩:aF),(.slice Ax r.keys.length cx:Value))]):=fun x hx=>by rw[List.mem_singleton]at hx;rw[hx];exact⟨_,_,_,rfl⟩
     go_wp2_with (at_builtin;refine Li rfl _ _ rfl W5.heap.size _ (ps) rfl Ph.out (some ⟨wr.heap.size,0,none⟩) 1 1 [((⟨c,i,r⟩:aF),(.slice Ax r.keys.length cx:Value))] rfl HQq.out adt.out (by have:=HLEN.out;(try simp only[List.length_append,List.length_singleton]at this ⊢);omega) TJ.out.size ?_);intro vq Uq hrq U0;have PN:Hid (Below W5.heap.size W5 Uq):=TJ.out.grown U0 TJ.out.size (fun g hg=>(Ph.out.lt g hg).1);have HKq:Hid (dU Uq (ps++[((⟨c,i,r⟩:aF),(.slice Ax r.keys.length cx:Value))])):=dU.append (acR.out.kept U0 Ph.out.block) (dU.one AQ.out (ac1.out.kept U0 Ph.out.block));have HRq:=ah hrq;clear hrq U0 Ph acR ac1 HQq TJ adt hVq;clear q0 q1 q2 q3 q4 q5;go_upto_region 17 with fail;obtain⟨Aq,cq,Rk,hcq,_⟩:=HRq.out.parts;rw[List.length_append,List.length_singleton]at Rk;subst Rk;clear hcq;have ajW:=HLEN;clear HLEN;have HLEN:Hid ((ps++[((⟨c,i,r⟩:aF),(.slice Ax r.keys.length cx:Value))]).length≤j+2):=by show _≤_;rw[List.length_append];have:=ajW.out;simp;omega
     have hyb:Below Uq.heap.size Uq (Uq.alloc (.cells (aD d (.slice E m cc)) 90)):=ak _ _;have hy0:=aj.new Uq (.cells (aD d (.slice E m cc)) 90);obtain⟨x0,x1,x2,x3,x4,x5⟩:=Ea.out Uq PN.out;have hys:=(uS.out Uq PN.out).below hyb;have Dj:Below W5.heap.size W5 (Uq.alloc (.cells (aD d (.slice E m cc)) 90)):=PN.out.alloc PN.out.size _;have Hw:=ah hyb;clear hyb;go_upto_region 18 with fail;clear x0 x1 x2 x3 x4 x5;obtain⟨Y,hY⟩:=aQ (Uq.alloc (.cells (aD d (.slice E m cc)) 90));have HY:Hid (Below Uq.heap.size Uq Y):=by rw[←hY];exact Hw.out
     rw[hY]at hy0 hys Dj ⊢;clear hY Hw;obtain⟨gy,kC⟩:∃g,Uq.heap.size=g:=⟨_,rfl⟩;have DJ:=ah kC;rw[kC]at hy0 ⊢;clear kC;have vY:=ah hy0;clear hy0;have Cn:=ah Dj;clear Dj;have q:=RY d.rep E m cc Y hys (by have:=EM.out.2.2.2;have:=hys.1;omega);clear hys;unfold bX at q;have I6:=vY.out;obtain⟨q0,q1,q2,q3,q4,q5⟩:=sN I6;clear I6;go_wp2_with fail
     ((with_reducible refine q.mono ?_);rintro e Z ⟨Ay,ny,cy,rfl,hcy,hny,IY,bz⟩)
     clear q q0 q1 q2 q3 q4 q5;subst hny
     try unfold bX
     have hz0:=aj.below vY.out bz;have jo:=ah (HY.out.trans (bz.mono HY.out.size));have Hu:=ah (Cn.out.trans (bz.mono Cn.out.size));have Co:=ah IY;clear IY bz;have z2:=aj.cell hz0 2;have z3:=aj.cell hz0 3;have z4:=aj.cell hz0 4;have z5:=aj.cell hz0 5;simp only[aM]at z2 z3 z4 z5;have f2:=aj.frozen hz0 2;have f3:=aj.frozen hz0 3;have f4:=aj.frozen hz0 4;have f5:=aj.frozen hz0 5;have hfin:=ZU hz0 (.int .i64 d.rep.errno) (.int .i64 d.rep.rev) (.string d.rep.value) (.slice Ay d.rep.keys.length cy);have hbf:=ME (g:=gy) jo.out (by have:=DJ.out;omega) (.int .i64 d.rep.errno) (.int .i64 d.rep.rev) (.string d.rep.value) (.slice Ay d.rep.keys.length cy);have hwf:=ME (g:=gy) Hu.out (by have:=DJ.out;have:=PN.out.size;omega) (.int .i64 d.rep.errno) (.int .i64 d.rep.rev) (.string d.rep.value) (.slice Ay d.rep.keys.length cy);have hne:some gy≠(Value.slice Ay d.rep.keys.length cy).ownBlock:=fun e=>by have:=(Co.out.lt _ e.symm).1;have:=aj.lt vY.out;omega
     have um:RowK ((((Z.setCell ⟨gy,2,none⟩ (.int .i64 d.rep.errno)).setCell ⟨gy,3,none⟩ (.int .i64 d.rep.rev)).setCell ⟨gy,4,none⟩ (.string d.rep.value)).setCell ⟨gy,5,none⟩ (.slice Ay d.rep.keys.length cy)) Y.heap.size (.slice Ay d.rep.keys.length cy) d.rep.keys:=vG (vG (vG (vG Co.out hne) hne) hne) hne;have rz:=ah hfin;clear hfin;have aU:=ah hbf;clear hbf;have yI:=ah hwf;clear hwf;have gV:=ah um;clear um hz0 hne;go_upto_region 19 with fail;clear z2 z3 z4 z5 f2 f3 f4 f5;obtain⟨T,hT⟩:=aQ ((((Z.setCell ⟨gy,2,none⟩ (.int .i64 d.rep.errno)).setCell ⟨gy,3,none⟩ (.int .i64 d.rep.rev)).setCell ⟨gy,4,none⟩ (.string d.rep.value)).setCell ⟨gy,5,none⟩ (.slice Ay d.rep.keys.length cy));rw[hT]at rz aU yI gV ⊢;clear hT jo Hu Co HY Cn vY;have iC:=ah (HRq.out.below aU.out);have JR:=ah (HKq.out.below aU.out);have hkt:lD T (d,.slice Ay d.rep.keys.length cy):=by
      obtain⟨A9,c9,gZ,_,mV⟩:=gV.out.wK (lu.out);simp only[Value.slice.injEq,true_and]at gZ;obtain⟨rfl,rfl⟩:=gZ;exact⟨_,_,_,rfl,hcy,mV,gV.out.NR⟩
     have OH:=ah hkt;clear hkt gV;have hfc:=rz.out;obtain⟨q0,q1,q2,q3,q4,q5⟩:=sN hfc;clear hfc;have hby:Below T.heap.size T (T.alloc (.cells (aD d (.slice Ay d.rep.keys.length cy)) 90)):=ak _ _;have Dc:uf (T.alloc (.cells (aD d (.slice Ay d.rep.keys.length cy)) 90)) (some ⟨T.heap.size,0,none⟩) 1 [(d,.slice Ay d.rep.keys.length cy)]:=Ni T (d,.slice Ay d.rep.keys.length cy);have Di:Below W5.heap.size W5 (T.alloc (.cells (aD d (.slice Ay d.rep.keys.length cy)) 90)):=yI.out.alloc yI.out.size _;have Df:=iC.out.below hby;have C8:=JR.out.below hby;have hpay:=lD.below OH.out hby;clear hby;obtain⟨Vy,IB⟩:=aQ (T.alloc (.cells (aD d (.slice Ay d.rep.keys.length cy)) 90));rw[IB]at Dc Di Df C8 hpay;have G_:=ah Dc;clear Dc;have yH:=ah Di;clear Di;have uN:=ah Df;clear Df;have GD:=ah C8;clear C8;have GL:=ah hpay;clear hpay;have Hr:Hid (zN [(d,.slice Ay d.rep.keys.length cy)]):=fun x hx=>by rw[List.mem_singleton]at hx;rw[hx];exact⟨_,_,_,rfl⟩
     go_wp2_with (at_builtin;refine Li rfl _ _ rfl W5.heap.size _ (ps++[((⟨c,i,r⟩:aF),(.slice Ax r.keys.length cx:Value))]) rfl uN.out (some ⟨T.heap.size,0,none⟩) 1 1 [(d,.slice Ay d.rep.keys.length cy)] rfl G_.out Hr.out (by have:=HLEN.out;(try simp only[List.length_append,List.length_singleton]at this ⊢);omega) yH.out.size ?_);intro vy Uy IZ kC;have PO:Hid (Below W5.heap.size W5 Uy):=yH.out.grown kC yH.out.size (fun g hg=>(uN.out.lt g hg).1);have OU:Hid (dU Uy (ps++[((⟨c,i,r⟩:aF),(.slice Ax r.keys.length cx:Value))]++[(d,.slice Ay d.rep.keys.length cy)])):=dU.append (GD.out.kept kC uN.out.block) (dU.one EM.out (GL.out.kept kC uN.out.block));have Pn:=ah IZ;clear IZ kC uN GD GL G_ yH Hr IB;clear q0 q1 q2 q3 q4 q5;go_wp2_with fail;go_roundw
     case rel=>exact⟨j+1,_,_,rfl,by omega,by go_num,by rw[HST.out,EE.out.2],by rw[HST.out,EE.out.1,←g_.out,List.map_append,List.append_assoc];rfl,Pn.out,(by have h:=OU.out;rw[List.append_assoc]at h;exact h),PO.out⟩
     case measure=>simp[intOf];omega
    ·have EE:=ah (asR (x:=⟨c,i,r⟩) (y:=d) SA.out hgt);go_upto_region 17 with fail;clear x0 x1 x2 x3 x4 x5 e0;have hyb:Below wr.heap.size wr (wr.alloc (.cells (aD d (.slice E m cc)) 90)):=ak _ _;have hy0:=aj.new wr (.cells (aD d (.slice E m cc)) 90);obtain⟨x0,x1,x2,x3,x4,x5⟩:=Ea.out wr bU.out;have hys:=(uS.out wr bU.out).below hyb;have Dj:Below W5.heap.size W5 (wr.alloc (.cells (aD d (.slice E m cc)) 90)):=bU.out.alloc bU.out.size _;have Hw:=ah hyb;clear hyb;go_upto_region 18 with fail;clear x0 x1 x2 x3 x4 x5;obtain⟨Y,hY⟩:=aQ (wr.alloc (.cells (aD d (.slice E m cc)) 90));have HY:Hid (Below wr.heap.size wr Y):=by rw[←hY];exact Hw.out
     rw[hY]at hy0 hys Dj ⊢;clear hY Hw;obtain⟨gy,kC⟩:∃g,wr.heap.size=g:=⟨_,rfl⟩;have DJ:=ah kC;rw[kC]at hy0 ⊢;clear kC;have vY:=ah hy0;clear hy0;have Cn:=ah Dj;clear Dj;have q:=RY d.rep E m cc Y hys (by have:=EM.out.2.2.2;have:=hys.1;omega);clear hys;unfold bX at q;have I6:=vY.out;obtain⟨q0,q1,q2,q3,q4,q5⟩:=sN I6;clear I6;go_wp2_with fail
     ((with_reducible refine q.mono ?_);rintro e Z ⟨Ay,ny,cy,rfl,hcy,hny,IY,bz⟩)
     clear q q0 q1 q2 q3 q4 q5;subst hny
     try unfold bX
     have hz0:=aj.below vY.out bz;have jo:=ah (HY.out.trans (bz.mono HY.out.size));have Hu:=ah (Cn.out.trans (bz.mono Cn.out.size));have Co:=ah IY;clear IY bz;have z2:=aj.cell hz0 2;have z3:=aj.cell hz0 3;have z4:=aj.cell hz0 4;have z5:=aj.cell hz0 5;simp only[aM]at z2 z3 z4 z5;have f2:=aj.frozen hz0 2;have f3:=aj.frozen hz0 3;have f4:=aj.frozen hz0 4;have f5:=aj.frozen hz0 5;have hfin:=ZU hz0 (.int .i64 d.rep.errno) (.int .i64 d.rep.rev) (.string d.rep.value) (.slice Ay d.rep.keys.length cy);have hbf:=ME (g:=gy) jo.out (by have:=DJ.out;omega) (.int .i64 d.rep.errno) (.int .i64 d.rep.rev) (.string d.rep.value) (.slice Ay d.rep.keys.length cy);have hwf:=ME (g:=gy) Hu.out (by have:=DJ.out;have:=bU.out.size;omega) (.int .i64 d.rep.errno) (.int .i64 d.rep.rev) (.string d.rep.value) (.slice Ay d.rep.keys.length cy);have hne:some gy≠(Value.slice Ay d.rep.keys.length cy).ownBlock:=fun e=>by have:=(Co.out.lt _ e.symm).1;have:=aj.lt vY.out;omega
     have um:RowK ((((Z.setCell ⟨gy,2,none⟩ (.int .i64 d.rep.errno)).setCell ⟨gy,3,none⟩ (.int .i64 d.rep.rev)).setCell ⟨gy,4,none⟩ (.string d.rep.value)).setCell ⟨gy,5,none⟩ (.slice Ay d.rep.keys.length cy)) Y.heap.size (.slice Ay d.rep.keys.length cy) d.rep.keys:=vG (vG (vG (vG Co.out hne) hne) hne) hne;have rz:=ah hfin;clear hfin;have aU:=ah hbf;clear hbf;have yI:=ah hwf;clear hwf;have gV:=ah um;clear um hz0 hne;go_upto_region 19 with fail;clear z2 z3 z4 z5 f2 f3 f4 f5;obtain⟨T,hT⟩:=aQ ((((Z.setCell ⟨gy,2,none⟩ (.int .i64 d.rep.errno)).setCell ⟨gy,3,none⟩ (.int .i64 d.rep.rev)).setCell ⟨gy,4,none⟩ (.string d.rep.value)).setCell ⟨gy,5,none⟩ (.slice Ay d.rep.keys.length cy));rw[hT]at rz aU yI gV ⊢;clear hT jo Hu Co HY Cn vY;have iC:=ah (eY.out.below aU.out);have JR:=ah (sF.out.below aU.out);have hkt:lD T (d,.slice Ay d.rep.keys.length cy):=by
      obtain⟨A9,c9,gZ,_,mV⟩:=gV.out.wK (lu.out);simp only[Value.slice.injEq,true_and]at gZ;obtain⟨rfl,rfl⟩:=gZ;exact⟨_,_,_,rfl,hcy,mV,gV.out.NR⟩
     have OH:=ah hkt;clear hkt gV;have hfc:=rz.out;obtain⟨q0,q1,q2,q3,q4,q5⟩:=sN hfc;clear hfc;have hby:Below T.heap.size T (T.alloc (.cells (aD d (.slice Ay d.rep.keys.length cy)) 90)):=ak _ _;have Dc:uf (T.alloc (.cells (aD d (.slice Ay d.rep.keys.length cy)) 90)) (some ⟨T.heap.size,0,none⟩) 1 [(d,.slice Ay d.rep.keys.length cy)]:=Ni T (d,.slice Ay d.rep.keys.length cy);have Di:Below W5.heap.size W5 (T.alloc (.cells (aD d (.slice Ay d.rep.keys.length cy)) 90)):=yI.out.alloc yI.out.size _;have Df:=iC.out.below hby;have C8:=JR.out.below hby;have hpay:=lD.below OH.out hby;clear hby;obtain⟨Vy,IB⟩:=aQ (T.alloc (.cells (aD d (.slice Ay d.rep.keys.length cy)) 90));rw[IB]at Dc Di Df C8 hpay;have G_:=ah Dc;clear Dc;have yH:=ah Di;clear Di;have uN:=ah Df;clear Df;have GD:=ah C8;clear C8;have GL:=ah hpay;clear hpay;have Hr:Hid (zN [(d,.slice Ay d.rep.keys.length cy)]):=fun x hx=>by rw[List.mem_singleton]at hx;rw[hx];exact⟨_,_,_,rfl⟩
     go_wp2_with (at_builtin;refine Li rfl _ _ rfl W5.heap.size _ (ps) rfl uN.out (some ⟨T.heap.size,0,none⟩) 1 1 [(d,.slice Ay d.rep.keys.length cy)] rfl G_.out Hr.out (by have:=HLEN.out;(try simp only[List.length_append,List.length_singleton]at this ⊢);omega) yH.out.size ?_);intro vy Uy IZ kC;have PO:Hid (Below W5.heap.size W5 Uy):=yH.out.grown kC yH.out.size (fun g hg=>(uN.out.lt g hg).1);have OU:Hid (dU Uy (ps++[(d,.slice Ay d.rep.keys.length cy)])):=dU.append (GD.out.kept kC uN.out.block) (dU.one EM.out (GL.out.kept kC uN.out.block));have Pn:=ah IZ;clear IZ kC uN GD GL G_ yH Hr IB;clear q0 q1 q2 q3 q4 q5;go_wp2_with fail;go_roundw
     case rel=>exact⟨j+1,_,_,rfl,by omega,by go_num,by rw[HST.out,EE.out.2],by rw[HST.out,EE.out.1,←g_.out,List.map_append];rfl,Pn.out,OU.out,PO.out⟩
     case measure=>simp[intOf];omega
  ·have hji:¬(j:Int)<(n:Int):=by omega
   have htl:l.take j=l:=by rw[List.take_of_length_le];have:=HN.out;omega
   rw[htl]at g_ ⊢;clear htl;have vS:Hid (mY l c i r=if gD (jT l c) ⟨c,i,r⟩then sD (jT l c) ⟨c,i,r⟩else sD (jT l c) ⟨c,i,r⟩++[⟨c,i,r⟩]):=asQ _ _;obtain⟨dn,hdn⟩:∃b,gD (jT l c) ⟨c,i,r⟩=b:=⟨_,rfl⟩;rw[hdn]at vS ⊢;clear hdn
   cases dn with
   |true=>
    rw[if_pos rfl]at vS;have JX:Hid (mY l c i r=ps.map Prod.fst):=vS.out.trans g_.out.symm;have wX:=HE.out;rw[JX.out,List.length_map]at wX
    by_cases h8:8<(ps).length
    ·rw[if_pos h8]at wX;have Qx:(8:Int)<(ps.length:Int):=by omega
     have BU:=ah wX;clear wX h8;go_wp2_with fail;refine bodyPost_ret (v:=.tuple #[.slice none 0 0,.int .i64 50]) (by simp[results,Tryz.results48,go_sem]) rfl ⟨_,[],by rw[BU.out];rfl,Dp _ _,by rw[BU.out];rfl,dU.nil _,aA eH.out bU.out⟩
    ·rw[if_neg h8]at wX;have Qx:¬(8:Int)<(ps.length:Int):=by omega
     have BU:=ah wX;clear wX h8;obtain⟨A9,c9,gZ,qC,hds⟩:=eY.out.I8 sF.out;simp only[Value.slice.injEq]at gZ;have HDS:=ah hds;clear hds;have PK:=ah gZ;clear gZ;have zw:=ah qC;clear qC;go_wp2_with fail;refine bodyPost_ret (v:=.tuple #[.slice Av ps.length cv,.int .i64 0]) (by simp[results,Tryz.results48,go_sem]) rfl ⟨_,_,by rw[BU.out];rfl,dG.base eH.out.size eY.out,by rw[BU.out],sF.out,aA eH.out bU.out⟩
   |false=>
    rw[if_neg (by simp)]at vS;have JX:Hid (mY l c i r=(ps++[((⟨c,i,r⟩:aF),(.slice Ax r.keys.length cx:Value))]).map Prod.fst):=by
     show _=_;rw[vS.out,List.map_append,g_.out];rfl
    go_upto_region 21 with fail;have hxb:=aj.below oL.out bU.out;obtain⟨q0,q1,q2,q3,q4,q5⟩:=sN hxb;clear hxb;have hbe:Below wr.heap.size wr (wr.alloc (.cells #[.int .i64 c,.int .i64 i,.int .i64 r.errno,.int .i64 r.rev,.string r.value,.slice Ax r.keys.length cx] 90)):=ak _ _;have hqe:uf (wr.alloc (.cells #[.int .i64 c,.int .i64 i,.int .i64 r.errno,.int .i64 r.rev,.string r.value,.slice Ax r.keys.length cx] 90)) (some ⟨wr.heap.size,0,none⟩) 1 [((⟨c,i,r⟩:aF),(.slice Ax r.keys.length cx:Value))]:=Ni wr ((⟨c,i,r⟩:aF),(.slice Ax r.keys.length cx:Value));have aaU:Below W5.heap.size W5 (wr.alloc (.cells #[.int .i64 c,.int .i64 i,.int .i64 r.errno,.int .i64 r.rev,.string r.value,.slice Ax r.keys.length cx] 90)):=bU.out.alloc bU.out.size _;have aaH:=eY.out.below hbe;have aaw:=sF.out.below hbe;have aaD:=lD.below (lD.below HKX.out bU.out) hbe;clear hbe;obtain⟨Ve,hVe⟩:=aQ (wr.alloc (.cells #[.int .i64 c,.int .i64 i,.int .i64 r.errno,.int .i64 r.rev,.string r.value,.slice Ax r.keys.length cx] 90));rw[hVe]at hqe aaU aaH aaw aaD;have HQe:=ah hqe;clear hqe;have TI:=ah aaU;clear aaU;have Pg:=ah aaH;clear aaH;have acQ:=ah aaw;clear aaw;have ac0:=ah aaD;clear aaD;have ads:Hid (zN [((⟨c,i,r⟩:aF),(.slice Ax r.keys.length cx:Value))]):=fun x hx=>by rw[List.mem_singleton]at hx;rw[hx];exact⟨_,_,_,rfl⟩
    go_wp2_with (at_builtin;refine Li rfl _ _ rfl W5.heap.size _ (ps) rfl Pg.out (some ⟨wr.heap.size,0,none⟩) 1 1 [((⟨c,i,r⟩:aF),(.slice Ax r.keys.length cx:Value))] rfl HQe.out ads.out (by have:=HLEN.out;(try simp only[List.length_append,List.length_singleton]at this ⊢);omega) TI.out.size ?_);intro ve Ue hre hge;have HWe:Hid (Below W5.heap.size W5 Ue):=TI.out.grown hge TI.out.size (fun g hg=>(Pg.out.lt g hg).1);have HKe:Hid (dU Ue (ps++[((⟨c,i,r⟩:aF),(.slice Ax r.keys.length cx:Value))])):=dU.append (acQ.out.kept hge Pg.out.block) (dU.one AQ.out (ac0.out.kept hge Pg.out.block));have HRe:=ah hre;clear hre hge Pg acQ ac0 HQe TI ads hVe;clear q0 q1 q2 q3 q4 q5;have Ho:=HRe;have GH:=HKe;have wV:=HWe;go_upto_region 22 with fail;obtain⟨Aq,cq,Rk,hcq,_⟩:=HRe.out.parts;rw[List.length_append,List.length_singleton]at Rk;subst Rk;clear hcq;have wX:=HE.out;rw[JX.out,List.length_map]at wX
    by_cases h8:8<(ps++[((⟨c,i,r⟩:aF),(.slice Ax r.keys.length cx:Value))]).length
    ·rw[if_pos h8]at wX;have Qx:(8:Int)<((ps.length+1:Nat):Int):=by(rw[List.length_append,List.length_singleton]at h8;omega)
     have BU:=ah wX;clear wX h8;go_wp2_with fail;refine bodyPost_ret (v:=.tuple #[.slice none 0 0,.int .i64 50]) (by simp[results,Tryz.results48,go_sem]) rfl ⟨_,[],by rw[BU.out];rfl,Dp _ _,by rw[BU.out];rfl,dU.nil _,aA eH.out wV.out⟩
    ·rw[if_neg h8]at wX;have Qx:¬(8:Int)<((ps.length+1:Nat):Int):=by(rw[List.length_append,List.length_singleton]at h8;omega)
     have BU:=ah wX;clear wX h8;obtain⟨A9,c9,gZ,qC,hds⟩:=Ho.out.I8 GH.out;simp only[Value.slice.injEq]at gZ;have HDS:=ah hds;clear hds;have PK:=ah gZ;clear gZ;have zw:=ah qC;clear qC;go_wp2_with fail;refine bodyPost_ret (v:=.tuple #[.slice Aq (ps.length+1) cq,.int .i64 0]) (by simp[results,Tryz.results48,go_sem]) rfl ⟨_,_,by rw[BU.out];rfl,dG.base eH.out.size Ho.out,by rw[BU.out],GH.out,aA eH.out wV.out⟩
theorem aeW {a b:aF} (h1:a.client=b.client) (h2:a.id=b.id) (h3:a.rep=b.rep):a=b:=by
 cases a;cases b;simp only at h1 h2 h3;subst h1 h2 h3;rfl
theorem asg (t u:List aF) (A B:Option Addr) (n m cap cap2:Nat) (w:World) (h:jr w A n t) (h2:jr w B m u):
  Calls Tryz.prog 36 #[.slice A n cap,.slice B m cap2] w fun e w'=>e= .returned (.bool (zh t u))∧Below w.heap.size w w':=by
 have jy:=h.2.1;have Ah:=h2.2.1;unfold maxLen at jy Ah;have HN:Hid (n=t.length):=h.1;have HM:Hid (m=u.length):=h2.1;have HT:=ah h;clear h;have HU:=ah h2;clear h2;have bA:Hid (t≠u→zh t u=false):=fun h=>by rw[Bool.eq_false_iff];exact fun e=>h (NI.1 e)
 have iF:Hid (t=u→zh t u=true):=NI.2;generalize zh t u=R at*
 by_cases hnm:n=m
 rotate_left
 ·have HE:Hid (R=false):=bA.out fun e=>hnm (by rw[HN.out,HM.out,e]);have e1:((n:Int) != (m:Int))=true:=by simp;omega
  clear hnm;go_enter Tryz.func36,Tryz.ntmps36;go_wp2_with fail;go_ret;exact⟨by rw[HE.out];rfl,Below.refl _ _⟩
 subst hnm;have e1:((n:Int) != (n:Int))=false:=by simp
 go_enter Tryz.func36,Tryz.ntmps36;go_wp2_with fail;go_loopw [5] (fun i wy=>∃(j:Nat) (wr:World),wr=wy∧j≤n∧i= .int .i64 j∧(∀q,q<j→bg t q=bg u q)∧Below w.heap.size w wr) (fun i _=>n-(intOf i).toNat)
 case atStart=>exact⟨0,_,rfl,by omega,rfl,(fun q hq=>by omega),Below.refl _ _⟩
 case round=>
  obtain⟨j,wr,rfl,hj,rfl,hsm,hb⟩:=hrel;have HB:=ah hb;clear hb;have oh:=ah hsm;clear hsm
  by_cases hlt:j<n
  ·have hji:(j:Int)<(n:Int):=by omega
   have hj0:(0:Int)≤(j:Int):=by omega
   have hjl:j<t.length:=by have:=HN.out;omega
   have z_:j<u.length:=by have:=HM.out;omega
   obtain⟨b,off,hA,_⟩:=HT.out.block (by omega);subst hA;obtain⟨b2,off2,hA2,_⟩:=HU.out.block (by omega);subst hA2;obtain⟨E,m1,c,hx,_,hfs⟩:=HT.out.at hjl HB.out;obtain⟨E2,m2,c2,hy,_,mD⟩:=HU.out.at z_ HB.out;have U_:=VH (bg t j).rep (bg u j).rep E E2;have kG:=ah (And.intro hjl z_);clear hjl z_;obtain⟨d,hd⟩:∃d,bg t j=d:=⟨_,rfl⟩;obtain⟨f,hf⟩:∃d,bg u j=d:=⟨_,rfl⟩;have vR:=ah (And.intro hd hf);rw[hd]at hx hfs U_;rw[hf]at hy mD U_;clear hd hf;have HA:Hid (∀W,Below wr.heap.size wr W→tT W b (off+j*6) d (.slice E m1 c)):=fun W hb=>hx.below hb;have HB2:Hid (∀W,Below wr.heap.size wr W→tT W b2 (off2+j*6) f (.slice E2 m2 c2)):=fun W hb=>hy.below hb;have qs:=fun W (hb:Below wr.heap.size wr W)=>U_ m1 c m2 c2 W (hfs.below hb) (mD.below hb);unfold bX at qs;clear hx hy hfs mD U_;have m_:Hid (d≠f→R=false):=fun hne=>bA.out fun e=>hne (by rw[←vR.out.1,←vR.out.2,e]);clear bA
   by_cases hcl:d.client=f.client
   rotate_left
   ·have HE:Hid (R=false):=m_.out fun e=>hcl (by rw[e]);have e2:(d.client != f.client)=true:=by simpa using hcl
    clear hcl qs;go_upto_region 6 with fail;refine wp_region_noPanic ?_;refine wp_region_held_drew (S:=fun W=>Below wr.heap.size wr W) (by kernel_rfl) ((Below.refl _ _).drew) (fun hHeld=>?_);refine ay 0 ?_;refine ay 1 ?_;refine ay 2 ?_;refine ay 3 ?_;refine ay 4 ?_ (hy:=fun w hSw=>by((try dsimp only at hSw);obtain⟨x0,x1,x2,x3,x4,x5⟩:=HA.out _ hSw;go_simp;(try with_reducible rfl)));refine ay 5 ?_;refine ay 6 ?_;refine ay 7 ?_;refine ay 8 ?_;refine ay 9 ?_ (hy:=fun w hSw=>by((try dsimp only at hSw);obtain⟨y0,y1,y2,y3,y4,y5⟩:=HB2.out _ hSw;go_simp;(try with_reducible rfl)));refine ay 10 ?_;refine ay 11 ?_;refine eG 12 ?_;refine eG 13 ?_;refine eG 14 ?_;refine eG 15 ?_;refine eG 16 ?_;refine eG 17 ?_;refine eG 18 ?_;refine eG 19 ?_;refine eG 20 ?_;refine eG 21 ?_;refine eG 22 ?_;refine ay 23 ?_;refine ay 24 ?_;refine eG 25 ?_;refine eG 26 ?_;refine eG 27 ?_;refine eG 28 ?_;refine eG 29 ?_;refine eG 30 ?_;refine eG 31 ?_;refine eG 32 ?_;refine eG 33 ?_;refine eG 34 ?_;refine eG 35 ?_;refine eG 36 ?_;refine ay 37 ?_;refine wpAnyH_done (by kernel_rfl) ?_ _;refine NoPanic.normal ?_;have hbe:=aA HB.out hHeld;have dO:=ah hbe;clear hbe hHeld;go_wp2_with fail;go_ret;exact⟨by rw[HE.out];rfl,dO.out⟩
   have e2:(d.client != f.client)=false:=by simpa using hcl
   have AP:=ah hcl;clear hcl
   by_cases IK:d.id=f.id
   rotate_left
   ·have HE:Hid (R=false):=m_.out fun e=>IK (by rw[e]);have e3:(d.id != f.id)=true:=by simpa using IK
    clear IK qs;go_upto_region 6 with fail;refine wp_region_noPanic ?_;refine wp_region_held_drew (S:=fun W=>Below wr.heap.size wr W) (by kernel_rfl) ((Below.refl _ _).drew) (fun hHeld=>?_);refine ay 0 ?_;refine ay 1 ?_;refine ay 2 ?_;refine ay 3 ?_;refine ay 4 ?_ (hy:=fun w hSw=>by((try dsimp only at hSw);obtain⟨x0,x1,x2,x3,x4,x5⟩:=HA.out _ hSw;go_simp;(try with_reducible rfl)));refine ay 5 ?_;refine ay 6 ?_;refine ay 7 ?_;refine ay 8 ?_;refine ay 9 ?_ (hy:=fun w hSw=>by((try dsimp only at hSw);obtain⟨y0,y1,y2,y3,y4,y5⟩:=HB2.out _ hSw;go_simp;(try with_reducible rfl)));refine ay 10 ?_;refine ay 11 ?_;refine ay 12 ?_;refine ay 13 ?_;refine ay 14 ?_;refine ay 15 ?_;refine ay 16 ?_ (hy:=fun w hSw=>by((try dsimp only at hSw);obtain⟨x0,x1,x2,x3,x4,x5⟩:=HA.out _ hSw;go_simp;(try with_reducible rfl)));refine ay 17 ?_;refine ay 18 ?_;refine ay 19 ?_;refine ay 20 ?_;refine ay 21 ?_ (hy:=fun w hSw=>by((try dsimp only at hSw);obtain⟨y0,y1,y2,y3,y4,y5⟩:=HB2.out _ hSw;go_simp;(try with_reducible rfl)));refine ay 22 ?_;refine ay 23 ?_;refine ay 24 ?_;refine eG 25 ?_;refine eG 26 ?_;refine eG 27 ?_;refine eG 28 ?_;refine eG 29 ?_;refine eG 30 ?_;refine eG 31 ?_;refine eG 32 ?_;refine eG 33 ?_;refine eG 34 ?_;refine eG 35 ?_;refine eG 36 ?_;refine ay 37 ?_;refine wpAnyH_done (by kernel_rfl) ?_ _;refine NoPanic.normal ?_;have hbe:=aA HB.out hHeld;have dO:=ah hbe;clear hbe hHeld;go_wp2_with fail;go_ret;exact⟨by rw[HE.out];rfl,dO.out⟩
   have e3:(d.id != f.id)=false:=by simpa using IK
   have OB:=ah IK;clear IK;have HX:Hid (∀b,tL d.rep f.rep=b→(b=true↔d.rep=f.rep)):=fun b hb=>by rw[←hb];exact F6
   generalize hs:tL d.rep f.rep=s at qs;have HS:=ah (HX.out s hs);clear hs HX
   cases s with
   |true=>
    go_upto_region 6 with fail;refine wp_region_noPanic ?_;refine wp_region_held_drew (S:=fun W=>Below wr.heap.size wr W) (by kernel_rfl) ((Below.refl _ _).drew) (fun hHeld=>?_);refine ay 0 ?_;refine ay 1 ?_;refine ay 2 ?_;refine ay 3 ?_;refine ay 4 ?_ (hy:=fun w hSw=>by((try dsimp only at hSw);obtain⟨x0,x1,x2,x3,x4,x5⟩:=HA.out _ hSw;go_simp;(try with_reducible rfl)));refine ay 5 ?_;refine ay 6 ?_;refine ay 7 ?_;refine ay 8 ?_;refine ay 9 ?_ (hy:=fun w hSw=>by((try dsimp only at hSw);obtain⟨y0,y1,y2,y3,y4,y5⟩:=HB2.out _ hSw;go_simp;(try with_reducible rfl)));refine ay 10 ?_;refine ay 11 ?_;refine ay 12 ?_;refine ay 13 ?_;refine ay 14 ?_;refine ay 15 ?_;refine ay 16 ?_ (hy:=fun w hSw=>by((try dsimp only at hSw);obtain⟨x0,x1,x2,x3,x4,x5⟩:=HA.out _ hSw;go_simp;(try with_reducible rfl)));refine ay 17 ?_;refine ay 18 ?_;refine ay 19 ?_;refine ay 20 ?_;refine ay 21 ?_ (hy:=fun w hSw=>by((try dsimp only at hSw);obtain⟨y0,y1,y2,y3,y4,y5⟩:=HB2.out _ hSw;go_simp;(try with_reducible rfl)));refine ay 22 ?_;refine ay 23 ?_;refine ay 24 ?_;refine ay 25 ?_;refine ay 26 ?_;refine ay 27 ?_;refine ay 28 ?_;refine ay 29 ?_ (hy:=fun w hSw=>by((try dsimp only at hSw);obtain⟨x0,x1,x2,x3,x4,x5⟩:=HA.out _ hSw;go_simp;(try with_reducible rfl)));refine ay 30 ?_;refine ay 31 ?_;refine ay 32 ?_;refine ay 33 ?_;refine ay 34 ?_ (hy:=fun w hSw=>by((try dsimp only at hSw);obtain⟨y0,y1,y2,y3,y4,y5⟩:=HB2.out _ hSw;go_simp;(try with_reducible rfl)));refine bH 35 fun K hK=>?_;go_simp
    ((with_reducible refine(qs _ hHeld).mono ?_);rintro e w' ⟨rfl,bq⟩)
    refine hK.out _ _ (aA hHeld bq) fun hHeld=>?_;clear hK K;refine ay 36 ?_;refine ay 37 ?_;refine wpAnyH_done (by kernel_rfl) ?_ _;refine NoPanic.normal ?_;have hbe:=aA HB.out hHeld;have dO:=ah hbe;clear hbe hHeld;go_wp2_with fail;go_roundw
    case rel=>exact⟨j+1,_,rfl,by omega,by go_num,fun q hq=>by rcases(by omega:q<j∨q=j)with h|rfl;exact oh.out q h;exact vR.out.1.trans ((aeW AP.out OB.out (HS.out.1 rfl)).trans vR.out.2.symm),dO.out⟩
    case measure=>simp[intOf];omega
   |false=>
    have HE:Hid (R=false):=m_.out fun e=>by have:=HS.out.2 (by rw[e]);cases this
    go_upto_region 6 with fail;refine wp_region_noPanic ?_;refine wp_region_held_drew (S:=fun W=>Below wr.heap.size wr W) (by kernel_rfl) ((Below.refl _ _).drew) (fun hHeld=>?_);refine ay 0 ?_;refine ay 1 ?_;refine ay 2 ?_;refine ay 3 ?_;refine ay 4 ?_ (hy:=fun w hSw=>by((try dsimp only at hSw);obtain⟨x0,x1,x2,x3,x4,x5⟩:=HA.out _ hSw;go_simp;(try with_reducible rfl)));refine ay 5 ?_;refine ay 6 ?_;refine ay 7 ?_;refine ay 8 ?_;refine ay 9 ?_ (hy:=fun w hSw=>by((try dsimp only at hSw);obtain⟨y0,y1,y2,y3,y4,y5⟩:=HB2.out _ hSw;go_simp;(try with_reducible rfl)));refine ay 10 ?_;refine ay 11 ?_;refine ay 12 ?_;refine ay 13 ?_;refine ay 14 ?_;refine ay 15 ?_;refine ay 16 ?_ (hy:=fun w hSw=>by((try dsimp only at hSw);obtain⟨x0,x1,x2,x3,x4,x5⟩:=HA.out _ hSw;go_simp;(try with_reducible rfl)));refine ay 17 ?_;refine ay 18 ?_;refine ay 19 ?_;refine ay 20 ?_;refine ay 21 ?_ (hy:=fun w hSw=>by((try dsimp only at hSw);obtain⟨y0,y1,y2,y3,y4,y5⟩:=HB2.out _ hSw;go_simp;(try with_reducible rfl)));refine ay 22 ?_;refine ay 23 ?_;refine ay 24 ?_;refine ay 25 ?_;refine ay 26 ?_;refine ay 27 ?_;refine ay 28 ?_;refine ay 29 ?_ (hy:=fun w hSw=>by((try dsimp only at hSw);obtain⟨x0,x1,x2,x3,x4,x5⟩:=HA.out _ hSw;go_simp;(try with_reducible rfl)));refine ay 30 ?_;refine ay 31 ?_;refine ay 32 ?_;refine ay 33 ?_;refine ay 34 ?_ (hy:=fun w hSw=>by((try dsimp only at hSw);obtain⟨y0,y1,y2,y3,y4,y5⟩:=HB2.out _ hSw;go_simp;(try with_reducible rfl)));refine bH 35 fun K hK=>?_;go_simp
    ((with_reducible refine(qs _ hHeld).mono ?_);rintro e w' ⟨rfl,bq⟩)
    refine hK.out _ _ (aA hHeld bq) fun hHeld=>?_;clear hK K;refine ay 36 ?_;refine ay 37 ?_;refine wpAnyH_done (by kernel_rfl) ?_ _;refine NoPanic.normal ?_;have hbe:=aA HB.out hHeld;have dO:=ah hbe;clear hbe hHeld;go_wp2_with fail;go_ret;exact⟨by rw[HE.out];rfl,dO.out⟩
  ·have iw:j=n:=by omega
   subst iw;have HE:Hid (R=true):=iF.out (by
    refine List.ext_getElem (by rw[←HN.out,←HM.out]) fun i hi hj2=>?_;have:=oh.out i (by have:=HN.out;omega);rw[lZ hi,lZ hj2]at this;exact this)
   clear hlt;go_wp2_with fail;go_ret;exact⟨by rw[HE.out];rfl,HB.out⟩
end Go.Proofs.YtodaapcohdpenaaGreat
