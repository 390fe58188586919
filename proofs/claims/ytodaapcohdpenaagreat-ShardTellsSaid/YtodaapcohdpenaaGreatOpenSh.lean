-- eB
import Derived.Test.YtodaapcohdpenaaGreatOpenCl
namespace Go.Proofs.YtodaapcohdpenaaGreat
open Go.RowKit Go.ChangeShapes Go.WideShapes
set_option maxRecDepth 100000
set_option maxRecDepth 100000
section
variable {H:Type} {enc:TypeId×Value→H} {w:World}
theorem amE:Tryz.prog.bytesOf 90=72:=by kernel_rfl
theorem amK:Tryz.prog.bytesOf 9=16:=by kernel_rfl
theorem am6:Tryz.prog.cellsOf 41=1:=by kernel_rfl
theorem aeD:Tryz.prog.cellsOf 43=4:=by kernel_rfl
theorem aey:Tryz.prog.cellsOf 90=6:=by kernel_rfl
theorem am1:Tryz.prog.cellsOf 40=1:=by kernel_rfl
theorem amX:Tryz.prog.cellsOf 4=1:=by kernel_rfl
theorem am8:Tryz.prog.cellsOf 23=1:=by kernel_rfl
theorem am0:Tryz.prog.cellsOf 24=1:=by kernel_rfl
theorem am5:Tryz.prog.cellsOf 26=5:=by kernel_rfl
theorem ari {fuel:Nat} {cs:List Value} {x:DataW H×List MemPlace}
  (hf:DataW.trod enc Tryz.prog w 0 (fun _=>true) true fuel 41 cs=some x) (hwt:∀n∈x.1.weights Tryz.prog 41,n≤reachBytes):
  ∃A n cap l,cs=[.slice A n cap]∧n≤cap∧n*16≤140737488351232∧dw w A n l:=by
 rcases Go.Deep.open_slice Tryz.underlying41 hf with⟨hcs,_⟩|⟨x',n,c,m,q,D,Pl,hcs,_,hl,hm,hmm,hx,hrow⟩
 ·exact⟨none,0,0,[],hcs,Nat.le_refl _,by omega,rfl,by unfold maxLen;omega,(fun s h=>nomatch h),fun h=>by omega⟩
 ·simp only[if_true]at hmm;subst hmm;have hd:=congrArg Prod.fst hx;simp only at hd;rw[hd]at hwt;have hw0:=hwt ((((List.range n).map D).length+((List.range (m-n)).map fun j=>D (n+j)).length)*Tryz.prog.bytesOf 9) (by simp[DataW.weights,Tryz.underlying41]);rw[amK]at hw0;simp only[List.length_map,List.length_range]at hw0;have hrb:reachBytes=140737488351232:=by decide
  have key:∀i,i<n→∃s:ByteArray,w.cell? (x'.add i)=some (.string s)∧s.size≤maxLen:=by
   intro i hi';obtain⟨cs',hc,ht'⟩:=hrow i (by omega);rw[Ef]at hc;obtain⟨_,hcl,hat⟩:=World.cells?_some hc;obtain⟨s,rfl,_,hsz⟩:=DataW.trod_string Tryz.underlying9 ht';have g0:=hat 0 (by omega);rw[Go.Deep.add_add]at g0;exact⟨s,by simpa using g0,hsz⟩
  obtain⟨F,hF⟩:∃F:Nat→ByteArray,∀i,i<n→w.cell? (x'.add i)=some (.string (F i))∧(F i).size≤maxLen:=
   ⟨fun i=>if h:i<n then Classical.choose (key i h)else ByteArray.empty,fun i hi=>by simp only[hi,dif_pos];exact Classical.choose_spec (key i hi)⟩
  have hlen:((List.range n).map F).length=n:=by simp
  refine⟨_,n,m,(List.range n).map F,hcs,hl,by omega,hlen.symm,Nat.le_trans hl hm,fun f hf=>?_,fun hn=>?_⟩
  ·obtain⟨i,hi,rfl⟩:=List.mem_map.1 hf;exact(hF i (List.mem_range.1 hi)).2
  ·have z0:=(hF 0 hn).1;have hs:x'.spot=none:=World.cell?_spot (a:=x') (by simpa[Addr.add]using z0);refine⟨x'.block,x'.off,by cases x';simp_all,lt_of_cell (a:=⟨x'.block,_,none⟩) (qQ z0 hs),fun i hi=>?_⟩;rw[hlen]at hi;rw[show((List.range n).map F).getD i ByteArray.empty=F i from by rw[List.getD_eq_getElem?_getD,List.getElem?_eq_getElem (by rw[hlen];exact hi)];simp];exact qQ (hF i hi).1 hs
theorem auy {fuel:Nat} {cs:List Value} {x:DataW H×List MemPlace}
  (h:DataW.trod enc Tryz.prog w 0 (fun _=>true) true fuel 43 cs=some x) (hwt:∀n∈x.1.weights Tryz.prog 43,n≤reachBytes):
  ∃(r:dx) (E:Option Addr) (k c:Nat),cs=[.int .i64 r.errno,.int .i64 r.rev,.string r.value,.slice E k c]∧zM r∧k≤c∧k*16≤140737488351232∧dw w E k r.keys:=by
 obtain⟨f0,f1,f2,f3,hu,⟨o0,k0⟩,⟨o1,k1⟩,⟨o2,k2⟩,⟨o3,k3⟩⟩:∃f0 f1 f2 f3,Tryz.prog.underlying 43=some (.struct #[f0,f1,f2,f3])∧(f0.offset=0∧f0.type=40)∧(f1.offset=1∧f1.type=3)∧(f2.offset=2∧f2.type=9)∧(f3.offset=3∧f3.type=41):=⟨_,_,_,_,Tryz.underlying43,⟨rfl,rfl⟩,⟨rfl,rfl⟩,⟨rfl,rfl⟩,⟨rfl,rfl⟩⟩;obtain⟨xs,m,_,hx0,hlen,hxl,hel⟩:=DataW.trod_struct hu h;rw[aeD]at hlen;have hx4:xs.length=4:=by simpa using hxl
 have h0:=hel 0 f0 rfl;have h1:=hel 1 f1 rfl;have h2:=hel 2 f2 rfl;have h3:=hel 3 f3 rfl;clear hel;obtain⟨c0,c1,c2,c3,rfl⟩:∃c0 c1 c2 c3,cs=[c0,c1,c2,c3]:=match cs,hlen with|[c0,c1,c2,c3],_=>⟨_,_,_,_,rfl⟩
 obtain⟨x0,x1,x2,x3,rfl⟩:∃c0 c1 c2 c3,xs=[c0,c1,c2,c3]:=match xs,hx4 with|[c0,c1,c2,c3],_=>⟨_,_,_,_,rfl⟩
 rw[o0,k0,am1]at h0;rw[o1,k1,xG]at h1;rw[o2,k2,Ef]at h2;rw[o3,k3,am6]at h3;have hd:x.1= .agg [x0.1,x1.1,x2.1,x3.1]:=by have:=congrArg Prod.fst hx0;simpa using this
 rw[hd]at hwt;obtain⟨i0,z0,e0,w0⟩:=DataW.trod_int Tryz.underlying40 (show DataW.trod enc Tryz.prog w 0 (fun _=>true) true m 40 [c0]=some x0 from h0);obtain⟨i1,z1,e1,w1⟩:=DataW.trod_int Tryz.underlying3 (show DataW.trod enc Tryz.prog w 0 (fun _=>true) true m 3 [c1]=some x1 from h1);obtain⟨s2,z2,e2,_⟩:=DataW.trod_string Tryz.underlying9 (show DataW.trod enc Tryz.prog w 0 (fun _=>true) true m 9 [c2]=some x2 from h2);obtain⟨A,n,cap,l,hA,hn,h16,hF⟩:=ari (show DataW.trod enc Tryz.prog w 0 (fun _=>true) true m 41 [c3]=some x3 from h3) (fun k hk=>hwt k (by simp[DataW.weights,DataW.weightsEach,Tryz.underlying43,hk]));simp only[List.cons.injEq,and_true]at z0 z1 z2 hA;subst z0 z1 z2 hA;subst e0 e1 e2;refine⟨⟨i0,i1,s2,l⟩,A,n,cap,rfl,⟨w0,w1,Nat.le_trans (Jr (hwt _ ?_)) (by omega)⟩,hn,h16,hF⟩;simp[DataW.weights,DataW.weightsEach,Tryz.underlying43]
theorem auu {fuel:Nat} {cs:List Value} {x:DataW H×List MemPlace}
  (h:DataW.trod enc Tryz.prog w 0 (fun _=>true) true fuel 90 cs=some x) (hwt:∀n∈x.1.weights Tryz.prog 90,n≤reachBytes):
  ∃(d:aF) (E:Option Addr) (k c:Nat),cs=[.int .i64 d.client,.int .i64 d.id,.int .i64 d.rep.errno,.int .i64 d.rep.rev,.string d.rep.value,.slice E k c]∧xZ d∧k≤c∧dw w E k d.rep.keys:=by
 obtain⟨f0,f1,f2,hu,⟨o0,k0⟩,⟨o1,k1⟩,⟨o2,k2⟩⟩:∃f0 f1 f2,Tryz.prog.underlying 90=some (.struct #[f0,f1,f2])∧(f0.offset=0∧f0.type=3)∧(f1.offset=1∧f1.type=3)∧(f2.offset=2∧f2.type=43):=⟨_,_,_,Tryz.underlying90,⟨rfl,rfl⟩,⟨rfl,rfl⟩,⟨rfl,rfl⟩⟩;obtain⟨xs,m,_,hx0,hlen,hxl,hel⟩:=DataW.trod_struct hu h;rw[aey]at hlen;have hx3:xs.length=3:=by simpa using hxl
 have h0:=hel 0 f0 rfl;have h1:=hel 1 f1 rfl;have h2:=hel 2 f2 rfl;clear hel;obtain⟨c0,c1,c2,c3,c4,c5,rfl⟩:∃c0 c1 c2 c3 c4 c5,cs=[c0,c1,c2,c3,c4,c5]:=match cs,hlen with|[c0,c1,c2,c3,c4,c5],_=>⟨_,_,_,_,_,_,rfl⟩
 obtain⟨x0,x1,x2,rfl⟩:∃c0 c1 c2,xs=[c0,c1,c2]:=match xs,hx3 with|[c0,c1,c2],_=>⟨_,_,_,rfl⟩
 rw[o0,k0,xG]at h0;rw[o1,k1,xG]at h1;rw[o2,k2,aeD]at h2;have hd:x.1= .agg [x0.1,x1.1,x2.1]:=by have:=congrArg Prod.fst hx0;simpa using this
 rw[hd]at hwt;obtain⟨i0,z0,e0,w0⟩:=DataW.trod_int Tryz.underlying3 (show DataW.trod enc Tryz.prog w 0 (fun _=>true) true m 3 [c0]=some x0 from h0);obtain⟨i1,z1,e1,w1⟩:=DataW.trod_int Tryz.underlying3 (show DataW.trod enc Tryz.prog w 0 (fun _=>true) true m 3 [c1]=some x1 from h1);obtain⟨r,E,k,c,hA,hw,hn,h16,hF⟩:=auy (show DataW.trod enc Tryz.prog w 0 (fun _=>true) true m 43 [c2,c3,c4,c5]=some x2 from h2) (fun k hk=>hwt k (by simp[DataW.weights,DataW.weightsEach,Tryz.underlying90,hk]));simp only[List.cons.injEq,and_true]at z0 z1 hA;obtain⟨y2,y3,y4,y5⟩:=hA;subst z0 z1 y2 y3 y4 y5;exact⟨⟨i0,i1,r⟩,E,k,c,rfl,⟨w0,w1,hw,by have:=hF.1;show r.keys.length*16≤_;omega⟩,hn,hF⟩
theorem aq_ {fuel:Nat} {cs:List Value} {x0:DataW H×List MemPlace}
  (hf:DataW.trod enc Tryz.prog w 0 (fun _=>true) true fuel 24 cs=some x0)
  (hwt:∀n∈x0.1.weights Tryz.prog 24,n≤reachBytes):∃A n cap l,cs=[.slice A n cap]∧jr w A n l∧n≤cap∧n*72≤140737488351232:=by
 rcases Go.Deep.open_slice Tryz.underlying24 hf with⟨hcs,_⟩|⟨x,n,c,m,q,D,Pl,hcs,_,hl,hm,hmm,hx,hrow⟩
 ·exact⟨none,0,0,[],hcs,FQ _ _,Nat.le_refl _,by omega⟩
 ·simp only[if_true]at hmm;subst hmm;have hd:=congrArg Prod.fst hx;simp only at hd;rw[hd]at hwt;have hw0:=hwt ((((List.range n).map D).length+((List.range (m-n)).map fun j=>D (n+j)).length)*Tryz.prog.bytesOf 90) (by simp[DataW.weights,Tryz.underlying24]);rw[amE]at hw0;simp only[List.length_map,List.length_range]at hw0;have hrb:reachBytes=140737488351232:=by decide
  have hel:∀i,i<n→∀k∈(D i).weights Tryz.prog 90,k≤reachBytes:=fun i hi k hk=>by
   refine hwt k ?_;simp only[DataW.weights,Tryz.underlying24];exact List.mem_cons_of_mem _ (List.mem_append_left _ (ab7 _ (D i) (List.mem_map.2 ⟨i,List.mem_range.2 hi,rfl⟩) k hk))
  have key:∀i,i<n→∃t:aF,(∃E k c,(w.cell? (x.add (i*6))=some (.int .i64 t.client)∧w.cell? (x.add (i*6+1))=some (.int .i64 t.id)∧w.cell? (x.add (i*6+2))=some (.int .i64 t.rep.errno)∧w.cell? (x.add (i*6+3))=some (.int .i64 t.rep.rev)∧w.cell? (x.add (i*6+4))=some (.string t.rep.value)∧w.cell? (x.add (i*6+5))=some (.slice E k c))∧k≤c∧dw w E k t.rep.keys)∧xZ t:=by
   intro i hi';obtain⟨cs',hc,ht'⟩:=hrow i (by omega);rw[aey]at hc;obtain⟨_,hcl,hat⟩:=World.cells?_some hc;obtain⟨t,E,k,c,rfl,hwf,hkc,hfs⟩:=auu ht' (hel i hi');have g0:=hat 0 (by omega);have g1:=hat 1 (by omega);have g2:=hat 2 (by omega);have g3:=hat 3 (by omega);have g4:=hat 4 (by omega);have g5:=hat 5 (by omega);rw[Go.Deep.add_add]at g0 g1 g2 g3 g4 g5;exact⟨t,⟨E,k,c,⟨by simpa using g0,by simpa using g1,by simpa using g2,by simpa using g3,by simpa using g4,by simpa using g5⟩,hkc,hfs⟩,hwf⟩
  obtain⟨F,hF⟩:∃F:Nat→aF,∀i,i<n→(∃E k c,(w.cell? (x.add (i*6))=some (.int .i64 (F i).client)∧w.cell? (x.add (i*6+1))=some (.int .i64 (F i).id)∧w.cell? (x.add (i*6+2))=some (.int .i64 (F i).rep.errno)∧w.cell? (x.add (i*6+3))=some (.int .i64 (F i).rep.rev)∧w.cell? (x.add (i*6+4))=some (.string (F i).rep.value)∧w.cell? (x.add (i*6+5))=some (.slice E k c))∧k≤c∧dw w E k (F i).rep.keys)∧xZ (F i):=
   ⟨fun i=>if h:i<n then Classical.choose (key i h)else(⟨0,0,lK⟩:aF),fun i hi=>by simp only[hi,dif_pos];exact Classical.choose_spec (key i hi)⟩
  have hlen:((List.range n).map F).length=n:=by simp
  have hat:∀i,i<n→bg ((List.range n).map F) i=F i:=fun i hi=>by rw[lZ (by rw[hlen];exact hi)];simp
  refine⟨_,n,m,(List.range n).map F,hcs,⟨hlen.symm,Nat.le_trans hl hm,fun f hf=>?_,fun hn=>?_⟩,hl,by omega⟩
  ·obtain⟨i,hi,rfl⟩:=List.mem_map.1 hf;exact(hF i (List.mem_range.1 hi)).2
  ·obtain⟨⟨_,_,_,⟨z0,_⟩,_⟩,_⟩:=hF 0 hn;have hs:x.spot=none:=World.cell?_spot (a:=x) (by simpa[Addr.add]using z0);refine⟨x.block,x.off,by cases x;simp_all,lt_of_cell (a:=⟨x.block,_,none⟩) (qQ z0 hs),fun i hi=>?_⟩;rw[hlen]at hi;obtain⟨⟨E,k,c,⟨e0,e1,e2,e3,e4,e5⟩,hkc,hfs⟩,_⟩:=hF i hi;rw[hat i hi];have KA:=qQ e1 hs;have e2':=qQ e2 hs;have e3':=qQ e3 hs;have e4':=qQ e4 hs;have e5':=qQ e5 hs;rw[←Nat.add_assoc]at KA e2' e3' e4' e5';exact⟨E,k,c,⟨qQ e0 hs,KA,e2',e3',e4',e5'⟩,hkc,hfs⟩
theorem arf {fuel:Nat} {cs:List Value} {x0:DataW H×List MemPlace}
  (hf:DataW.trod enc Tryz.prog w 0 (fun _=>true) true fuel 23 cs=some x0)
  (hwt:∀n∈x0.1.weights Tryz.prog 23,n≤reachBytes):∃A n cap l,cs=[.slice A n cap]∧gW w A n l∧n≤cap∧n*88≤140737488351232:=by
 rcases Go.Deep.open_slice Tryz.underlying23 hf with⟨hcs,_⟩|⟨x,n,c,m,q,D,Pl,hcs,_,hl,hm,hmm,hx,hrow⟩
 ·exact⟨none,0,0,[],hcs,aa1 _ _,Nat.le_refl _,by omega⟩
 ·simp only[if_true]at hmm;subst hmm;have hd:=congrArg Prod.fst hx;simp only at hd;rw[hd]at hwt;have hw0:=hwt ((((List.range n).map D).length+((List.range (m-n)).map fun j=>D (n+j)).length)*Tryz.prog.bytesOf 68) (by simp[DataW.weights,Tryz.underlying23]);rw[amJ]at hw0;simp only[List.length_map,List.length_range]at hw0;have hrb:reachBytes=140737488351232:=by decide
  have hel:∀i,i<n→∀k∈(D i).weights Tryz.prog 68,k≤reachBytes:=fun i hi k hk=>by
   refine hwt k ?_;simp only[DataW.weights,Tryz.underlying23];exact List.mem_cons_of_mem _ (List.mem_append_left _ (ab7 _ (D i) (List.mem_map.2 ⟨i,List.mem_range.2 hi,rfl⟩) k hk))
  have key:∀i,i<n→∃t:au,(∃E k c,(w.cell? (x.add (i*6))=some (.string t.key)∧w.cell? (x.add (i*6+1))=some (.string t.value)∧w.cell? (x.add (i*6+2))=some (.int .i64 t.rev)∧w.cell? (x.add (i*6+3))=some (.int .i64 t.life)∧w.cell? (x.add (i*6+4))=some (.string t.note)∧w.cell? (x.add (i*6+5))=some (.slice E k c))∧k≤c∧dh w E k t.extra)∧om t:=by
   intro i hi';obtain⟨cs',hc,ht'⟩:=hrow i (by omega);rw[aeC]at hc;obtain⟨_,hcl,hat⟩:=World.cells?_some hc;obtain⟨t,E,k,c,rfl,hwf,hkc,hfs⟩:=auw ht' (hel i hi');have g0:=hat 0 (by omega);have g1:=hat 1 (by omega);have g2:=hat 2 (by omega);have g3:=hat 3 (by omega);have g4:=hat 4 (by omega);have g5:=hat 5 (by omega);rw[Go.Deep.add_add]at g0 g1 g2 g3 g4 g5;exact⟨t,⟨E,k,c,⟨by simpa using g0,by simpa using g1,by simpa using g2,by simpa using g3,by simpa using g4,by simpa using g5⟩,hkc,hfs⟩,hwf⟩
  obtain⟨F,hF⟩:∃F:Nat→au,∀i,i<n→(∃E k c,(w.cell? (x.add (i*6))=some (.string (F i).key)∧w.cell? (x.add (i*6+1))=some (.string (F i).value)∧w.cell? (x.add (i*6+2))=some (.int .i64 (F i).rev)∧w.cell? (x.add (i*6+3))=some (.int .i64 (F i).life)∧w.cell? (x.add (i*6+4))=some (.string (F i).note)∧w.cell? (x.add (i*6+5))=some (.slice E k c))∧k≤c∧dh w E k (F i).extra)∧om (F i):=
   ⟨fun i=>if h:i<n then Classical.choose (key i h)else dL,fun i hi=>by simp only[hi,dif_pos];exact Classical.choose_spec (key i hi)⟩
  have hlen:((List.range n).map F).length=n:=by simp
  have hat:∀i,i<n→atR ((List.range n).map F) i=F i:=fun i hi=>by rw[jw (by rw[hlen];exact hi)];simp
  refine⟨_,n,m,(List.range n).map F,hcs,⟨hlen.symm,Nat.le_trans hl hm,fun f hf=>?_,fun hn=>?_⟩,hl,by omega⟩
  ·obtain⟨i,hi,rfl⟩:=List.mem_map.1 hf;exact(hF i (List.mem_range.1 hi)).2
  ·obtain⟨⟨_,_,_,⟨z0,_⟩,_⟩,_⟩:=hF 0 hn;have hs:x.spot=none:=World.cell?_spot (a:=x) (by simpa[Addr.add]using z0);refine⟨x.block,x.off,by cases x;simp_all,lt_of_cell (a:=⟨x.block,_,none⟩) (qQ z0 hs),fun i hi=>?_⟩;rw[hlen]at hi;obtain⟨⟨E,k,c,⟨e0,e1,e2,e3,e4,e5⟩,hkc,hfs⟩,_⟩:=hF i hi;rw[hat i hi];have KA:=qQ e1 hs;have e2':=qQ e2 hs;have e3':=qQ e3 hs;have e4':=qQ e4 hs;have e5':=qQ e5 hs;rw[←Nat.add_assoc]at KA e2' e3' e4' e5';exact⟨E,k,c,⟨qQ e0 hs,KA,e2',e3',e4',e5'⟩,hkc,hfs⟩
theorem arh {v:Value} {d:DataW H} {ps:List MemPlace} {r:Reach} {b0:Nat}
  (hv:Value.okWide Tryz.prog w r b0 26 v) (h:DataW.Trod enc Tryz.prog w 0 (fun _=>true) true 26 v d ps)
  (hwt:∀n∈d.weights Tryz.prog 26,n≤reachBytes):∃(s:ShR) (A:Option Addr) (n cap:Nat) (B:Option Addr) (m cm:Nat),v=d_ s (.slice A n cap) (.slice B m cm)∧bL w s A n cap B m cm∧Cv s∧rC n m:=by
 obtain⟨f0,f1,f2,f3,f4,hu,⟨o0,k0⟩,⟨o1,k1⟩,⟨o2,k2⟩,⟨o3,k3⟩,⟨o4,k4⟩⟩:∃f0 f1 f2 f3 f4,Tryz.prog.underlying 26=some (.struct #[f0,f1,f2,f3,f4])∧(f0.offset=0∧f0.type=3)∧(f1.offset=1∧f1.type=3)∧(f2.offset=2∧f2.type=4)∧(f3.offset=3∧f3.type=23)∧(f4.offset=4∧f4.type=24):=⟨_,_,_,_,_,Tryz.underlying26,⟨rfl,rfl⟩,⟨rfl,rfl⟩,⟨rfl,rfl⟩,⟨rfl,rfl⟩,⟨rfl,rfl⟩⟩;obtain⟨⟨l⟩,rfl,hs⟩:=okWide_struct hu hv;rw[am5]at hs;obtain⟨fuel,hf⟩:=h;obtain⟨xs,m,_,hx0,hlen,hxl,hel⟩:=DataW.trod_struct hu hf;have hl5:l.length=5:=by simpa using hs
 have hx5:xs.length=5:=by simpa using hxl
 have hd:d= .agg (xs.map (·.1)):=by have:=congrArg Prod.fst hx0;simpa using this
 have h0:=hel 0 f0 rfl;have h1:=hel 1 f1 rfl;have h2:=hel 2 f2 rfl;have h3:=hel 3 f3 rfl;have h4:=hel 4 f4 rfl;clear hel hf hx0 hv hlen hs;obtain⟨c0,c1,c2,c3,c4,rfl⟩:∃c0 c1 c2 c3 c4,l=[c0,c1,c2,c3,c4]:=match l,hl5 with|[c0,c1,c2,c3,c4],_=>⟨_,_,_,_,_,rfl⟩
 obtain⟨x0,x1,x2,x3,x4,rfl⟩:∃c0 c1 c2 c3 c4,xs=[c0,c1,c2,c3,c4]:=match xs,hx5 with|[c0,c1,c2,c3,c4],_=>⟨_,_,_,_,_,rfl⟩
 simp only[Value.cells]at h0 h1 h2 h3 h4;rw[o0,k0,xG]at h0;rw[o1,k1,xG]at h1;rw[o2,k2,amX]at h2;rw[o3,k3,am8]at h3;rw[o4,k4,am0]at h4;obtain⟨i0,z0,e0,w0⟩:=DataW.trod_int Tryz.underlying3 (show DataW.trod enc Tryz.prog w 0 (fun _=>true) true m 3 [c0]=some x0 from h0);obtain⟨i1,z1,e1,w1⟩:=DataW.trod_int Tryz.underlying3 (show DataW.trod enc Tryz.prog w 0 (fun _=>true) true m 3 [c1]=some x1 from h1);obtain⟨b2,z2,e2⟩:=DataW.trod_bool Tryz.underlying4 (show DataW.trod enc Tryz.prog w 0 (fun _=>true) true m 4 [c2]=some x2 from h2);subst hd;obtain⟨A,n,cap,t,y3,g3,Vh,z88⟩:=arf (show DataW.trod enc Tryz.prog w 0 (fun _=>true) true m 23 [c3]=some x3 from h3) (fun k hk=>hwt k (by simp[DataW.weights,DataW.weightsEach,Tryz.underlying26,hk]));obtain⟨B,n4,cm,u,y4,g4,I_,z72⟩:=aq_ (show DataW.trod enc Tryz.prog w 0 (fun _=>true) true m 24 [c4]=some x4 from h4) (fun k hk=>hwt k (by simp[DataW.weights,DataW.weightsEach,Tryz.underlying26,hk]));simp only[List.cons.injEq,and_true]at z0 z1 z2 y3 y4;subst z0 z1 z2 y3 y4;exact⟨⟨i0,i1,b2,t,u⟩,A,n,cap,B,n4,cm,rfl,⟨Vh,I_,g3,g4⟩,⟨w0,w1⟩,z88,z72⟩
end
end Go.Proofs.YtodaapcohdpenaaGreat
