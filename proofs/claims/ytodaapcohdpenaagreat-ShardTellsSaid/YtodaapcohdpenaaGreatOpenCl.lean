-- eB
import Derived.Test.YtodaapcohdpenaaGreatGSq
import Derived.Test.YtodaapcohdpenaaGreatOpenOp
import Derived.Test.YtodaapcohdpenaaGreatSh
namespace Go.Proofs.YtodaapcohdpenaaGreat
open Go.RowKit Go.ChangeShapes Go.WideShapes
set_option maxRecDepth 100000
set_option maxRecDepth 100000
section
variable {H:Type} {enc:TypeId×Value→H} {w:World}
theorem auv {fuel:Nat} {cs:List Value} {x:DataW H×List MemPlace}
  (h:DataW.trod enc Tryz.prog w 0 (fun _=>true) true fuel 29 cs=some x) (hwt:∀n∈x.1.weights Tryz.prog 29,n≤reachBytes):
  ∃o:aX,cs=[.int .i64 o.kind,.string o.key,.string o.value,.int .i64 o.rev,.string o.upto,.int .i64 o.life,.string o.note]∧Bo o:=by
 obtain⟨f0,f1,f2,f3,f4,f5,f6,hu,⟨o0,k0⟩,⟨o1,k1⟩,⟨o2,k2⟩,⟨o3,k3⟩,⟨o4,k4⟩,⟨o5,k5⟩,⟨o6,k6⟩⟩:=aoL;obtain⟨xs,m,_,hx0,hlen,hxl,hel⟩:=DataW.trod_struct hu h;rw[aeB]at hlen;have hx7:xs.length=7:=by simpa using hxl
 have h0:=hel 0 f0 rfl;have h1:=hel 1 f1 rfl;have h2:=hel 2 f2 rfl;have h3:=hel 3 f3 rfl;have h4:=hel 4 f4 rfl;have h5:=hel 5 f5 rfl;have h6:=hel 6 f6 rfl;clear hel;obtain⟨c0,c1,c2,c3,c4,c5,c6,rfl⟩:∃c0 c1 c2 c3 c4 c5 c6,cs=[c0,c1,c2,c3,c4,c5,c6]:=match cs,hlen with|[c0,c1,c2,c3,c4,c5,c6],_=>⟨_,_,_,_,_,_,_,rfl⟩
 obtain⟨x0,x1,x2,x3,x4,x5,x6,rfl⟩:∃c0 c1 c2 c3 c4 c5 c6,xs=[c0,c1,c2,c3,c4,c5,c6]:=match xs,hx7 with|[c0,c1,c2,c3,c4,c5,c6],_=>⟨_,_,_,_,_,_,_,rfl⟩
 rw[o0,k0,xG]at h0;rw[o1,k1,Ef]at h1;rw[o2,k2,Ef]at h2;rw[o3,k3,xG]at h3;rw[o4,k4,Ef]at h4;rw[o5,k5,xG]at h5;rw[o6,k6,Ef]at h6;have hd:x.1= .agg [x0.1,x1.1,x2.1,x3.1,x4.1,x5.1,x6.1]:=by have:=congrArg Prod.fst hx0;simpa using this
 rw[hd]at hwt;obtain⟨i0,z0,e0,w0⟩:=DataW.trod_int Tryz.underlying3 (show DataW.trod enc Tryz.prog w 0 (fun _=>true) true m 3 [c0]=some x0 from h0);obtain⟨s1,z1,e1,_⟩:=DataW.trod_string Tryz.underlying9 (show DataW.trod enc Tryz.prog w 0 (fun _=>true) true m 9 [c1]=some x1 from h1);obtain⟨s2,z2,e2,_⟩:=DataW.trod_string Tryz.underlying9 (show DataW.trod enc Tryz.prog w 0 (fun _=>true) true m 9 [c2]=some x2 from h2);obtain⟨i3,z3,e3,w3⟩:=DataW.trod_int Tryz.underlying3 (show DataW.trod enc Tryz.prog w 0 (fun _=>true) true m 3 [c3]=some x3 from h3);obtain⟨s4,z4,e4,_⟩:=DataW.trod_string Tryz.underlying9 (show DataW.trod enc Tryz.prog w 0 (fun _=>true) true m 9 [c4]=some x4 from h4);obtain⟨i5,z5,e5,w5⟩:=DataW.trod_int Tryz.underlying3 (show DataW.trod enc Tryz.prog w 0 (fun _=>true) true m 3 [c5]=some x5 from h5);obtain⟨s6,z6,e6,_⟩:=DataW.trod_string Tryz.underlying9 (show DataW.trod enc Tryz.prog w 0 (fun _=>true) true m 9 [c6]=some x6 from h6);simp only[List.cons.injEq,and_true]at z0 z1 z2 z3 z4 z5 z6;subst z0 z1 z2 z3 z4 z5 z6;subst e0 e1 e2 e3 e4 e5 e6;refine⟨⟨i0,s1,s2,i3,s4,i5,s6⟩,rfl,w0,Jr (hwt _ ?_),Jr (hwt _ ?_),w3,Jr (hwt _ ?_),w5,Jr (hwt _ ?_)⟩<;>simp[DataW.weights,DataW.weightsEach,Tryz.underlying29]
theorem amY:Tryz.prog.cellsOf 31=11:=by kernel_rfl
theorem aoI:∃f0 f1 f2 f3 f4,Tryz.prog.underlying 31=some (.struct #[f0,f1,f2,f3,f4])∧(f0.offset=0∧f0.type=3)∧(f1.offset=1∧f1.type=3)∧(f2.offset=2∧f2.type=3)∧(f3.offset=3∧f3.type=3)∧(f4.offset=4∧f4.type=29):=
 ⟨_,_,_,_,_,Tryz.underlying31,⟨rfl,rfl⟩,⟨rfl,rfl⟩,⟨rfl,rfl⟩,⟨rfl,rfl⟩,⟨rfl,rfl⟩⟩
theorem aq9 {v:Value} {d:DataW H} {ps:List MemPlace} {r:Reach} {b0:Nat}
  (hv:Value.okWide Tryz.prog w r b0 31 v) (h:DataW.Trod enc Tryz.prog w 0 (fun _=>true) true 31 v d ps)
  (hwt:∀n∈d.weights Tryz.prog 31,n≤reachBytes):∃c:iM,v=ko c∧oH c:=by
 obtain⟨f0,f1,f2,f3,f4,hu,⟨o0,k0⟩,⟨o1,k1⟩,⟨o2,k2⟩,⟨o3,k3⟩,⟨o4,k4⟩⟩:=aoI;obtain⟨⟨l⟩,rfl,hs⟩:=okWide_struct hu hv;rw[amY]at hs;obtain⟨fuel,hf⟩:=h;obtain⟨xs,m,_,hx0,hlen,hxl,hel⟩:=DataW.trod_struct hu hf;have apG:l.length=11:=by simpa using hs
 have hx5:xs.length=5:=by simpa using hxl
 have hd:d= .agg (xs.map (·.1)):=by have:=congrArg Prod.fst hx0;simpa using this
 have h0:=hel 0 f0 rfl;have h1:=hel 1 f1 rfl;have h2:=hel 2 f2 rfl;have h3:=hel 3 f3 rfl;have h4:=hel 4 f4 rfl;clear hel hf hx0 hv hlen hs;obtain⟨c0,c1,c2,c3,c4,c5,c6,c7,c8,c9,c10,rfl⟩:∃c0 c1 c2 c3 c4 c5 c6 c7 c8 c9 c10,l=[c0,c1,c2,c3,c4,c5,c6,c7,c8,c9,c10]:=match l,apG with|[c0,c1,c2,c3,c4,c5,c6,c7,c8,c9,c10],_=>⟨_,_,_,_,_,_,_,_,_,_,_,rfl⟩
 obtain⟨x0,x1,x2,x3,x4,rfl⟩:∃c0 c1 c2 c3 c4,xs=[c0,c1,c2,c3,c4]:=match xs,hx5 with|[c0,c1,c2,c3,c4],_=>⟨_,_,_,_,_,rfl⟩
 simp only[Value.cells]at h0 h1 h2 h3 h4;rw[o0,k0,xG]at h0;rw[o1,k1,xG]at h1;rw[o2,k2,xG]at h2;rw[o3,k3,xG]at h3;rw[o4,k4,aeB]at h4;obtain⟨i0,z0,e0,w0⟩:=DataW.trod_int Tryz.underlying3 (show DataW.trod enc Tryz.prog w 0 (fun _=>true) true m 3 [c0]=some x0 from h0);obtain⟨i1,z1,e1,w1⟩:=DataW.trod_int Tryz.underlying3 (show DataW.trod enc Tryz.prog w 0 (fun _=>true) true m 3 [c1]=some x1 from h1);obtain⟨i2,z2,e2,w2⟩:=DataW.trod_int Tryz.underlying3 (show DataW.trod enc Tryz.prog w 0 (fun _=>true) true m 3 [c2]=some x2 from h2);obtain⟨i3,z3,e3,w3⟩:=DataW.trod_int Tryz.underlying3 (show DataW.trod enc Tryz.prog w 0 (fun _=>true) true m 3 [c3]=some x3 from h3);subst hd;obtain⟨o,hco,hwo⟩:=auv (show DataW.trod enc Tryz.prog w 0 (fun _=>true) true m 29 [c4,c5,c6,c7,c8,c9,c10]=some x4 from h4) (fun n hn=>hwt n (by simp[DataW.weights,DataW.weightsEach,Tryz.underlying31,hn]));simp only[List.cons.injEq,and_true]at z0 z1 z2 z3 hco;obtain⟨y4,y5,y6,y7,y8,y9,y10⟩:=hco;subst z0 z1 z2 z3 y4 y5 y6 y7 y8 y9 y10;exact⟨⟨i0,i1,i2,i3,o⟩,rfl,w0,w1,w2,w3,hwo⟩
end
end Go.Proofs.YtodaapcohdpenaaGreat
