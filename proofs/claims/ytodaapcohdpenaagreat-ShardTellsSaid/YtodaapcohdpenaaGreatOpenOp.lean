-- eB
import Derived.Test.YtodaapcohdpenaaGreatGSq
import Derived.Test.YtodaapcohdpenaaGreatOpenRec
import Derived.Test.YtodaapcohdpenaaGreatGTabD
namespace Go.Proofs.YtodaapcohdpenaaGreat
open Go.RowKit Go.ChangeShapes Go.WideShapes
set_option maxRecDepth 100000
set_option maxRecDepth 100000
section
variable {H:Type} {enc:TypeId×Value→H} {w:World}
theorem aeB:Tryz.prog.cellsOf 29=7:=by kernel_rfl
theorem aoL:∃f0 f1 f2 f3 f4 f5 f6,Tryz.prog.underlying 29=some (.struct #[f0,f1,f2,f3,f4,f5,f6])∧(f0.offset=0∧f0.type=3)∧(f1.offset=1∧f1.type=9)∧(f2.offset=2∧f2.type=9)∧(f3.offset=3∧f3.type=3)∧(f4.offset=4∧f4.type=9)∧(f5.offset=5∧f5.type=3)∧(f6.offset=6∧f6.type=9):=
 ⟨_,_,_,_,_,_,_,Tryz.underlying29,⟨rfl,rfl⟩,⟨rfl,rfl⟩,⟨rfl,rfl⟩,⟨rfl,rfl⟩,⟨rfl,rfl⟩,⟨rfl,rfl⟩,⟨rfl,rfl⟩⟩
theorem Jr {s:ByteArray} (h:s.data.toList.length≤reachBytes):s.size≤140737488365000:=by
 have:s.size=s.data.toList.length:=by rw[Array.length_toList];rfl
 have:=reachBytes_lt;omega
theorem ab7 {P:Program} {e:TypeId}:∀(ds:List (DataW H)) (d:DataW H),d∈ds→∀n∈d.weights P e,n∈DataW.weightsAll P e ds
 |[],_,h,_,_=>by cases h
 |x::r,d,h,n,hn=>by
  unfold DataW.weightsAll;rw[List.mem_append];rcases List.mem_cons.1 h with rfl|h
  ·exact .inl hn
  ·exact .inr (ab7 r d h n hn)
theorem amF:Tryz.prog.bytesOf 65=24:=by kernel_rfl
theorem amJ:Tryz.prog.bytesOf 68=88:=by kernel_rfl
theorem ard {fuel:Nat} {cs:List Value} {x:DataW H×List MemPlace} (hl1:cs.length=1)
  (hf:DataW.trod enc Tryz.prog w 0 (fun _=>true) true fuel 66 cs=some x) (hwt:∀n∈x.1.weights Tryz.prog 66,n≤reachBytes):
  ∃A n cap,cs=[.slice A n cap]∧n≤cap∧n*24≤140737488351232∧∃fs,dh w A n fs:=by
 obtain⟨A,n,cap,rfl,h1,fs,h2⟩:=ara hl1 hf;refine⟨A,n,cap,rfl,h1,?_,fs,h2⟩;rcases Go.Deep.open_slice Tryz.underlying66 hf with⟨hcs,_⟩|⟨x',l,c,m,q,D,Pl,hcs,_,hl,hm,hmm,hx,hrow⟩
 ·simp at hcs;omega
 ·simp at hcs;obtain⟨rfl,rfl,rfl⟩:=hcs;simp only[if_true]at hmm;subst hmm;have hd:=congrArg Prod.fst hx;simp only at hd;rw[hd]at hwt;have hw0:=hwt ((((List.range n).map D).length+((List.range (m-n)).map fun j=>D (n+j)).length)*Tryz.prog.bytesOf 65) (by simp[DataW.weights,Tryz.underlying66]);rw[amF]at hw0;simp only[List.length_map,List.length_range]at hw0;have hrb:reachBytes=140737488351232:=by decide
  omega
theorem auw {fuel:Nat} {cs:List Value} {x:DataW H×List MemPlace}
  (h:DataW.trod enc Tryz.prog w 0 (fun _=>true) true fuel 68 cs=some x) (hwt:∀n∈x.1.weights Tryz.prog 68,n≤reachBytes):
  ∃(rc:au) (E:Option Addr) (k c:Nat),cs=[.string rc.key,.string rc.value,.int .i64 rc.rev,.int .i64 rc.life,.string rc.note,.slice E k c]∧om rc∧k≤c∧dh w E k rc.extra:=by
 obtain⟨f0,f1,f2,f3,f4,f5,hu,⟨o0,k0⟩,⟨o1,k1⟩,⟨o2,k2⟩,⟨o3,k3⟩,⟨o4,k4⟩,⟨o5,k5⟩⟩:=aoM;obtain⟨xs,m,_,hx0,hlen,hxl,hel⟩:=DataW.trod_struct hu h;rw[aeC]at hlen;have hx6:xs.length=6:=by simpa using hxl
 have h0:=hel 0 f0 rfl;have h1:=hel 1 f1 rfl;have h2:=hel 2 f2 rfl;have h3:=hel 3 f3 rfl;have h4:=hel 4 f4 rfl;have h5:=hel 5 f5 rfl;clear hel;obtain⟨c0,c1,c2,c3,c4,c5,rfl⟩:∃c0 c1 c2 c3 c4 c5,cs=[c0,c1,c2,c3,c4,c5]:=match cs,hlen with|[c0,c1,c2,c3,c4,c5],_=>⟨_,_,_,_,_,_,rfl⟩
 obtain⟨x0,x1,x2,x3,x4,x5,rfl⟩:∃c0 c1 c2 c3 c4 c5,xs=[c0,c1,c2,c3,c4,c5]:=match xs,hx6 with|[c0,c1,c2,c3,c4,c5],_=>⟨_,_,_,_,_,_,rfl⟩
 rw[o0,k0,Ef]at h0;rw[o1,k1,Ef]at h1;rw[o2,k2,xG]at h2;rw[o3,k3,xG]at h3;rw[o4,k4,Ef]at h4;rw[o5,k5,am3]at h5;have hd:x.1= .agg [x0.1,x1.1,x2.1,x3.1,x4.1,x5.1]:=by have:=congrArg Prod.fst hx0;simpa using this
 rw[hd]at hwt;obtain⟨s0,z0,e0,_⟩:=DataW.trod_string Tryz.underlying9 (show DataW.trod enc Tryz.prog w 0 (fun _=>true) true m 9 [c0]=some x0 from h0);obtain⟨s1,z1,e1,_⟩:=DataW.trod_string Tryz.underlying9 (show DataW.trod enc Tryz.prog w 0 (fun _=>true) true m 9 [c1]=some x1 from h1);obtain⟨i2,z2,e2,w2⟩:=DataW.trod_int Tryz.underlying3 (show DataW.trod enc Tryz.prog w 0 (fun _=>true) true m 3 [c2]=some x2 from h2);obtain⟨i3,z3,e3,w3⟩:=DataW.trod_int Tryz.underlying3 (show DataW.trod enc Tryz.prog w 0 (fun _=>true) true m 3 [c3]=some x3 from h3);obtain⟨s4,z4,e4,_⟩:=DataW.trod_string Tryz.underlying9 (show DataW.trod enc Tryz.prog w 0 (fun _=>true) true m 9 [c4]=some x4 from h4);obtain⟨A,n,cap,hA,hn,M0,fs,hF⟩:=ard rfl (show DataW.trod enc Tryz.prog w 0 (fun _=>true) true m 66 [c5]=some x5 from h5) (fun k hk=>hwt k (by simp[DataW.weights,DataW.weightsEach,Tryz.underlying68,hk]));simp only[List.cons.injEq,and_true]at z0 z1 z2 z3 z4 hA;subst z0 z1 z2 z3 z4 hA;subst e0 e1 e2 e3 e4;refine⟨⟨s0,s1,i2,i3,s4,fs⟩,A,n,cap,rfl,⟨⟨Jr (hwt _ ?_),Jr (hwt _ ?_),Jr (hwt _ ?_)⟩,w2,w3,by have:=hF.1;show fs.length*24≤_;omega⟩,hn,hF⟩<;>simp[DataW.weights,DataW.weightsEach,Tryz.underlying68]
end
end Go.Proofs.YtodaapcohdpenaaGreat
