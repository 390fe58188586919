-- eB
import Derived.Test.YtodaapcohdpenaaGreatOpenArr
import Derived.SizedLaws
namespace Go.Proofs.YtodaapcohdpenaaGreat
open Go.RowKit Go.ChangeShapes Go.WideShapes
set_option maxRecDepth 100000
set_option maxRecDepth 100000
section
variable {H:Type} {enc:TypeId×Value→H} {w:World}
theorem arb {A:Option Addr} {n cap:Nat} {d:DataW H} {ps:List MemPlace}
  (h:DataW.Trod enc Tryz.prog w 0 (fun _=>true) true 66 (.slice A n cap) d ps):∃A' n' cap' fs,(.slice A n cap:Value)= .slice A' n' cap'∧n'≤cap'∧dh w A' n' fs:=by
 obtain⟨fuel,hf⟩:=h;rcases Go.Deep.open_slice Tryz.underlying66 hf with⟨hcs,_⟩|⟨x,l,c,m,q,D,Pl,hcs,_,hl,hm,hmm,_,hrow⟩
 ·simp[Value.cells]at hcs;obtain⟨rfl,rfl,rfl⟩:=hcs;exact⟨none,0,0,[],rfl,Nat.le_refl _,rfl,by unfold maxLen;omega,fun f h=>by simp at h,fun h=>by omega⟩
 ·simp[Value.cells]at hcs;obtain⟨rfl,rfl,rfl⟩:=hcs;simp at hmm;obtain⟨f0,f1,hu,o0,k0,o1,k1⟩:=aoJ;have key:∀i,i<n→∃z s,w.cell? (x.add (i*2))=some (.int .i64 z)∧w.cell? (x.add (i*2+1))=some (.string s)∧(Lit.int .i64 z).wf=true∧s.size≤maxLen:=by
   intro i hi';obtain⟨cs',hc,ht'⟩:=hrow i (by omega);rw[am2]at hc;obtain⟨_,hcl,hat⟩:=World.cells?_some hc;obtain⟨xs,m',_,_,hlen,hxl,hel⟩:=DataW.trod_struct hu ht';have h0:=hel 0 f0 rfl;have h1:=hel 1 f1 rfl;rw[o0,k0,xG,abd (by omega),List.getElem?_eq_getElem (by rw[hxl];simp)]at h0;rw[o1,k1,Ef,abd (by omega),List.getElem?_eq_getElem (by rw[hxl];simp)]at h1;obtain⟨z,hz,_,hwf⟩:=DataW.trod_int Tryz.underlying3 h0;obtain⟨s,hs,_,hsz⟩:=DataW.trod_string Tryz.underlying9 h1;have g0:=hat 0 (by omega);have g1:=hat 1 (by omega);rw[Go.Deep.add_add]at g0 g1;refine⟨z,s,?_,?_,hwf,hsz⟩
   ·rw[Nat.add_zero]at g0;rw[g0,List.getElem?_eq_getElem (by omega)];simpa using hz
   ·rw[g1,List.getElem?_eq_getElem (by omega)];simpa using hs
  -- the list that is read
  obtain⟨F,hF⟩:∃F:Nat→aT,∀i,i<n→w.cell? (x.add (i*2))=some (.int .i64 (F i).1)∧w.cell? (x.add (i*2+1))=some (.string (F i).2)∧(Lit.int .i64 (F i).1).wf=true∧(F i).2.size≤maxLen:=by
   refine⟨fun i=>(intOf ((w.cell? (x.add (i*2))).getD undef),match w.cell? (x.add (i*2+1))with|some (.string s)=>s|_=>ByteArray.empty),fun i hi=>?_⟩;obtain⟨z,s,e1,e2,e3,e4⟩:=key i hi;simp only[e1,e2,Option.getD_some,intOf];exact⟨trivial,trivial,e3,e4⟩
  have hlen:((List.range n).map F).length=n:=by simp
  have htg:∀i,i<n→tg ((List.range n).map F) i=(F i).1:=fun i hi=>by rw[AA (by rw[hlen];exact hi)];simp
  have hdt:∀i,i<n→dt ((List.range n).map F) i=(F i).2:=fun i hi=>by rw[Fz (by rw[hlen];exact hi)];simp
  refine⟨_,n,cap,(List.range n).map F,rfl,hl,hlen.symm,Nat.le_trans hl hm,fun f hf=>?_,fun hn=>?_⟩
  ·obtain⟨i,hi,rfl⟩:=List.mem_map.1 hf;have:=hF i (List.mem_range.1 hi);exact⟨this.2.2.1,this.2.2.2⟩
  ·have z0:=(hF 0 hn).1;have hs:x.spot=none:=World.cell?_spot (a:=x) (by simpa[Addr.add]using z0);refine⟨x.block,x.off,by cases x;simp_all,lt_of_cell (a:=⟨x.block,_,none⟩) (qQ z0 hs),fun i hi=>?_⟩;rw[hlen]at hi;obtain⟨e1,e2,_⟩:=hF i hi;rw[htg i hi,hdt i hi];have e2':=qQ e2 hs;rw[←Nat.add_assoc]at e2';exact⟨qQ e1 hs,e2'⟩
theorem ara {fuel:Nat} {cs:List Value} {x:DataW H×List MemPlace} (hl1:cs.length=1)
  (hf:DataW.trod enc Tryz.prog w 0 (fun _=>true) true fuel 66 cs=some x):∃A n cap,cs=[.slice A n cap]∧n≤cap∧∃fs,dh w A n fs:=by
 have hs:∃A n cap,cs=[.slice A n cap]:=by
  rcases Go.Deep.open_slice Tryz.underlying66 hf with⟨hcs,_⟩|⟨x,l,c,m,q,D,Pl,hcs,_⟩
  ·exact⟨none,0,0,hcs⟩
  ·exact⟨some x,l,c,hcs⟩
 obtain⟨A,n,cap,rfl⟩:=hs;have hT:DataW.Trod enc Tryz.prog w 0 (fun _=>true) true 66 (.slice A n cap) x.1 x.2:=⟨fuel,hf⟩;obtain⟨A',n',cap',fs,hv,h1,h2⟩:=arb hT
 cases hv
 exact⟨A,n,cap,rfl,h1,fs,h2⟩
theorem aeC:Tryz.prog.cellsOf 68=6:=by kernel_rfl
theorem am3:Tryz.prog.cellsOf 66=1:=by kernel_rfl
theorem aoM:∃f0 f1 f2 f3 f4 f5,Tryz.prog.underlying 68=some (.struct #[f0,f1,f2,f3,f4,f5])∧(f0.offset=0∧f0.type=9)∧(f1.offset=1∧f1.type=9)∧(f2.offset=2∧f2.type=3)∧(f3.offset=3∧f3.type=3)∧(f4.offset=4∧f4.type=9)∧(f5.offset=5∧f5.type=66):=⟨_,_,_,_,_,_,Tryz.underlying68,⟨rfl,rfl⟩,⟨rfl,rfl⟩,⟨rfl,rfl⟩,⟨rfl,rfl⟩,⟨rfl,rfl⟩,⟨rfl,rfl⟩⟩
end
end Go.Proofs.YtodaapcohdpenaaGreat
