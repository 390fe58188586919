-- eB
import Derived.Test.YtodaapcohdpenaaGreatGFld
import Derived.OpenShut
namespace Go.Proofs.YtodaapcohdpenaaGreat
open Go.RowKit Go.ChangeShapes Go.WideShapes
section
variable {H:Type} {enc:TypeId×Value→H} {w:World}
theorem aq3 {P:Program} {r:Reach} {b0:Nat} {t e:TypeId} {n:Nat} {v:Value} (ht:P.underlying t=some (.array n e)) (h:Value.okWide P w r b0 t v):∃cs,v= .agg cs∧cs.size=P.cellsOf t:=by
 simp only[Value.okWide,ht]at h;obtain⟨cs,h1,h2,_⟩:=h;exact⟨cs,h1,h2⟩
theorem abe {P:Program} {t i64:TypeId} {v:Value} {d:DataW H} {ps:List MemPlace} {r:Reach} {b0:Nat} (ht:P.underlying t=some (.array 7 i64)) (hi:P.underlying i64=some (.int .i64)) (hC:P.cellsOf t=7) (h1:P.cellsOf i64=1)
  (hv:Value.okWide P w r b0 t v) (h:DataW.Trod enc P w 0 (fun _=>true) true t v d ps):
  ∃a0 a1 a2 a3 a4 a5 a6:Int,v= .agg #[.int .i64 a0,.int .i64 a1,.int .i64 a2,.int .i64 a3,.int .i64 a4,.int .i64 a5,.int .i64 a6]∧(Lit.int .i64 a0).wf=true∧(Lit.int .i64 a1).wf=true∧(Lit.int .i64 a2).wf=true∧(Lit.int .i64 a3).wf=true∧(Lit.int .i64 a4).wf=true∧(Lit.int .i64 a5).wf=true∧(Lit.int .i64 a6).wf=true:=by
 obtain⟨cs,rfl,hs⟩:=aq3 ht hv;rw[hC]at hs;obtain⟨fuel,hf⟩:=h;obtain⟨xs,m,_,_,hl,hx,hel⟩:=DataW.trod_array ht hf;obtain⟨l⟩:=cs;have hl5:l.length=7:=by simpa using hs
 have key:∀i,(hi5:i<7)→∃a:Int,l[i]'(by omega)= .int .i64 a∧(Lit.int .i64 a).wf=true:=by
  intro i hi5;have h2:=hel i hi5;rw[h1,Nat.mul_one]at h2;have hlt:i<((Value.agg ⟨l⟩).cells.toList).length:=by simp[Value.cells];omega
  rw[abd hlt,List.getElem?_eq_getElem (by omega)]at h2;obtain⟨z,hz,_,hwf⟩:=DataW.trod_int hi h2;refine⟨z,?_,hwf⟩;simpa[Value.cells]using hz
 match l,hl5,key with
 |[b0,b1,b2,b3,b4,b5,b6],_,key=>
  obtain⟨a0,e0,w0⟩:=key 0 (by omega);obtain⟨a1,e1,w1⟩:=key 1 (by omega);obtain⟨a2,e2,w2⟩:=key 2 (by omega);obtain⟨a3,e3,w3⟩:=key 3 (by omega);obtain⟨a4,e4,w4⟩:=key 4 (by omega);obtain⟨a5,e5,w5⟩:=key 5 (by omega);obtain⟨a6,e6,w6⟩:=key 6 (by omega);simp only[List.getElem_cons_zero,List.getElem_cons_succ]at e0 e1 e2 e3 e4 e5 e6;subst e0 e1 e2 e3 e4 e5 e6;exact⟨a0,a1,a2,a3,a4,a5,a6,rfl,w0,w1,w2,w3,w4,w5,w6⟩
end
end Go.Proofs.YtodaapcohdpenaaGreat
