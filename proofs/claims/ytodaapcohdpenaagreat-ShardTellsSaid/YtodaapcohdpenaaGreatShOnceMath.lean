-- eB
import Derived.Test.YtodaapcohdpenaaGreatShLawMath
namespace Go.Proofs.YtodaapcohdpenaaGreat
open Go.RowKit
set_option linter.unusedVariables false
def seven (x0 x1 x2 x3 x4 x5 x6:Int):Nat→Int
 |0=>x0|1=>x1|2=>x2|3=>x3|4=>x4|5=>x5|_=>x6
theorem abK {x0 x1 x2 x3 x4 x5 x6:Int} (h0:(Lit.int .i64 x0).wf=true) (h1:(Lit.int .i64 x1).wf=true) (h2:(Lit.int .i64 x2).wf=true) (h3:(Lit.int .i64 x3).wf=true) (h4:(Lit.int .i64 x4).wf=true) (h5:(Lit.int .i64 x5).wf=true) (h6:(Lit.int .i64 x6).wf=true):∀j,j<7→(Lit.int .i64 (seven x0 x1 x2 x3 x4 x5 x6 j)).wf=true:=fun j hj=>by
 rcases(by omega:j=0∨j=1∨j=2∨j=3∨j=4∨j=5∨j=6)with rfl|rfl|rfl|rfl|rfl|rfl|rfl
 ·exact h0
 ·exact h1
 ·exact h2
 ·exact h3
 ·exact h4
 ·exact h5
 ·exact h6
def zT (s:ShR):ShR:=⟨s.id,s.epoch,true,s.table,s.cache⟩
theorem afn {s:ShR} (h:fq s):fq (zT s):=h
theorem ain (v:Int) (s:ShR) (c:iM):iE v (zT s) c=iE v s c:=by
 unfold iE;rfl
theorem ab8 {o:aX}:gL o=true↔2≤o.kind∧o.kind≤5:=by unfold gL;simp
theorem aqv {l:List aF} {c:Int} {d:aF} (h:j4 l) (e:jF l c=some d):∀i,iN c i→
  (d.id<i→dJ l c i=(lK,70))∧(i<d.id→dJ l c i=(lK,81))∧(d.id=i→dJ l c i=(d.rep,0)):=fun i hg=>by
 rw[Ja h hg,e];unfold wP;simp only;refine⟨fun h1=>if_pos h1,fun h1=>?_,fun h1=>?_⟩
 ·rw[if_neg (by omega),if_pos h1]
 ·rw[if_neg (by omega),if_neg (by omega)]
theorem aq4 {s:ShR} (h:fq s) (hf:s.frozen=false) (hid:∀d∈s.cache,d.id≤60) (a:Nat→Int):
    ∃S' r,eD 2 s (iG (bT a s.id s.epoch) 1000)=(S',r,(eD 2 s (iG (bT a s.id s.epoch) 1000)).2.2)∧
     ((gL (kZ a)=false∧(eD 2 s (iG (bT a s.id s.epoch) 1000)).2.2=false∧S'=s)∨
      (gL (kZ a)=true∧(eD 2 s (iG (bT a s.id s.epoch) 1000)).2.2=false∧r.errno=50∧S'=s)∨
      (gL (kZ a)=true∧(eD 2 s (iG (bT a s.id s.epoch) 1000)).2.2=true∧fq S'∧
        eD 2 S' (iG (bT a s.id s.epoch) 1000)=(S',r,false)∧eD 2 (zT S') (iG (bT a s.id s.epoch) 1000)=(zT S',r,false)∧
        eD 2 S' (iG (bT a s.id s.epoch) 999)=(S',gK 81,false)∧eD 2 (zT S') (iG (bT a s.id s.epoch) 1001)=(zT S',gK 82,false))):=by
  have hw:=ab9 h a (i:=1000) ⟨by omega,by omega⟩
  cases hwr:gL (kZ a)with
  |false=>
    have e:=Qa hw (show gL (iG (bT a s.id s.epoch) 1000).op=false from hwr);refine⟨s,_,by rw[e],.inl ⟨rfl,by rw[e],rfl⟩⟩
  |true=>
    have hwr2:∀i,gL (iG (bT a s.id s.epoch) i).op=true:=fun i=>hwr;rcases Zo hw (hwr2 1000) (fun d hd=>by have:=hid _ (KX hd).1;show d.id<1000;omega) hf with⟨_,_,e⟩|⟨u,_,hE,e⟩
    · refine⟨s,_,by rw[e],.inr (.inl ⟨rfl,by rw[e],rfl,rfl⟩)⟩
    · have hr:=Zp (v:=2) (c:=iG (bT a s.id s.epoch) 1000) h
      rw[e]at hr;have hlk:=hE.2.1 (iG (bT a s.id s.epoch) 1000).client;rw[if_pos rfl]at hlk;have hS:∃S':ShR,S'=(⟨s.id,s.epoch,s.frozen,(bO s.table (iG (bT a s.id s.epoch) 1000).op).1,u⟩:ShR):=⟨_,rfl⟩;obtain⟨S',hS'⟩:=hS;have e2:eD 2 s (iG (bT a s.id s.epoch) 1000)=(S',(bO s.table (iG (bT a s.id s.epoch) 1000).op).2,true):=by rw[e,hS']
      have hR:fq S':=by rw[hS'];exact hr
      have IK:S'.id=s.id:=by rw[hS']
      have apv:S'.epoch=s.epoch:=by rw[hS']
      have hfz:S'.frozen=false:=by rw[hS'];exact hf
      have hca:S'.cache=u:=by rw[hS']
      have hws:∀i,1≤i∧i≤5000→iE 2 S' (iG (bT a s.id s.epoch) i)=0:=fun i hi=>by
        have:=ab9 hR a hi;rw[IK,apv]at this;exact this
      have hg:∀i,1≤i∧i≤5000→iN (iG (bT a s.id s.epoch) i).client (iG (bT a s.id s.epoch) i).id:=fun i hi=>(Ob (hws i hi)).2.2.1;have hl:=aqv hR.2.1 (by rw[hca];exact hlk);generalize(bO s.table (iG (bT a s.id s.epoch) 1000).op).2=r at*;refine⟨S',r,by rw[e2],.inr (.inr ⟨rfl,by rw[e2],hR,?_,?_,?_,?_⟩)⟩
      · exact Zq (hws 1000 ⟨by omega,by omega⟩) (hwr2 _) ((hl _ (hg 1000 ⟨by omega,by omega⟩)).2.2 rfl)
      · exact Zq (by rw[ain];exact hws 1000 ⟨by omega,by omega⟩) (hwr2 _) ((hl _ (hg 1000 ⟨by omega,by omega⟩)).2.2 rfl)
      · exact al9 (hws 999 ⟨by omega,by omega⟩) (hwr2 _) (by
          have:=(hl _ (hg 999 ⟨by omega,by omega⟩)).2.1 (show(999:Int)<1000 by omega);show(dJ S'.cache (iG (bT a s.id s.epoch) 1000).client 999).2=81;rw[show dJ S'.cache (iG (bT a s.id s.epoch) 1000).client 999=_ from this])
      · exact ad8 (by rw[ain];exact hws 1001 ⟨by omega,by omega⟩) (hwr2 _) (by
          have:=(hl _ (hg 1001 ⟨by omega,by omega⟩)).1 (show(1000:Int)<1001 by omega);show(dJ S'.cache (iG (bT a s.id s.epoch) 1000).client 1001).2=70;rw[show dJ S'.cache (iG (bT a s.id s.epoch) 1000).client 1001=_ from this]) rfl
end Go.Proofs.YtodaapcohdpenaaGreat
