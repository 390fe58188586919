-- eB
import Derived.Test.YtodaapcohdpenaaGreatShLawMath
namespace Go.Proofs.YtodaapcohdpenaaGreat
open Go.RowKit
set_option linter.unusedVariables false
theorem ZW (t:List au) (o:aX):(bO t o).2.errno≠82:=by
 unfold bO bM
 repeat' split
 all_goals simp[gK]
def NZ (s:ShR):ShR:=⟨s.id,s.epoch,false,s.table,s.cache⟩
theorem aui {s:ShR} (h:fq s):fq (NZ s):=h
theorem au6 (v:Int) (s:ShR) (c:iM):iE v (NZ s) c=iE v s c:=by
 unfold iE;rfl
theorem aoY {s:ShR} (h:fq s) (hf:s.frozen=true) (hid:∀d∈s.cache,d.id≤60) (hl:s.cache.length≤4) (a:Nat→Int) {i:Int} (hi:100≤i∧i≤109):
  ∃r S' q,eD 2 s (iG (bT a s.id s.epoch) i)=(s,r,false)∧decide (r.errno=82)=gL (bT a s.id s.epoch).op∧
   eD 2 (NZ s) (iG (bT a s.id s.epoch) i)=(S',q,gL (bT a s.id s.epoch).op)∧q.errno≠82:=by
 have hw:=ab9 h a (i:=i) ⟨by omega,by omega⟩;have hw2:iE 2 (NZ s) (iG (bT a s.id s.epoch) i)=0:=by rw[au6];exact hw
 have hlo:∀d,jF s.cache (iG (bT a s.id s.epoch) i).client=some d→d.id<(iG (bT a s.id s.epoch) i).id:=fun d hd=>by
  have:=hid _ (KX hd).1;show d.id<i;omega
 cases hwr:gL (bT a s.id s.epoch).op with
 |false=>
  have hr:gL (iG (bT a s.id s.epoch) i).op=false:=hwr;exact⟨_,_,_,Qa hw hr,decide_eq_false (ZW _ _),Qa hw2 hr,ZW _ _⟩
 |true=>
  have hr:gL (iG (bT a s.id s.epoch) i).op=true:=hwr;have zW:(dJ s.cache (iG (bT a s.id s.epoch) i).client (iG (bT a s.id s.epoch) i).id).2=70:=by
   rw[Ja h.2.1 (Ob hw).2.2.1];unfold wP
   cases e:jF s.cache (iG (bT a s.id s.epoch) i).client with
   |none=>rfl
   |some d=>simp only;rw[if_pos (hlo d e)]
  rcases Zo (s:=NZ s) hw2 hr hlo rfl with⟨h8,_⟩|⟨u,_,_,e⟩
  ·have:s.cache.length=8:=h8;omega
  ·exact⟨_,_,_,ad8 hw hr zW hf,decide_eq_true rfl,e,ZW _ _⟩
end Go.Proofs.YtodaapcohdpenaaGreat
