-- eB
import Derived.Test.YtodaapcohdpenaaGreatShLawMath
namespace Go.Proofs.YtodaapcohdpenaaGreat
open Go.RowKit
set_option linter.unusedVariables false
def F9 (c:iM) (k:Nat):iM:=⟨c.fZ,c.epoch,3,(k:Int)+1,c.op⟩
def VZ:ShR:=⟨1,4,false,[],[]⟩
noncomputable def rU (f:Nat→Nat→Int):Nat→ShR
 |0=>VZ
 |k+1=>(eD 2 (rU f k) (F9 (bT (f k) 1 4) k)).1
theorem atM:fq VZ:=⟨RZ,Nz,⟨by show(0:Int)≤1;omega,by show(1:Int)≤7;omega⟩,by show(1:Int)≤4;omega,by show(4:Int)≤bZ;unfold bZ;omega⟩
theorem VY (f:Nat→Nat→Int):∀k,fq (rU f k)
 |0=>atM
 |k+1=>Zp (VY f k)
theorem abP (f:Nat→Nat→Int):∀k,(rU f k).id=1∧(rU f k).epoch=4∧(rU f k).frozen=false
 |0=>⟨rfl,rfl,rfl⟩
 |k+1=>by
  obtain⟨h1,h2,h3⟩:=abP f k;obtain⟨a,b,c⟩:=ad_ (v:=2) (s:=rU f k) (c:=F9 (bT (f k) 1 4) k);exact⟨a.trans h1,b.trans h2,c.trans h3⟩
theorem ama {v:Int} {s:ShR} {c:iM} (h:∀d∈s.cache,d.client=3) (hc:c.client=3):∀d∈(eD v s c).1.cache,d.client=3:=by
  unfold eD
  repeat' split
  all_goals first
    |exact h
    |(
     intro d hd;simp only at hd;unfold fV at hd;split at hd
     · cases hd
     · split at hd
       · cases hd
       · split at hd
         · cases hd
         · rcases K7.1 hd with rfl|h2
           · exact hc
           · exact h d h2.1)
theorem ahR (f:Nat→Nat→Int):∀k,∀d∈(rU f k).cache,d.client=3
 |0=>fun d hd=>nomatch hd
 |k+1=>ama (ahR f k) rfl
theorem ahP (f:Nat→Nat→Int):∀k,∀d∈(rU f k).cache,d.id≤(k:Int)
 |0=>fun d hd=>nomatch hd
 |k+1=>ad9 (fun d hd=>by have:=ahP f k d hd;omega) (by show(k:Int)+1≤_;omega)
theorem aq5 {l:List aF} (h:lF l) (h3:∀d∈l,d.client=3):l.length≤1:=by
 by_cases hl:l.length≤1
 ·exact hl
 ·have h1:=Ey h (i:=0) (j:=1) (by omega) (by omega);rw[h3 _ (yL (l:=l) (i:=0) (by omega)),h3 _ (yL (l:=l) (i:=1) (by omega))]at h1;omega
theorem ahQ (f:Nat→Nat→Int) (k:Nat):(rU f k).cache.length≤1:=aq5 (VY f k).2.1.2.1 (ahR f k)
theorem aoc {t:List au} {o:aX} (hc:dY 2 o=0) (h:gL o=false):(bO t o).1=t:=by
 have hk:¬(2≤o.kind∧o.kind≤5):=fun hk=>by rw[show gL o=true from by unfold gL;simp;exact hk]at h;cases h
 have:=(Nr hc).1;unfold bO
 repeat' split
 all_goals first
  |rfl
  |omega
theorem at5 (f:Nat→Nat→Int) {k:Nat} (hk:k<30):∃r,eD 2 (rU f k) (F9 (bT (f k) 1 4) k)=(rU f (k+1),r,gL (bT (f k) 1 4).op)∧
  bO (rU f k).table (bT (f k) 1 4).op=((rU f (k+1)).table,r):=by
 obtain⟨h1,h2,h3⟩:=abP f k;have hr:=VY f k;have hok:dY 2 (bT (f k) 1 4).op=0:=agP (f k);have hw:iE 2 (rU f k) (F9 (bT (f k) 1 4) k)=0:=by
  rw[WE (c:=F9 (bT (f k) 1 4) k) hr (.inr rfl) ⟨⟨by show(1:Int)≤3;omega,by show(3:Int)≤1000;omega⟩,by show(1:Int)≤(k:Int)+1;omega,by show(k:Int)+1≤bZ;unfold bZ;omega⟩ (by rw[h1];rfl) (by rw[h2];rfl)];exact hok
 have hn:rU f (k+1)=(eD 2 (rU f k) (F9 (bT (f k) 1 4) k)).1:=rfl
 cases hwr:gL (bT (f k) 1 4).op with
 |false=>
  have e:=Qa hw (show gL (F9 (bT (f k) 1 4) k).op=false from hwr);refine⟨(bO (rU f k).table (bT (f k) 1 4).op).2,?_,?_⟩
  ·rw[hn,e];rfl
  ·rw[hn,e];exact Prod.ext (aoc hok hwr) rfl
 |true=>
  rcases Zo hw (show gL (F9 (bT (f k) 1 4) k).op=true from hwr) (fun d hd=>by have:=ahP f k d (KX hd).1;show d.id<(k:Int)+1;omega) h3 with⟨h8,_⟩|⟨u,_,_,e⟩
  ·have:=ahQ f k;omega
  ·refine⟨(bO (rU f k).table (bT (f k) 1 4).op).2,?_,?_⟩
   ·rw[hn,e];rfl
   ·rw[hn,e];rfl
end Go.Proofs.YtodaapcohdpenaaGreat
