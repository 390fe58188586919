-- eB
import Derived.Test.YtodaapcohdpenaaGreatGShM
import Derived.Test.YtodaapcohdpenaaGreatGTabE
namespace Go.Proofs.YtodaapcohdpenaaGreat
set_option linter.unusedVariables false
def bT (a:Nat→Int) (id epoch:Int):iM:=⟨id,epoch,1+(f_ (a 5) 4:Nat),1+(f_ (a 6) 30:Nat),kZ a⟩
def iG (c:iM) (i:Int):iM:=⟨c.fZ,c.epoch,c.client,i,c.op⟩
noncomputable def vH (i0:ShR) (f:Nat→Nat→Int):Nat→ShR
 |0=>i0
 |k+1=>(eD 2 (vH i0 f k) (iG (bT (f k) i0.id i0.epoch) (1+((f_ (f k 6) 30:Nat):Int)+(k:Int)))).1
def qI (x y:Int):ShR:=⟨(f_ x 8:Nat),1+((f_ y 200:Nat):Int),false,[],[]⟩
noncomputable def gJ (x y:Int) (fz:Bool) (f:Nat→Nat→Int) (n:Nat):ShR:=
 { vH (qI x y) f (min n 30)with table:=nJ 0 (vH (qI x y) f (min n 30)).table (vH (qI x y) f (min n 30)).table.length,frozen:=fz }
theorem ahK (x y:Int):fq (qI x y):=by
 have h1:=uz x 8 (by omega);have h2:=uz y 200 (by omega);refine⟨RZ,Nz,⟨by show(0:Int)≤((f_ x 8:Nat):Int);omega,by show((f_ x 8:Nat):Int)≤7;omega⟩,by show(1:Int)≤1+((f_ y 200:Nat):Int);omega,by show 1+((f_ y 200:Nat):Int)≤bZ;unfold bZ;omega⟩
theorem abL {i0:ShR} (h:fq i0) (f:Nat→Nat→Int):∀k,fq (vH i0 f k)
 |0=>h
 |k+1=>Zp (abL h f k)
theorem ahJ (i0:ShR) (f:Nat→Nat→Int):∀k,(vH i0 f k).id=i0.id∧(vH i0 f k).epoch=i0.epoch∧(vH i0 f k).frozen=i0.frozen
 |0=>⟨rfl,rfl,rfl⟩
 |k+1=>by
  obtain⟨h1,h2,h3⟩:=ahJ i0 f k;obtain⟨a,b,c⟩:=ad_ (v:=2) (s:=vH i0 f k) (c:=(iG (bT (f k) i0.id i0.epoch) (1+((f_ (f k 6) 30:Nat):Int)+(k:Int))));exact⟨a.trans h1,b.trans h2,c.trans h3⟩
theorem ahI (x y:Int) (f:Nat→Nat→Int):∀k,∀d∈(vH (qI x y) f k).cache,d.id≤30+(k:Int)
 |0=>fun d hd=>nomatch hd
 |k+1=>by
  have h:=ahI x y f k;have hp:=uz (f k 6) 30 (by omega);refine ad9 (fun d hd=>?_) ?_
  ·have:=h d hd;omega
  ·show 1+((f_ (f k 6) 30:Nat):Int)+(k:Int)≤_;omega
theorem al7 {v:Int} {s:ShR} {c:iM} {b:Int} (h:∀d∈s.cache,d.client≤b) (hc:c.client≤b):∀d∈(eD v s c).1.cache,d.client≤b:=by
  unfold eD
  repeat' split
  all_goals first
    |exact h
    |(
     intro d hd;simp only at hd;unfold fV at hd;split at hd
     · cases hd
     · split at hd
       · cases hd
       · split at hd
         · cases hd
         · rcases K7.1 hd with rfl|h2
           · exact hc
           · exact h d h2.1)
theorem ahG (x y:Int) (f:Nat→Nat→Int):∀k,∀d∈(vH (qI x y) f k).cache,d.client≤4
 |0=>fun d hd=>nomatch hd
 |k+1=>by
  have hp:=uz (f k 5) 4 (by omega);exact al7 (ahG x y f k) (by show 1+((f_ (f k 5) 4:Nat):Int)≤4;omega)
theorem aht {l:List aF} (h:lF l) (h1:∀d∈l,1≤d.client):∀i,i<l.length→(i:Int)+1≤(bg l i).client
 |0,hi=>h1 _ (yL hi)
 |i+1,hi=>by
  have h2:=aht h h1 i (by omega);have h3:=Ey h (i:=i) (j:=i+1) (by omega) hi;omega
theorem anu {l:List aF} (h:j4 l) {b:Nat} (hb:∀d∈l,d.client≤(b:Int)):l.length≤b:=by
 rcases Nat.eq_zero_or_pos l.length with h0|hp
 ·omega
 ·have h1:=aht h.2.1 (fun d hd=>(h.1 d hd).2.1.1) (l.length-1) (by omega);have h2:=hb _ (yL (l:=l) (i:=l.length-1) (by omega));omega
theorem Jq (x y:Int) (fz:Bool) (f:Nat→Nat→Int) (n:Nat):fq (gJ x y fz f n):=by
 have h:=abL (ahK x y) f (min n 30);exact⟨ah3 h.1 _ (Nat.le_refl _),h.2.1,h.2.2⟩
theorem abN (x y:Int) (fz:Bool) (f:Nat→Nat→Int) (n:Nat):∀d∈(gJ x y fz f n).cache,d.id≤60∧d.client≤4:=fun d hd=>by
 have h1:=ahI x y f (min n 30) d hd;have h2:=ahG x y f (min n 30) d hd;have h3:((min n 30:Nat):Int)≤30:=by omega
 exact⟨by omega,h2⟩
theorem atr (x y:Int) (fz:Bool) (f:Nat→Nat→Int) (n:Nat):(gJ x y fz f n).cache.length≤4:=anu (Jq x y fz f n).2.1 fun d hd=>(abN x y fz f n d hd).2
theorem att (x y:Int) (fz:Bool) (f:Nat→Nat→Int) (n:Nat):(gJ x y fz f n).frozen=fz:=rfl
theorem MI (a:Nat→Int) (id epoch:Int):1≤(bT a id epoch).client∧(bT a id epoch).client≤4∧1≤(bT a id epoch).id∧(bT a id epoch).id≤30:=by
 have h1:=uz (a 5) 4 (by omega);have h2:=uz (a 6) 30 (by omega);refine⟨?_,?_,?_,?_⟩
 ·show(1:Int)≤1+((f_ (a 5) 4:Nat):Int);omega
 ·show 1+((f_ (a 5) 4:Nat):Int)≤4;omega
 ·show(1:Int)≤1+((f_ (a 6) 30:Nat):Int);omega
 ·show 1+((f_ (a 6) 30:Nat):Int)≤30;omega
theorem ab9 {s:ShR} (h:fq s) (a:Nat→Int) {i:Int} (hi:1≤i∧i≤5000):iE 2 s (iG (bT a s.id s.epoch) i)=0:=by
 have hg:=MI a s.id s.epoch;rw[WE (c:=iG (bT a s.id s.epoch) i) h (.inr rfl) ⟨⟨hg.1,by show(bT a s.id s.epoch).client≤1000;omega⟩,by show 1≤i;omega,by show i≤bZ;unfold bZ;omega⟩ rfl rfl];exact agP a
end Go.Proofs.YtodaapcohdpenaaGreat
