-- eB
import Derived.Test.YtodaapcohdpenaaGreatShLawMath
namespace Go.Proofs.YtodaapcohdpenaaGreat
open Go.RowKit
set_option linter.unusedVariables false
theorem aob {t:List au} {o:aX} (h:gL o=false):(bO t o).1=t:=by
 have hk:¬(2≤o.kind∧o.kind≤5):=fun hk=>by rw[show gL o=true by unfold gL;simp;exact hk]at h;cases h
 unfold bO;split
 ·rfl
 ·split
  ·rfl
  ·split
   ·omega
   ·split
    ·omega
    ·split
     ·rfl
     ·split
      ·rfl
      ·rename_i hc h1 h2 h3 _ _ _ h5;have:=(Nr (Classical.not_not.1 hc).2).1;omega
def nK (c:iM) (k:Int):iM:=⟨c.fZ,c.epoch,c.client,c.id,{ c.op with kind:=k }⟩
def WB (c:iM) (k:Int):iM:=⟨c.fZ,k,c.client,c.id,c.op⟩
def N_ (c:iM) (k:Int):iM:=⟨k,c.epoch,c.client,c.id,c.op⟩
theorem arQ {s:ShR} (h:fq s) (a:Nat→Int) {k x:Int} (hk:k=1∨k=6) (hx:0≤x):
  eD 1 s (nK (bT a s.id s.epoch) k)=(s,(bO s.table (nK (bT a s.id s.epoch) k).op).2,false)∧
  bO s.table (nK (bT a s.id s.epoch) k).op=(s.table,(bO s.table (nK (bT a s.id s.epoch) k).op).2)∧
  eD 2 s (WB (nK (bT a s.id s.epoch) k) (s.epoch+1+x))=(s,gK 80,false)∧
  eD 2 s (N_ (nK (bT a s.id s.epoch) k) (s.id+1+x))=(s,gK 83,false):=by
 have hg:=MI a s.id s.epoch;have hgc:iN (bT a s.id s.epoch).client (bT a s.id s.epoch).id:=⟨⟨hg.1,by have:=hg.2.1;omega⟩,hg.2.2.1,by have:=hg.2.2.2;unfold bZ;omega⟩;have hwf:gL (nK (bT a s.id s.epoch) k).op=false:=by
  unfold gL nK;rcases hk with rfl|rfl<;>rfl
 have hr:=aob (t:=s.table) hwf;have e1:iE 1 s (nK (bT a s.id s.epoch) k)=dY 1 (nK (bT a s.id s.epoch) k).op:=WE (c:=nK (bT a s.id s.epoch) k) h (.inl rfl) hgc rfl rfl;refine⟨?_,?_,?_,?_⟩
 ·by_cases hb:qY 1 (nK (bT a s.id s.epoch) k).op
  ·have hc:dY 1 (nK (bT a s.id s.epoch) k).op=1:=by unfold dY;rw[if_pos hb]
   have hb2:qY 2 (nK (bT a s.id s.epoch) k).op:=hb.elim (fun hn=>absurd (.inl rfl) hn) .inr;have hc2:dY 2 (nK (bT a s.id s.epoch) k).op=1:=by unfold dY;rw[if_pos hb2]
   rw[Mx (by rw[e1,hc];omega),e1,hc];have:bO s.table (nK (bT a s.id s.epoch) k).op=(s.table,gK 1):=by unfold bO;rw[if_pos (fun hn=>by rw[hc2]at hn;exact absurd hn.2 (by omega))]
   rw[this]
  ·have hc:dY 1 (nK (bT a s.id s.epoch) k).op=0:=by
    unfold dY;rw[if_neg hb,if_neg (fun hn=>?_)];have:k=5:=hn.2;rcases hk with rfl|rfl<;>omega
   exact Qa (by rw[e1,hc]) hwf
 ·exact Prod.ext hr rfl
 ·have:iE 2 s (WB (nK (bT a s.id s.epoch) k) (s.epoch+1+x))=80:=by
   unfold iE;rw[if_neg (fun hn=>hn ⟨h,.inr rfl,hgc⟩),if_neg (fun hn=>hn rfl),if_pos (show(WB (nK (bT a s.id s.epoch) k) (s.epoch+1+x)).epoch≠s.epoch from by show s.epoch+1+x≠s.epoch;omega)]
  rw[Mx (by rw[this];omega),this]
 ·have:iE 2 s (N_ (nK (bT a s.id s.epoch) k) (s.id+1+x))=83:=by
   unfold iE;rw[if_neg (fun hn=>hn ⟨h,.inr rfl,hgc⟩),if_pos (show(N_ (nK (bT a s.id s.epoch) k) (s.id+1+x)).fZ≠s.id from by show s.id+1+x≠s.id;omega)]
  rw[Mx (by rw[this];omega),this]
end Go.Proofs.YtodaapcohdpenaaGreat
