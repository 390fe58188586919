-- eB
import Derived.Test.YtodaapcohdpenaaGreatGTabE
import Derived.Test.YtodaapcohdpenaaGreatGShM
namespace Go.Proofs.YtodaapcohdpenaaGreat
open Go.RowKit
set_option linter.unusedVariables false
theorem asJ {n:Nat} {A:Option Addr} {w:World} {t:List au} (h:gW w A n t) (o:aX):∀s∈(bO t o).2.keys,s.size≤maxLen:=by
 by_cases hr:iO t
 ·intro s hs;have:=((Qo hr o).1 s hs);unfold maxLen;omega
 ·intro s hs;unfold bO at hs;rw[if_pos (fun hn=>hr hn.1)]at hs
  cases hs
theorem aha {t u:List au} {o:aX} {r:dx} (h:bO t o=(u,r)) (ho:Bo o) {A:Option Addr} {n cap:Nat} {w:World} (hts:gW w A n t) (hn:n*88≤140737488351232):
  Calls Tryz.prog 27 #[.slice A n cap,gU o] w (WI w u r):=by
 have hk:=asJ hts o;have q:=ahb t o A n cap w hts hn ho;refine q.mono ?_;rintro e W ⟨v,l,K,rfl,hr,hm,hx,hK,hb⟩;rw[h]at hm hK hk ⊢;obtain⟨A2,cap2,rfl,hc,af3⟩:=hr.BF hx;obtain⟨Ak,ck,rfl,hck,hss⟩:=hK.wK hk;rw[hm]at af3;exact⟨A2,_,cap2,Ak,_,ck,rfl,hc,af3,hck,hss,hb⟩
end Go.Proofs.YtodaapcohdpenaaGreat
