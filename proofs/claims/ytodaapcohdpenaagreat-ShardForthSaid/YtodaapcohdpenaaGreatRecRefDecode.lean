-- eB
import Derived.Test.YtodaapcohdpenaaGreatGRec
import Derived.Test.YtodaapcohdpenaaGreatGRecA
import Derived.Test.YtodaapcohdpenaaGreatGEnc
import Derived.Deep.RegionLaw
import Derived.BigRegion
namespace Go.Proofs.YtodaapcohdpenaaGreat
open Go.RowKit
theorem abf {w:World} {base:Nat} {e:TypeId} {sz n:Nat} {v:Value} {xs:List Value} (h:w.ownsRow base e sz v n xs):∃A cap,v= .slice A n cap:=by
 rcases h.2 with⟨hv,h0⟩|⟨g,cap,cur,hv,_⟩
 ·exact⟨none,0,by rw[hv,h0]⟩
 ·exact⟨_,cap,hv⟩
theorem atW {w:World} {ops:Array Oper} {o:Oper} {a:Act} {K:Act→World→Prop} {Q:Exit→Act→World→Prop} {E:Prop} (hgd:o.guard=none) (s x:Operand)
  (ho:o.op= .call { callee:=.builtin .append,args:=#[s,x],argTypes:=#[66,66] })
  (base:Nat) (v:Value) (fs:List aT) (hs:a.eval s=v) (hown:w.ownsRow base 65 2 v fs.length (iP fs))
  (b c:Nat) (t:Int) (d:ByteArray) (hx:a.eval x= .slice (some ⟨b,0,none⟩) 1 c) (hf:dh w (some ⟨b,0,none⟩) 1 [(t,d)])
  (h63:fs.length+1≤1000) (hbase:base≤w.heap.size)
  (h:∀A2 cap2 w',w'.ownsRow base 65 2 (.slice A2 (fs.length+1) cap2) (fs.length+1) (iP (fs++[(t,d)]))→w.grownBy w' v.ownBlock→K (a.put o.dst (.slice A2 (fs.length+1) cap2)) w'):
  if Region.wanted o (yielded ops a.tmps)=true then Oper.wp Tryz.prog o a w K Q else E:=by
 obtain⟨i0,hi,hz0,hz1,hz2⟩:=info_parts Rq;have hw:Region.wanted o (yielded ops a.tmps)=true:=by simp[Region.wanted,hgd]
 rw[if_pos hw];obtain⟨_,_,_,hat⟩:=hf;obtain⟨b',off,hA,hb,hat⟩:=hat (by omega);simp only[Option.some.injEq,Addr.mk.injEq,and_true]at hA;obtain⟨rfl,rfl⟩:=hA;obtain⟨v',w',hr,h2,h3,h4,h5⟩:=run_append_own_at (P:=Tryz.prog) w base 66 o.type 65 i0 (.agg #[.int .i64 0,.string ⟨#[]⟩]) 2 24 Tryz.underlying66 hi hz0 hz1 hz2 rfl (by decide) v fs.length _ hown ⟨b,0,none⟩ 1 c (iP [(t,d)]) (by rw[MP];rfl) (UL hat) (UM _) (by unfold maxLen;omega) (by omega) hbase;obtain⟨A2,cap2,rfl⟩:=abf h2;unfold Oper.wp execOp;simp only[ho,resolve,invoke,builtin,Sem.run_bind,Sem.run_pure,Result.andThen_ok,List.map_toArray,List.map_cons,List.map_nil,hs,hx,hr];exact h _ _ w' (by rw[Qg];exact h2) h3
end Go.Proofs.YtodaapcohdpenaaGreat
