-- eB
import Derived.Test.YtodaapcohdpenaaGreatGSq
import Derived.Test.YtodaapcohdpenaaGreatGRec
import Derived.Test.YtodaapcohdpenaaGreatGMath
import Derived.Deep.Onto
import Derived.Test.YtodaapcohdpenaaGreatRecRefDecode
import Derived.Deep.RegionHeld3
import Derived.Deep.DeepCutAuto
import Derived.Deep.RegionLaw
import Derived.BigRegion
namespace Go.Proofs.YtodaapcohdpenaaGreat
open Go.RowKit
set_option maxHeartbeats 4000000
set_option maxRecDepth 100000
theorem Wh {P:Program} {w:World} {xT t:TypeId} {v:Value} (h:P.concrete t=true):(Instr.typeAssert (.iface t v) xT t true).run P w= .ok (.tuple #[v,.bool true]) w:=by
 unfold Program.concrete at h
 cases hd:P.underlying t with
 |none=>simp[hd]at h
 |some d=>cases d<;>first|(simp[hd]at h;done)|simp[Instr.typeAssert,run_underlying hd]
theorem NT {P:Program} {w:World} {xT t a:TypeId} {v z:Value} (h:P.concrete a=true) (hne:t≠a) (hz:(zeroValue a).run P w= .ok z w):(Instr.typeAssert (.iface t v) xT a true).run P w= .ok (.tuple #[z,.bool false]) w:=by
 unfold Program.concrete at h
 cases hd:P.underlying a with
 |none=>simp[hd]at h
 |some d=>cases d<;>first|(simp[hd]at h;done)|simp[Instr.typeAssert,run_underlying hd,hne,hz]
theorem acd (w:World):(zeroValue 210).run Tryz.prog w= .ok (.int .i64 0) w:=by kernel_rfl
theorem aio (w:World):(zeroValue 211).run Tryz.prog w= .ok (.string ⟨#[]⟩) w:=by kernel_rfl
theorem au8 (w:World):(zeroValue 65).run Tryz.prog w= .ok (.agg #[.int .i64 0,.string ⟨#[]⟩]) w:=by kernel_rfl
@[go_sem] theorem avY (v:Value) (w:World):(Instr.typeAssert (.iface 210 v) 202 210 true).run Tryz.prog w= .ok (.tuple #[v,.bool true]) w:=Wh (by kernel_rfl)
@[go_sem] theorem avZ (v:Value) (w:World):(Instr.typeAssert (.iface 211 v) 202 210 true).run Tryz.prog w= .ok (.tuple #[.int .i64 0,.bool false]) w:=NT (by kernel_rfl) (by decide) (acd w)
@[go_sem] theorem avW (v:Value) (w:World):(Instr.typeAssert (.iface 65 v) 202 210 true).run Tryz.prog w= .ok (.tuple #[.int .i64 0,.bool false]) w:=NT (by kernel_rfl) (by decide) (acd w)
@[go_sem] theorem avT (v:Value) (w:World):(Instr.typeAssert (.iface 40 v) 202 210 true).run Tryz.prog w= .ok (.tuple #[.int .i64 0,.bool false]) w:=NT (by kernel_rfl) (by decide) (acd w)
@[go_sem] theorem av0 (v:Value) (w:World):(Instr.typeAssert (.iface 211 v) 202 211 true).run Tryz.prog w= .ok (.tuple #[v,.bool true]) w:=Wh (by kernel_rfl)
@[go_sem] theorem avX (v:Value) (w:World):(Instr.typeAssert (.iface 65 v) 202 211 true).run Tryz.prog w= .ok (.tuple #[.string ⟨#[]⟩,.bool false]) w:=NT (by kernel_rfl) (by decide) (aio w)
@[go_sem] theorem avU (v:Value) (w:World):(Instr.typeAssert (.iface 40 v) 202 211 true).run Tryz.prog w= .ok (.tuple #[.string ⟨#[]⟩,.bool false]) w:=NT (by kernel_rfl) (by decide) (aio w)
@[go_sem] theorem avV (v:Value) (w:World):(Instr.typeAssert (.iface 65 v) 202 65 true).run Tryz.prog w= .ok (.tuple #[v,.bool true]) w:=Wh (by kernel_rfl)
@[go_sem] theorem avS (v:Value) (w:World):(Instr.typeAssert (.iface 40 v) 202 65 true).run Tryz.prog w= .ok (.tuple #[.agg #[.int .i64 0,.string ⟨#[]⟩],.bool false]) w:=NT (by kernel_rfl) (by decide) (au8 w)
@[go_sem] theorem avR (v:Value) (w:World):(Instr.typeAssert (.iface 40 v) 202 40 true).run Tryz.prog w= .ok (.tuple #[v,.bool true]) w:=Wh (by kernel_rfl)
def sO (t:Int) (d:ByteArray):Value:=
 if t=4 then(if okD 4 d then .iface 210 (.int .i64 (jM d.data.toList))else .iface 40 (.int .i64 21))
 else if t=5 then(if okD 5 d then .iface 211 (.string d)else .iface 40 (.int .i64 21))
 else .iface 65 (.agg #[.int .i64 t,.string d])
theorem Jj {a b:Value} (h:a=b):Ending.returned a= .returned b:=by rw[h]
theorem amU (t:Int) (d:ByteArray) (hd:d.size≤maxLen) (w:World):
  Calls Tryz.prog 198 #[.agg #[.int .i64 t,.string d]] w fun e w'=>e= .returned (sO t d)∧Below w.heap.size w w':=by
 have hb0:Below w.heap.size w (w.alloc (.cells #[.int .i64 t,.string d] 65)):=ak _ _;have hx:=World.alloc_heap_new w (.cells #[.int .i64 t,.string d] 65);have hz:w.heap.size<(w.alloc (.cells #[.int .i64 t,.string d] 65)).heap.size:=by simp
 by_cases h4:t=4
 ·subst h4;have hp:=R_ d hd (w.alloc (.cells #[.int .i64 4,.string d] 65));have he:=NU d.data.toList;have HB:Hid (sO 4 d=if okD 4 d then .iface 210 (.int .i64 (jM d.data.toList))else .iface 40 (.int .i64 21)):=by show _=_;unfold sO;rw[if_pos rfl]
  have HO:=ah (RL d);have hl:d.data.toList.length=d.size:=by simp
  obtain⟨W,hW⟩:=aQ (jM d.data.toList);rw[hW]at HB HO;unfold jM at hW;rw[hl]at hW;clear hl;unfold maxLen at hd;generalize(bY d.data.toList).1=n at*;generalize(bY d.data.toList).2.1=k at*;generalize(bY d.data.toList).2.2=x at*;have HW:=ah hW;clear hW;rcases he with rfl|rfl|rfl
  ·by_cases hk:k=d.size
   ·have hn:W=n:=by have:=HW.out;rw[if_pos ⟨rfl,hk⟩]at this;exact this.symm
    subst hn;have e1:((k:Int) != (d.size:Int))=false:=by simp;omega
    clear hk
    by_cases h0:W=0
    ·have HE:Hid (okD 4 d=false):=by show _=_;rw[Bool.eq_false_iff];intro h;have:=HO.out.1 h;omega
     subst h0;go_enter Tryz.func198,Tryz.ntmps198;go_wp2_with fail
     ((with_reducible refine hp.mono ?_);rintro e w1 ⟨rfl,b1⟩)
     have c1:=(b1.cell (p:=⟨w.heap.size,1,none⟩) hz).trans (bJ hx 1);go_wp2_with fail;go_ret;exact⟨Jj (by rw[HB.out,HE.out];rfl),aA hb0 b1⟩
    ·have HE:Hid (okD 4 d=true):=HO.out.2 (by omega);have e2:((W:Int)==0)=false:=by simp;omega
     clear h0;go_enter Tryz.func198,Tryz.ntmps198;go_wp2_with fail
     ((with_reducible refine hp.mono ?_);rintro e w1 ⟨rfl,b1⟩)
     have c1:=(b1.cell (p:=⟨w.heap.size,1,none⟩) hz).trans (bJ hx 1);go_wp2_with fail;go_ret;exact⟨Jj (by rw[HB.out,HE.out];rfl),aA hb0 b1⟩
   ·have HE:Hid (okD 4 d=false):=by show _=_;rw[Bool.eq_false_iff];intro h;have:=HO.out.1 h;have h2:=HW.out;rw[if_neg (fun h=>hk h.2)]at h2;omega
    have e1:((k:Int) != (d.size:Int))=true:=by simp;omega
    clear hk;go_enter Tryz.func198,Tryz.ntmps198;go_wp2_with fail
    ((with_reducible refine hp.mono ?_);rintro e w1 ⟨rfl,b1⟩)
    have c1:=(b1.cell (p:=⟨w.heap.size,1,none⟩) hz).trans (bJ hx 1);go_wp2_with fail;go_ret;exact⟨Jj (by rw[HB.out,HE.out];rfl),aA hb0 b1⟩
  all_goals
   have HE:Hid (okD 4 d=false):=by show _=_;rw[Bool.eq_false_iff];intro h;have:=HO.out.1 h;have h2:=HW.out;rw[if_neg (fun h=>by omega)]at h2;omega
   go_enter Tryz.func198,Tryz.ntmps198;go_wp2_with fail
   ((with_reducible refine hp.mono ?_);rintro e w1 ⟨rfl,b1⟩)
   have c1:=(b1.cell (p:=⟨w.heap.size,1,none⟩) hz).trans (bJ hx 1);go_wp2_with fail;go_ret;exact⟨Jj (by rw[HB.out,HE.out];rfl),aA hb0 b1⟩
 ·by_cases h5:t=5
  ·subst h5;have HB:Hid (sO 5 d=if okD 5 d then .iface 211 (.string d)else .iface 40 (.int .i64 21)):=by show _=_;unfold sO;rw[if_neg (by decide),if_pos rfl]
   have HO:=ah (RN d);unfold maxLen at hd;clear hx hz h4
   by_cases h0:d.size=0
   ·have HE:Hid (okD 5 d=false):=by show _=_;rw[Bool.eq_false_iff];intro h;have:=HO.out.1 h;omega
    have e0:=(pX d).2 h0;clear h0;go_enter Tryz.func198,Tryz.ntmps198;go_wp2_with fail;go_ret;exact⟨Jj (by rw[HB.out,HE.out];rfl),hb0⟩
   ·have e0:=Wp h0
    by_cases h40:d.size≤40
    ·have HE:Hid (okD 5 d=true):=HO.out.2 ⟨by omega,h40⟩;clear h0;go_enter Tryz.func198,Tryz.ntmps198;go_wp2_with fail;go_ret;exact⟨Jj (by rw[HB.out,HE.out];rfl),hb0⟩
    ·have HE:Hid (okD 5 d=false):=by show _=_;rw[Bool.eq_false_iff];intro h;have:=HO.out.1 h;omega
     clear h0;go_enter Tryz.func198,Tryz.ntmps198;go_wp2_with fail;go_ret;exact⟨Jj (by rw[HB.out,HE.out];rfl),hb0⟩
  ·have HB:Hid (sO t d= .iface 65 (.agg #[.int .i64 t,.string d])):=by show _=_;unfold sO;rw[if_neg h4,if_neg h5]
   have e4:(t==4)=false:=by simpa using h4
   have e5:(t==5)=false:=by simpa using h5
   clear hx hz h4 h5;go_enter Tryz.func198,Tryz.ntmps198;go_wp2_with fail;go_ret;exact⟨Jj (by rw[HB.out];rfl),hb0⟩
theorem aeN (b:Nat) (n:Int) (w:World):
  Calls Tryz.prog 197 #[.pointer (some ⟨b,0,none⟩),.iface 40 (.int .i64 n)] w fun e w'=>e= .returned (.int .i64 n)∧w=w':=by
 go_enter Tryz.func197,Tryz.ntmps197;go_wp2_with fail;go_ret;exact⟨rfl,rfl⟩
theorem anV (b:Nat) (r:au) (x:Value) (n:Int) (w:World) (h:cO w b r x):
  Calls Tryz.prog 197 #[.pointer (some ⟨b,0,none⟩),.iface 210 (.int .i64 n)] w fun e w'=>e= .returned (.int .i64 0)∧w'=w.setCell ⟨b,3,none⟩ (.int .i64 n):=by
 have c3:=h.cells.2.2.2.1;have f3:=h.frozen 3;have hl:=fF h;clear h;go_enter Tryz.func197,Tryz.ntmps197;go_wp2_with fail;go_ret;exact⟨rfl,rfl⟩
theorem anW (b:Nat) (r:au) (x:Value) (s:ByteArray) (w:World) (h:cO w b r x):
  Calls Tryz.prog 197 #[.pointer (some ⟨b,0,none⟩),.iface 211 (.string s)] w fun e w'=>e= .returned (.int .i64 0)∧w'=w.setCell ⟨b,4,none⟩ (.string s):=by
 have c4:=h.cells.2.2.2.2.1;have f4:=h.frozen 4;have hl:=fF h;clear h;go_enter Tryz.func197,Tryz.ntmps197;go_wp2_with fail;go_ret;exact⟨rfl,rfl⟩
def alO (w:World) (fs:List aT) (e:Ending) (w':World):Prop:=
 ∃A cap,e= .returned (.slice A fs.length cap)∧w'.ownsRow w.heap.size 65 2 (.slice A fs.length cap) fs.length (iP fs)∧kP fs∧Below w.heap.size w w'
theorem wf4:(Lit.int .i64 4).wf=true:=by decide
theorem wf5:(Lit.int .i64 5).wf=true:=by decide
theorem aoZ:kP []:=fun f hf=>by cases hf
theorem aqJ {n:Int} (h:n≠0):(iJ n).size≠0:=fun h2=>h (Jf.1 h2)
theorem amR (r:au) (x:Value) (h1:0≤r.life) (h2:r.life≤9007199254740992) (hs:r.note.size≤9223372036854775807) (w:World):
  Calls Tryz.prog 199 #[iL r x] w (alO w (opt 4 (ob (iJ r.life))++opt 5 (ob r.note))):=by
 have z4:=RG h1 h2;obtain⟨key,value,rev,life,note,extra⟩:=r;simp only at*;have hb0:Below w.heap.size w (w.alloc (.cells #[.string key,.string value,.int .i64 rev,.int .i64 life,.string note,x] 68)):=ak _ _;have hx:=World.alloc_heap_new w (.cells #[.string key,.string value,.int .i64 rev,.int .i64 life,.string note,x] 68);have hz:w.heap.size<(w.alloc (.cells #[.string key,.string value,.int .i64 rev,.int .i64 life,.string note,x] 68)).heap.size:=by simp
 have g4:=bJ hx 4;clear hx
 by_cases h0:life=0
 ·have fA:Hid (opt 4 (ob (iJ life))=[]):=Vs (Jf.2 h0);subst h0
  by_cases h5:note.size=0
  ·have gq:Hid (opt 5 (ob note)=[]):=Vs h5;have e5:=(pX _).2 h5;clear h5;go_enter Tryz.func199,Tryz.ntmps199;go_wp2_with fail;go_ret;rw[fA.out,gq.out];exact⟨none,0,rfl,World.ownsRow_nil _ _ _ _,aoZ,hb0⟩
  ·have gq:Hid (opt 5 (ob note)=[(5,note)]):=Vt h5;have e5:=Wp h5;clear h5;have hwf:kP [(5,note)]:=fun f hf=>by rw[List.mem_singleton]at hf;subst hf;exact⟨wf5,hs⟩
   have hb1:=hb0.alloc hb0.size (.cells #[.int .i64 5,.string note] 65);have hown:((w.alloc (.cells #[.string key,.string value,.int .i64 rev,.int .i64 0,.string note,x] 68)).alloc (.cells #[.int .i64 5,.string note] 65)).ownsRow w.heap.size 65 2 (.slice none 0 0) ([]:List aT).length (iP []):=World.ownsRow_nil _ _ _ _;have hone:dh ((w.alloc (.cells #[.string key,.string value,.int .i64 rev,.int .i64 0,.string note,x] 68)).alloc (.cells #[.int .i64 5,.string note] 65)) (some ⟨(w.alloc (.cells #[.string key,.string value,.int .i64 rev,.int .i64 0,.string note,x] 68)).heap.size,0,none⟩) 1 [(5,note)]:=by
    have hx:=World.alloc_heap_new (w.alloc (.cells #[.string key,.string value,.int .i64 rev,.int .i64 0,.string note,x] 68)) (.cells #[.int .i64 5,.string note] 65);exact Nh (bJ hx 0) (bJ hx 1) (by decide) hs
   have hsz:(w.alloc (.cells #[.string key,.string value,.int .i64 rev,.int .i64 0,.string note,x] 68)).heap.size=w.heap.size+1:=by simp
   rw[hsz]at hone;clear hsz;go_enter Tryz.func199,Tryz.ntmps199;go_wp2_with (at_builtin;refine Lj rfl _ _ rfl w.heap.size _ [] rfl hown (some ⟨w.heap.size+1,0,none⟩) 1 1 [(5,note)] rfl hone (by simp) hb1.size ?_);intro v' w2 hown2 hgrow;obtain⟨A2,cap2,hv,hcap2,_⟩:=sV hown2 hwf;subst hv;have hbw:Below w.heap.size w w2:=hb1.grown hgrow hb1.size (fun g hg=>by simp[Value.ownBlock]at hg);go_wp2_with fail;go_ret;rw[fA.out,gq.out];exact⟨A2,cap2,rfl,hown2,hwf,hbw⟩
 ·have fA:Hid (opt 4 (ob (iJ life))=[(4,iJ life)]):=Vt (aqJ h0);have hp:=Vz life h1 h2 (w.alloc (.cells #[.string key,.string value,.int .i64 rev,.int .i64 life,.string note,x] 68));rw[←agK h0]at hp;have e0:(life != 0)=true:=by simpa using h0
  clear h0;generalize iJ life=D at*;have aaW:kP [(4,D)]:=fun f hf=>by rw[List.mem_singleton]at hf;subst hf;exact⟨wf4,by show D.size≤_;omega⟩
  go_enter Tryz.func199,Tryz.ntmps199;go_wp2_with fail
  ((with_reducible refine hp.mono ?_);rintro e w1 ⟨rfl,b1⟩)
  have g4:=(b1.cell (p:=⟨w.heap.size,4,none⟩) hz).trans g4;have hb1:=aA hb0 b1;have hz1:w.heap.size<w1.heap.size:=by have:=b1.size;omega
  have hb2:=hb1.alloc hb1.size (.cells #[.int .i64 4,.string D] 65);have hown:(w1.alloc (.cells #[.int .i64 4,.string D] 65)).ownsRow w1.heap.size 65 2 (.slice none 0 0) ([]:List aT).length (iP []):=World.ownsRow_nil _ _ _ _;have hone:dh (w1.alloc (.cells #[.int .i64 4,.string D] 65)) (some ⟨w1.heap.size,0,none⟩) 1 [(4,D)]:=by
   have hx:=World.alloc_heap_new w1 (.cells #[.int .i64 4,.string D] 65);exact Nh (bJ hx 0) (bJ hx 1) (by decide) (by omega)
  have g4:=((Below.refl w1.heap.size w1).alloc (Nat.le_refl _) (.cells #[.int .i64 4,.string D] 65)).cell (p:=⟨w.heap.size,4,none⟩) hz1 |>.trans g4;clear b1 hb0 hp;go_wp2_with (at_builtin;refine Lj rfl _ _ rfl w1.heap.size _ [] rfl hown (some ⟨w1.heap.size,0,none⟩) 1 1 [(4,D)] rfl hone (by simp) (by simp) ?_);intro v' w2 hown2 hgrow;obtain⟨A2,cap2,hv,hcap2,_⟩:=sV hown2 aaW;subst hv;have hbw:Below w.heap.size w w2:=hb2.grown hgrow hb2.size (fun g hg=>by simp[Value.ownBlock]at hg);have hs2:w1.heap.size≤w2.heap.size:=by have:=hgrow.size;simp at this;omega
  have g4:w2.cell? ⟨w.heap.size,4,none⟩=some (.string note):=Eq.trans (World.cell?_of_block (a:=⟨w.heap.size,4,none⟩) (hgrow.block w.heap.size (by simp;omega) (by simp[Value.ownBlock]))) g4;clear hone hown hgrow hb1 hb2
  by_cases h5:note.size=0
  ·have gq:Hid (opt 5 (ob note)=[]):=Vs h5;have e5:=(pX _).2 h5;clear h5;go_wp2_with fail;go_ret;rw[fA.out,gq.out];exact⟨A2,cap2,rfl,hown2.mono (by omega),aaW,hbw⟩
  ·have gq:Hid (opt 5 (ob note)=[(5,note)]):=Vt h5;have e5:=Wp h5;clear h5;have af6:kP ([(4,D)]++[(5,note)]):=aaW.append (fun f hf=>by rw[List.mem_singleton]at hf;subst hf;exact⟨wf5,hs⟩);have hb3:=hbw.alloc hbw.size (.cells #[.int .i64 5,.string note] 65);have hown3:=hown2.alloc (.cells #[.int .i64 5,.string note] 65);have hone:dh (w2.alloc (.cells #[.int .i64 5,.string note] 65)) (some ⟨w2.heap.size,0,none⟩) 1 [(5,note)]:=by
    have hx:=World.alloc_heap_new w2 (.cells #[.int .i64 5,.string note] 65);exact Nh (bJ hx 0) (bJ hx 1) (by decide) hs
   have bI:=ah hown3.lt;clear hown2;go_wp2_with (at_builtin;refine Lj rfl _ _ rfl w1.heap.size _ [(4,D)] rfl hown3 (some ⟨w2.heap.size,0,none⟩) 1 1 [(5,note)] rfl hone (by simp) (by simp;omega) ?_);intro v' w4 Ai apz;obtain⟨A4,cap4,hv,hcap4,_⟩:=sV Ai af6;subst hv;have Eo:Below w.heap.size w w4:=hb3.grown apz hb3.size (fun g hg=>by have:=(bI.out g hg).1;omega);go_wp2_with fail;go_ret;rw[fA.out,gq.out];exact⟨A4,cap4,rfl,Ai.mono (by omega),af6,Eo⟩
theorem atU {w:World} {ops:Array Oper} {o:Oper} {a:Act} {K:Act→World→Prop} {Q:Exit→Act→World→Prop} {E:Prop} (hgd:o.guard=none) (s x:Operand)
  (ho:o.op= .call { callee:=.builtin .append,args:=#[s,x],argTypes:=#[66,66] })
  (base:Nat) (v:Value) (fs:List aT) (hs:a.eval s=v) (hown:w.ownsRow base 65 2 v fs.length (iP fs))
  (A:Option Addr) (m c:Nat) (gs:List aT) (hx:a.eval x= .slice A m c) (hf:dh w A m gs)
  (h63:fs.length+m≤1000) (hbase:base≤w.heap.size)
  (h:∀A2 cap2 w',w'.ownsRow base 65 2 (.slice A2 (fs++gs).length cap2) (fs++gs).length (iP (fs++gs))→w.grownBy w' v.ownBlock→K (a.put o.dst (.slice A2 (fs++gs).length cap2)) w'):
  if Region.wanted o (yielded ops a.tmps)=true then Oper.wp Tryz.prog o a w K Q else E:=by
 obtain⟨i0,hi,hz0,hz1,hz2⟩:=info_parts Rq;have hw:Region.wanted o (yielded ops a.tmps)=true:=by simp[Region.wanted,hgd]
 rw[if_pos hw];obtain⟨hm,_,_,hat⟩:=hf;rcases Nat.eq_zero_or_pos m with rfl|hp
 ·have hg:gs=[]:=List.eq_nil_of_length_eq_zero hm.symm;subst hg;have hrun:=abB (P:=Tryz.prog) (w:=w) base 66 o.type 65 i0 2 Tryz.underlying66 hi v fs.length _ hown A c;obtain⟨A2,cap2,rfl⟩:=abf hown;unfold Oper.wp execOp;simp only[ho,resolve,invoke,builtin,Sem.run_bind,Sem.run_pure,Result.andThen_ok,List.map_toArray,List.map_cons,List.map_nil,hs,hx,hrun];have h2:=h A2 cap2 w (by simpa using hown) ⟨rfl,rfl,rfl,Nat.le_refl _,fun _ _ _=>rfl⟩;rw[show(fs++([]:List aT)).length=fs.length from by rw[List.append_nil]]at h2;exact h2
 ·obtain⟨b,off,rfl,hb,hat⟩:=hat hp;obtain⟨v',w',hr,h2,h3,h4,h5⟩:=run_append_own_at (P:=Tryz.prog) w base 66 o.type 65 i0 (.agg #[.int .i64 0,.string ⟨#[]⟩]) 2 24 Tryz.underlying66 hi hz0 hz1 hz2 rfl (by decide) v fs.length _ hown ⟨b,off,none⟩ m c (iP gs) (by rw[MP,hm]) (UL hat) (UM gs) (by unfold maxLen;omega) (by omega) hbase;obtain⟨A2,cap2,rfl⟩:=abf h2;unfold Oper.wp execOp;simp only[ho,resolve,invoke,builtin,Sem.run_bind,Sem.run_pure,Result.andThen_ok,List.map_toArray,List.map_cons,List.map_nil,hs,hx,hr];have e:fs.length+m=(fs++gs).length:=by rw[List.length_append,hm]
  rw[e]at h2 ⊢;exact h _ _ w' (by rw[Qg];exact h2) h3
theorem atC {A B:Option Addr} {n m c d:Nat} (h:Value.slice A n c= .slice B m d):c=d:=by cases h;rfl
theorem Wu (w:World) (r:au) (x:Value) {W:World} (hW:(w.alloc (.cells (aC r x) 68)).alloc (.cells z6 68)=W):
  Below w.heap.size w W∧cO W w.heap.size r x∧cO W (w.heap.size+1) dL (.slice none 0 0)∧W.heap.size=w.heap.size+2:=by
 subst hW;refine⟨(ak _ _).alloc (by simp) _,cO.alloc (World.alloc_heap_new w _) _,?_,by simp⟩;have hx:=World.alloc_heap_new (w.alloc (.cells (aC r x) 68)) (.cells z6 68);rw[show(w.alloc (.cells (aC r x) 68)).heap.size=w.heap.size+1 from by simp]at hx;exact hx
theorem Bu {B B2:Nat} {a w:World} (h:Below B a w) (hB:B≤B2) (u0 u1 u2 u3 u4 u5:Value):Below B a ((((((w.setCell ⟨B2,0,none⟩ u0).setCell ⟨B2,1,none⟩ u1).setCell ⟨B2,2,none⟩ u2).setCell ⟨B2,3,none⟩ u3).setCell ⟨B2,4,none⟩ u4).setCell ⟨B2,5,none⟩ u5):=
 (((((h.setCell (p:=⟨B2,0,none⟩) hB _).setCell (p:=⟨B2,1,none⟩) hB _).setCell (p:=⟨B2,2,none⟩) hB _).setCell (p:=⟨B2,3,none⟩) hB _).setCell (p:=⟨B2,4,none⟩) hB _).setCell (p:=⟨B2,5,none⟩) hB _
theorem cell_grown {w w':World} {b j base:Nat} {row:Option Nat} {u:Value} (hc:w.cell? ⟨b,j,none⟩=some u) (hg:w.grownBy w' row) (hrow:∀g,row=some g→base≤g) (hb:b<base):w'.cell? ⟨b,j,none⟩=some u:=
 Eq.trans (World.cell?_of_block (a:=⟨b,j,none⟩) (hg.block b (lt_of_cell (a:=⟨b,j,none⟩) hc) (fun e=>by have:=hrow b e.symm;omega))) hc
theorem cO.grown {w w':World} {b base:Nat} {row:Option Nat} {r:au} {x:Value} (hc:cO w b r x) (hg:w.grownBy w' row) (hrow:∀g,row=some g→base≤g) (hb:b<base):cO w' b r x:=
 hc.kept hg (fun e=>by have:=hrow b e.symm;omega)
theorem MN {w:World} {b b4 j k:Nat} {u v:Value} (hc:w.cell? ⟨b,j,none⟩=some u) (h:b≠b4):(w.setCell ⟨b4,k,none⟩ v).cell? ⟨b,j,none⟩=some u:=
 Eq.trans (World.cell?_of_block (a:=⟨b,j,none⟩) (heap_setCell_other w ⟨b4,k,none⟩ b v h)) hc
theorem cO.setOther {w:World} {b b4 k:Nat} {r:au} {x v:Value} (hc:cO w b r x) (h:b≠b4):cO (w.setCell ⟨b4,k,none⟩ v) b r x:=Eq.trans (heap_setCell_other w ⟨b4,k,none⟩ b v h) hc
theorem an7 {x bz:Nat} {w0 W W':World} {v0 v1 v2 v3 v4 v5 sz:Value} {Z:au}
  (h:W.cell? ⟨x,0,none⟩=some v0∧W.cell? ⟨x,1,none⟩=some v1∧W.cell? ⟨x,2,none⟩=some v2∧W.cell? ⟨x,3,none⟩=some v3∧W.cell? ⟨x,4,none⟩=some v4∧W.cell? ⟨x,5,none⟩=some v5∧cO W bz Z sz∧Below w0.heap.size w0 W) (b:Below W.heap.size W W'):
  W'.cell? ⟨x,0,none⟩=some v0∧W'.cell? ⟨x,1,none⟩=some v1∧W'.cell? ⟨x,2,none⟩=some v2∧W'.cell? ⟨x,3,none⟩=some v3∧W'.cell? ⟨x,4,none⟩=some v4∧W'.cell? ⟨x,5,none⟩=some v5∧cO W' bz Z sz∧Below w0.heap.size w0 W':=by
 obtain⟨h0,h1,h2,h3,h4,h5,h8,h6⟩:=h;have hlt:=lt_of_cell (a:=⟨x,0,none⟩) h0;exact⟨(b.cell (p:=⟨x,0,none⟩) hlt).trans h0,(b.cell (p:=⟨x,1,none⟩) hlt).trans h1,(b.cell (p:=⟨x,2,none⟩) hlt).trans h2,(b.cell (p:=⟨x,3,none⟩) hlt).trans h3,(b.cell (p:=⟨x,4,none⟩) hlt).trans h4,(b.cell (p:=⟨x,5,none⟩) hlt).trans h5,h8.below b,aA h6 b⟩
theorem an6 {x bz base:Nat} {w0 W W':World} {v0 v1 v2 v3 v4 v5 sz:Value} {Z:au} {row:Option Nat}
  (h:W.cell? ⟨x,0,none⟩=some v0∧W.cell? ⟨x,1,none⟩=some v1∧W.cell? ⟨x,2,none⟩=some v2∧W.cell? ⟨x,3,none⟩=some v3∧W.cell? ⟨x,4,none⟩=some v4∧W.cell? ⟨x,5,none⟩=some v5∧cO W bz Z sz∧Below w0.heap.size w0 W) (hg:W.grownBy W' row) (hrow:∀g,row=some g→base≤g) (hx:x<base) (hz:bz<base) (hw:w0.heap.size≤base):
  W'.cell? ⟨x,0,none⟩=some v0∧W'.cell? ⟨x,1,none⟩=some v1∧W'.cell? ⟨x,2,none⟩=some v2∧W'.cell? ⟨x,3,none⟩=some v3∧W'.cell? ⟨x,4,none⟩=some v4∧W'.cell? ⟨x,5,none⟩=some v5∧cO W' bz Z sz∧Below w0.heap.size w0 W':=by
 obtain⟨c0,c1,c2,c3,c4,c5,h8,h6⟩:=h;exact⟨cell_grown c0 hg hrow hx,cell_grown c1 hg hrow hx,cell_grown c2 hg hrow hx,cell_grown c3 hg hrow hx,cell_grown c4 hg hrow hx,cell_grown c5 hg hrow hx,h8.grown hg hrow hz,h6.grown hg h6.size (fun g hg2=>Nat.le_trans hw (hrow g hg2))⟩
theorem an8 {x b4 bz k:Nat} {w0 W:World} {v0 v1 v2 v3 v4 v5 sz u:Value} {Z:au}
  (h:W.cell? ⟨x,0,none⟩=some v0∧W.cell? ⟨x,1,none⟩=some v1∧W.cell? ⟨x,2,none⟩=some v2∧W.cell? ⟨x,3,none⟩=some v3∧W.cell? ⟨x,4,none⟩=some v4∧W.cell? ⟨x,5,none⟩=some v5∧cO W bz Z sz∧Below w0.heap.size w0 W) (hx:x≠b4) (hz:bz≠b4) (hw:w0.heap.size≤b4):
  (W.setCell ⟨b4,k,none⟩ u).cell? ⟨x,0,none⟩=some v0∧(W.setCell ⟨b4,k,none⟩ u).cell? ⟨x,1,none⟩=some v1∧(W.setCell ⟨b4,k,none⟩ u).cell? ⟨x,2,none⟩=some v2∧(W.setCell ⟨b4,k,none⟩ u).cell? ⟨x,3,none⟩=some v3∧(W.setCell ⟨b4,k,none⟩ u).cell? ⟨x,4,none⟩=some v4∧(W.setCell ⟨b4,k,none⟩ u).cell? ⟨x,5,none⟩=some v5∧cO (W.setCell ⟨b4,k,none⟩ u) bz Z sz∧Below w0.heap.size w0 (W.setCell ⟨b4,k,none⟩ u):=by
 obtain⟨c0,c1,c2,c3,c4,c5,h8,h6⟩:=h;exact⟨MN c0 hx,MN c1 hx,MN c2 hx,MN c3 hx,MN c4 hx,MN c5 hx,h8.setOther hz,h6.setCell (p:=⟨b4,k,none⟩) hw _⟩
theorem an5 {w0 W:World} {P0 P1 P2 P3 P4 P5 P7:Prop} (h:P0∧P1∧P2∧P3∧P4∧P5∧P7∧Below w0.heap.size w0 W) {A:Option Addr} {n:Nat} {fs:List aT} (hf:dh w0 A n fs):dh W A n fs:=hf.below h.2.2.2.2.2.2.2
def aiu (w:World) (r:au) (e:Ending) (w':World):Prop:=
 ∃A n cap,e= .returned (iL r (.slice A n cap))∧n≤cap∧dh w' A n r.extra∧NewAt w.heap.size A∧Below w.heap.size w w'
theorem anL (r:au) (A:Option Addr) (n cap:Nat) (w:World) (h:dh w A n r.extra) (h64:n≤900):
  Calls Tryz.prog 181 #[iL r (.slice A n cap)] w (aiu w r):=by
 have hwf:=h.2.2.1;obtain⟨W,hW⟩:=aQ ((w.alloc (.cells (aC r (.slice A n cap)) 68)).alloc (.cells z6 68));obtain⟨hb0,hr0,hz0,hsz⟩:=Wu w r (.slice A n cap) hW;have hf0:=h.below hb0;have c5:=hr0.cells.2.2.2.2.2;have hown:W.ownsRow W.heap.size 65 2 (.slice none 0 0) ([]:List aT).length (iP []):=World.ownsRow_nil _ _ _ _;have nM:=ah hr0;have HZ0:=ah hz0;clear hr0 hz0 h;go_enter Tryz.func181,Tryz.ntmps181;go_wp2_with (at_builtin;refine Lj rfl _ _ rfl W.heap.size _ [] rfl hown A n cap r.extra rfl hf0 (by simp;omega) (Nat.le_refl _) ?_);intro v' V2 hown2 hgrow;obtain⟨A2,cap2,hv,hcap2,_⟩:=sV hown2 hwf;subst hv;have hrb:=nM.out.kept hgrow (by simp[Value.ownBlock]);have hzb:=HZ0.out.kept hgrow (by simp[Value.ownBlock]);have hbw:Below w.heap.size w V2:=hb0.grown hgrow hb0.size (fun g hg=>by simp[Value.ownBlock]at hg);obtain⟨d0,d1,d2,d3,d4,d5⟩:=hrb.cells;obtain⟨z0,z1,z2,z3,z4,z5⟩:=hzb.cells;have e5:=hrb.frozen 5;have f0:=hzb.frozen 0;have f1:=hzb.frozen 1;have f2:=hzb.frozen 2;have f3:=hzb.frozen 3;have f4:=hzb.frozen 4;have f5:=hzb.frozen 5;have hxr:=fF hrb;have hxz:=fF hzb;simp only[dL]at z0 z1 z2 z3 z4;have hnew:NewAt (w.heap.size+2) A2:=Vp hown2 (by omega);have hf2:dh V2 A2 r.extra.length r.extra:=by
  obtain⟨A9,ML,gZ,_,Ep⟩:=sV hown2 hwf;have e1:=abO gZ;subst e1;exact Ep
 have bU:=ah hbw;have Lv:=ah hf2;clear hgrow hown hown2 hbw hf0 hb0 hrb hzb hf2;go_wp2_with fail;refine bodyPost_ret (v:=iL r (.slice A2 r.extra.length cap2)) (by simp[results,Tryz.results181,go_sem,z0,z1,z2,z3,z4,z5]) rfl ⟨A2,r.extra.length,cap2,rfl,hcap2,?_,hnew.mono (by omega),?_⟩
 ·exact BD (I9 Lv.out (Je hnew (by omega)) 5 _) (hnew) (by omega) _ _ _ _ _ _
 ·exact Bu (bU.out.setCell (p:=⟨w.heap.size,5,none⟩) (by show w.heap.size≤w.heap.size;omega) _) (by omega) _ _ _ _ _ _
theorem amO (r:au) (A:Option Addr) (n cap:Nat) (w:World) (hr:zK r) (h:dh w A n r.extra):
  Calls Tryz.prog 183 #[iL r (.slice A n cap)] w (Ki w (ou r)):=by
 have hwf:=h.2.2.1;obtain⟨W,hW⟩:=aQ ((w.alloc (.cells (aC r (.slice A n cap)) 68)).alloc (.cells z6 68));obtain⟨hb0,hr0,hz0,hsz⟩:=Wu w r (.slice A n cap) hW;have p1:=RU 2 r A n cap W hr (h.below hb0)
 cases hR:eP 2 r with
 |false=>
  rw[hR]at p1;have HE:Hid (ou r=(dL,1)):=aeZ hR;have HZ0:=ah hz0;have hc0:=hr0.cells;obtain⟨c0,c1,c2,c3,c4,c5⟩:=hc0;clear hR h hr0 hz0 hwf;go_enter Tryz.func183,Tryz.ntmps183;go_wp2_with fail
  ((with_reducible refine p1.mono ?_);rintro e w1 ⟨rfl,b1⟩)
  have hz1:=HZ0.out.below b1;obtain⟨z0,z1,z2,z3,z4,z5⟩:=hz1.cells;have f0:=hz1.frozen 0;have f1:=hz1.frozen 1;have f2:=hz1.frozen 2;have f3:=hz1.frozen 3;have f4:=hz1.frozen 4;have f5:=hz1.frozen 5;have hxz:=fF hz1;simp only[dL]at z0 z1 z2 z3 z4;have bU:=ah (aA hb0 b1);clear hb0 b1 hz1 p1;go_wp2_with fail;refine bodyPost_ret (v:=.tuple #[.agg z6,.int .i64 1]) (by simp[results,Tryz.results183,go_sem,z0,z1,z2,z3,z4,z5]) rfl ⟨none,0,0,by rw[HE.out];rfl,Nat.le_refl _,by rw[HE.out];exact vE _ _,Dk _,?_⟩;exact Bu bU.out (by omega) _ _ _ _ _ _
 |true=>
  rw[hR]at p1;have hp:=qV.1 hR;have hlf:=aa8 hp;have h64:n≤64:=by
   have:=(Ap.1 (qB.1 hp.2.2.2.2.2).1).1;have:=h.1;omega
  have HE:Hid (ou r=(⟨r.key,r.value,r.rev,0,ByteArray.empty,opt 4 (ob (iJ r.life))++(opt 5 (ob r.note)++r.extra)⟩,0)):=aop hR;have pc:=fun W=>amR r (.slice A n cap) hlf.1 hlf.2.1 (by omega) W;have l4:=ze 4 (ob (iJ r.life));have l5:=ze 5 (ob r.note);obtain⟨CR,UR⟩:∃l,opt 4 (ob (iJ r.life))++opt 5 (ob r.note)=l:=⟨_,rfl⟩;rw[←List.append_assoc,UR]at HE;rw[UR]at pc;have hlc:CR.length≤2:=by rw[←UR,List.length_append];omega
  obtain⟨c0,c1,c2,c3,c4,c5⟩:=hr0.cells;have nM:=ah hr0;have HZ0:=ah hz0;have H0:=ah h;have HN:=ah h.1;clear UR l4 l5 hR hp hlf hr0 hz0 h;go_enter Tryz.func183,Tryz.ntmps183;go_wp2_with fail
  ((with_reducible refine p1.mono ?_);rintro e w1 ⟨rfl,b1⟩)
  have hr1:=nM.out.below b1;have hz1:=HZ0.out.below b1;have hb1:=aA hb0 b1;have hs1:=b1.size;clear hb0 b1 p1 nM HZ0 c0 c1 c2 c3 c4 c5;obtain⟨W4,sQ⟩:∃W4,w1.alloc (.cells #[.string r.key,.string r.value,.int .i64 r.rev,.int .i64 0,.string ⟨#[]⟩,.slice A n cap] 68)=W4:=⟨_,rfl⟩;have Nb:W4.heap.size=w1.heap.size+1:=by rw[←sQ];simp
  have hr4:cO W4 w.heap.size r (.slice A n cap):=by rw[←sQ];exact hr1.alloc _
  have lV:cO W4 (w.heap.size+1) dL (.slice none 0 0):=by rw[←sQ];exact hz1.alloc _
  have hd4:cO W4 w1.heap.size ⟨r.key,r.value,r.rev,0,ByteArray.empty,r.extra⟩ (.slice A n cap):=by rw[←sQ];exact World.alloc_heap_new w1 _
  have hb4:Below w.heap.size w W4:=by rw[←sQ];exact hb1.alloc hb1.size _
  obtain⟨c0,c1,c2,c3,c4,c5⟩:=hr1.cells;have hsd:W4.drew.heap.size=w1.heap.size+1:=Nb;have hS:∀V,V=W4.drew→(V.cell? ⟨w.heap.size,0,none⟩=some (.string r.key)∧V.cell? ⟨w.heap.size,1,none⟩=some (.string r.value)∧V.cell? ⟨w.heap.size,2,none⟩=some (.int .i64 r.rev)∧V.cell? ⟨w.heap.size,3,none⟩=some (.int .i64 r.life)∧V.cell? ⟨w.heap.size,4,none⟩=some (.string r.note)∧V.cell? ⟨w.heap.size,5,none⟩=some (.slice A n cap)∧cO V (w.heap.size+1) dL (.slice none 0 0)∧Below w.heap.size w V):=by
   rintro V rfl;obtain⟨k0,k1,k2,k3,k4,k5⟩:=hr4.cells;exact⟨k0,k1,k2,k3,k4,k5,lV,hb4.drew⟩
  have HS:=ah hS;have afD:cO W4.drew w1.heap.size ⟨r.key,r.value,r.rev,0,ByteArray.empty,r.extra⟩ (.slice A n cap):=hd4;have HD4:=ah afD;clear hS hr4 lV hd4 afD hb4 hr1 hz1;go_upto_region 5 with fail;go_region_held3 (fun V=>V.cell? ⟨w.heap.size,0,none⟩=some (.string r.key)∧V.cell? ⟨w.heap.size,1,none⟩=some (.string r.value)∧V.cell? ⟨w.heap.size,2,none⟩=some (.int .i64 r.rev)∧V.cell? ⟨w.heap.size,3,none⟩=some (.int .i64 r.life)∧V.cell? ⟨w.heap.size,4,none⟩=some (.string r.note)∧V.cell? ⟨w.heap.size,5,none⟩=some (.slice A n cap)∧cO V (w.heap.size+1) dL (.slice none 0 0)∧Below w.heap.size w V) (first|exact HS.out _ rfl|exact hS2|exact an7 (by assumption) (by assumption)|exact an8 (by assumption) (by omega) (by omega) (by omega)) (first|((with_reducible refine(pc _).mono ?_);rintro e w5 ⟨A1,dP,rfl,hown1,af4,bq⟩)|(refine atU rfl _ _ rfl _ _ CR rfl hown1 A n cap r.extra rfl (an5 (by assumption) H0.out) (by have:=HN.out;omega) (by have:=bq.size;omega) ?_;intro A2 cap2 V2 hown2 hgrow;have hrow:=fun g hg=>(hown1.lt g hg).1;have hS2:=an6 (by assumption) hgrow hrow (by omega) (by omega) (by omega);have hd5:=(HD4.out.below bq).grown hgrow hrow (by omega);have Qe:=hd5.cells.2.2.2.2.2;have Z9:=hd5.frozen 5));rename_i hend;have hd6:cO (V2.setCell ⟨w1.heap.size,5,none⟩ (.slice A2 (CR.length+r.extra.length) cap2)) w1.heap.size ⟨r.key,r.value,r.rev,0,ByteArray.empty,CR++r.extra⟩ (.slice A2 (CR.length+r.extra.length) cap2):=heap_setCell_same V2 w1.heap.size 5 _ _ _ hd5;have vD:=hend.2.2.2.2.2.2.1;have hb6:=hend.2.2.2.2.2.2.2;have hnew:NewAt (w1.heap.size+1) A2:=Vp hown2 (by omega);have af5:kP (CR++r.extra):=af4.append hwf;have hf6:dh (V2.setCell ⟨w1.heap.size,5,none⟩ (.slice A2 (CR.length+r.extra.length) cap2)) A2 (CR.length+r.extra.length) (CR++r.extra):=by
   obtain⟨A9,ML,gZ,_,Ep⟩:=sV hown2 af5;have e1:=abO gZ;subst e1;rw[List.length_append]at Ep;exact I9 Ep (Je hnew (by omega)) 5 _
  have hcap2:CR.length+r.extra.length≤cap2:=by
   obtain⟨A9,ML,gZ,qC,_⟩:=sV hown2 af5;have e1:=atC gZ;subst e1;rw[List.length_append]at qC;exact qC
  clear hend hown2 hgrow hrow hS2 hd5 Qe Z9 hown1 bq af4 HS HD4 hb1 sQ Nb hsd hW c0 c1 c2 c3 c4 c5;generalize V2.setCell ⟨w1.heap.size,5,none⟩ (.slice A2 (CR.length+r.extra.length) cap2)=V6 at*;obtain⟨z0,z1,z2,z3,z4,z5⟩:=vD.cells;obtain⟨d0,d1,d2,d3,d4,d5⟩:=hd6.cells;have f0:=vD.frozen 0;have f1:=vD.frozen 1;have f2:=vD.frozen 2;have f3:=vD.frozen 3;have f4:=vD.frozen 4;have f5:=vD.frozen 5;have hxz:=fF vD;have hxd:=fF hd6;simp only[dL]at z0 z1 z2 z3 z4;have HF6:=ah hf6;have gM:=ah hb6;clear vD hd6 hf6 hb6;go_wp2_with fail;refine bodyPost_ret (v:=.tuple #[iL ⟨r.key,r.value,r.rev,0,ByteArray.empty,CR++r.extra⟩ (.slice A2 (CR.length+r.extra.length) cap2),.int .i64 0]) (by simp[results,Tryz.results183,go_sem,z0,z1,z2,z3,z4,z5]) rfl ⟨A2,CR.length+r.extra.length,cap2,by rw[HE.out];rfl,hcap2,?_,hnew.mono (by omega),?_⟩
  ·rw[HE.out];exact BD HF6.out (hnew) (by omega) _ _ _ _ _ _
  ·exact Bu gM.out (by omega) _ _ _ _ _ _
def vI (t:Int) (d:ByteArray):Bool:=if t=4∨t=5 then okD t d else true
def Ed (b base:Nat) (R:au) (t:Int) (d:ByteArray) (w:World) (e:Ending) (w':World):Prop:=
 if vI t d=true then e= .returned (.int .i64 0)∧(∃x,cO w' b (j6 2 R (t,d)) x∧w'.ownsRow base 65 2 x (j6 2 R (t,d)).extra.length (iP (j6 2 R (t,d)).extra))∧Below b w w'∧(∀i,i<base→i≠b→w'.heap[i]? =w.heap[i]?)
 else e= .returned (.int .i64 21)∧w=w'
theorem aul {b base:Nat} {R:au} {t:Int} {d:ByteArray} {w w':World} {e:Ending} (h:vI t d=true) (hp:Ed b base R t d w e w'):e= .returned (.int .i64 0)∧(∃x,cO w' b (j6 2 R (t,d)) x∧w'.ownsRow base 65 2 x (j6 2 R (t,d)).extra.length (iP (j6 2 R (t,d)).extra))∧Below b w w'∧(∀i,i<base→i≠b→w'.heap[i]? =w.heap[i]?):=by unfold Ed at hp;rw[if_pos h]at hp;exact hp
theorem auk {b base:Nat} {R:au} {t:Int} {d:ByteArray} {w w':World} {e:Ending} (h:vI t d=false) (hp:Ed b base R t d w e w'):e= .returned (.int .i64 21)∧w=w':=by unfold Ed at hp;rw[if_neg (by rw[h];simp)]at hp;exact hp
theorem Wv (d:ByteArray):vI 4 d=okD 4 d:=by unfold vI;rw[if_pos (.inl rfl)]
theorem Ww (d:ByteArray):vI 5 d=okD 5 d:=by unfold vI;rw[if_pos (.inr rfl)]
theorem ah6 {t:Int} {d:ByteArray} (h4:t≠4) (h5:t≠5):vI t d=true:=by unfold vI;rw[if_neg (by omega)]
theorem atN (R:au) (d:ByteArray):j6 2 R (4,d)={ R with life:=jM d.data.toList }:=by rw[abQ (by decide)];rfl
theorem atO (R:au) (d:ByteArray):j6 2 R (5,d)={ R with note:=d }:=by rw[abQ (by decide)];rfl
theorem atS {R:au} {t:Int} {d:ByteArray} (h:5<t):j6 2 R (t,d)={ R with extra:=R.extra++[(t,d)] }:=ahV (BH.2 (by have:rW 2=5:=rfl;omega))
theorem anU (b base:Nat) (R:au) (x:Value) (t:Int) (d:ByteArray) (w:World) (h:cO w b R x) (hown:w.ownsRow base 65 2 x R.extra.length (iP R.extra)) (hwf:kP R.extra) (hl:R.extra.length≤100) (hb:b<base) (hbase:base≤w.heap.size) (ht:(Lit.int .i64 t).wf=true) (hd:d.size≤9223372036854775807):
  Calls Tryz.prog 197 #[.pointer (some ⟨b,0,none⟩),.iface 65 (.agg #[.int .i64 t,.string d])] w fun e w'=>e= .returned (.int .i64 0)∧(∃x',cO w' b { R with extra:=R.extra++[(t,d)] } x'∧w'.ownsRow base 65 2 x' (R.extra++[(t,d)]).length (iP (R.extra++[(t,d)])))∧Below b w w'∧(∀i,i<base→i≠b→w'.heap[i]? =w.heap[i]?):=by
 obtain⟨A1,dP,hv,hcap,hfs⟩:=sV hown hwf;subst hv;have hbw:∀V,V=((w.alloc (.cells #[.int .i64 t,.string d] 65)).alloc (.cells #[.int .i64 t,.string d] 65)).drew→Below w.heap.size w V∧V.heap.size=w.heap.size+2:=by
  rintro V rfl;refine⟨((ak _ _).alloc (by simp) _).drew,?_⟩;show((w.alloc (.cells #[.int .i64 t,.string d] 65)).alloc (.cells #[.int .i64 t,.string d] 65)).heap.size=_;simp
 have hown3:∀V,V=((w.alloc (.cells #[.int .i64 t,.string d] 65)).alloc (.cells #[.int .i64 t,.string d] 65)).drew→V.ownsRow base 65 2 (.slice A1 R.extra.length dP) R.extra.length (iP R.extra):=by rintro V rfl;exact(hown.alloc _).alloc _
 have vB:∀V,V=((w.alloc (.cells #[.int .i64 t,.string d] 65)).alloc (.cells #[.int .i64 t,.string d] 65)).drew→cO V b R (.slice A1 R.extra.length dP):=by
  rintro V rfl;have h2:=(h.alloc (.cells #[.int .i64 t,.string d] 65)).alloc (.cells #[.int .i64 t,.string d] 65);exact h2
 have hone:∀V,V=((w.alloc (.cells #[.int .i64 t,.string d] 65)).alloc (.cells #[.int .i64 t,.string d] 65)).drew→dh V (some ⟨w.heap.size+1,0,none⟩) 1 [(t,d)]:=by
  rintro V rfl;have hx:=World.alloc_heap_new (w.alloc (.cells #[.int .i64 t,.string d] 65)) (.cells #[.int .i64 t,.string d] 65);rw[show(w.alloc (.cells #[.int .i64 t,.string d] 65)).heap.size=w.heap.size+1 from by simp]at hx;exact Nh (w:=(w.alloc (.cells #[.int .i64 t,.string d] 65)).alloc (.cells #[.int .i64 t,.string d] 65)) (bJ hx 0) (bJ hx 1) ht hd
 have hrow:∀g:Nat,(Value.slice A1 R.extra.length dP).ownBlock=some g→base≤g:=fun g hg=>(hown.lt g hg).1;have eY:=ah hrow;have c5:=h.cells.2.2.2.2.2;have hxr:=fF h;clear hrow hown h hfs;go_enter Tryz.func197,Tryz.ntmps197;go_wp2_with fail;go_region_law (first|(refine atW rfl _ _ rfl base _ R.extra rfl (hown3 _ rfl) (w.heap.size+1) 1 t d rfl (hone _ rfl) (by omega) (by have:=(hbw _ rfl).2;omega) ?_;intro A2 cap2 V2 Ai hgrow;have Bz:=(vB _ rfl).grown hgrow eY.out hb;have Eo:=(hbw _ rfl).1;have Nb:=(hbw _ rfl).2;have Qe:=Bz.cells.2.2.2.2.2;have Z9:=Bz.frozen 5))
 all_goals
  go_wp2_with fail;go_ret;refine⟨rfl,⟨.slice A2 (R.extra.length+1) cap2,heap_setCell_same V2 b 5 _ _ _ Bz,?_⟩,?_,fun i hi hne=>?_⟩
  ·exact ownsRow_setCell_below (a:=⟨b,5,none⟩) (by simpa[List.length_append]using Ai) (by show b<base;omega) _
  ·exact((Eo.mono (by omega)).grown hgrow (by omega) (fun g hg=>by have:=eY.out g hg;omega)).setCell (p:=⟨b,5,none⟩) (by show b≤b;omega) _
  ·refine(heap_setCell_other V2 ⟨b,5,none⟩ i _ hne).trans ((hgrow.block i (by omega) (fun e=>by have:=eY.out i e.symm;omega)).trans (Eo.block i (by omega)))
theorem anT (b base:Nat) (R:au) (x:Value) (t:Int) (d:ByteArray) (w:World) (h:cO w b R x) (hown:w.ownsRow base 65 2 x R.extra.length (iP R.extra)) (hwf:kP R.extra) (hl:R.extra.length≤100) (hb:b<base) (hbase:base≤w.heap.size) (ht:(Lit.int .i64 t).wf=true) (hd:d.size≤9223372036854775807) (h3:3<t):
  Calls Tryz.prog 197 #[.pointer (some ⟨b,0,none⟩),sO t d] w (Ed b base R t d w):=by
 by_cases h4:t=4
 ·subst h4
  cases hO:okD 4 d with
  |true=>
   have e1:sO 4 d= .iface 210 (.int .i64 (jM d.data.toList)):=by unfold sO;rw[if_pos rfl,hO];rfl
   rw[e1];refine(anV b R x _ w h).mono ?_;rintro e w' ⟨rfl,rfl⟩;unfold Ed;rw[Wv,hO,if_pos rfl,atN];refine⟨rfl,⟨x,heap_setCell_same w b 3 _ _ _ h,ownsRow_setCell_below (a:=⟨b,3,none⟩) hown hb _⟩,(Below.refl _ _).setCell (p:=⟨b,3,none⟩) (by show b≤b;omega) _,fun i hi hne=>heap_setCell_other w ⟨b,3,none⟩ i _ hne⟩
  |false=>
   have e1:sO 4 d= .iface 40 (.int .i64 21):=by unfold sO;rw[if_pos rfl,hO];rfl
   rw[e1];refine(aeN b 21 w).mono ?_;rintro e w' ⟨rfl,rfl⟩;unfold Ed;rw[Wv,hO,if_neg (by simp)];exact⟨rfl,rfl⟩
 ·by_cases h5:t=5
  ·subst h5
   cases hO:okD 5 d with
   |true=>
    have e1:sO 5 d= .iface 211 (.string d):=by unfold sO;rw[if_neg (by decide),if_pos rfl,hO];rfl
    rw[e1];refine(anW b R x _ w h).mono ?_;rintro e w' ⟨rfl,rfl⟩;unfold Ed;rw[Ww,hO,if_pos rfl,atO];refine⟨rfl,⟨x,heap_setCell_same w b 4 _ _ _ h,ownsRow_setCell_below (a:=⟨b,4,none⟩) hown hb _⟩,(Below.refl _ _).setCell (p:=⟨b,4,none⟩) (by show b≤b;omega) _,fun i hi hne=>heap_setCell_other w ⟨b,4,none⟩ i _ hne⟩
   |false=>
    have e1:sO 5 d= .iface 40 (.int .i64 21):=by unfold sO;rw[if_neg (by decide),if_pos rfl,hO];rfl
    rw[e1];refine(aeN b 21 w).mono ?_;rintro e w' ⟨rfl,rfl⟩;unfold Ed;rw[Ww,hO,if_neg (by simp)];exact⟨rfl,rfl⟩
  ·have e1:sO t d= .iface 65 (.agg #[.int .i64 t,.string d]):=by unfold sO;rw[if_neg h4,if_neg h5]
   rw[e1];refine(anU b base R x t d w h hown hwf hl hb hbase ht hd).mono ?_;rintro e w' ⟨rfl,hx,hbw,hfr⟩;unfold Ed;rw[ah6 h4 h5,if_pos rfl,atS (by omega)];exact⟨rfl,hx,hbw,hfr⟩
def qW (r:au) (k:Nat):au:=(r.extra.take k).foldl (j6 2) { r with extra:=[] }
theorem auH {r:au} {k:Nat} (h:k<r.extra.length):qW r (k+1)=j6 2 (qW r k) (tg r.extra k,dt r.extra k):=by
 unfold qW;rw[List.take_succ_eq_append_getElem h,List.foldl_append,MX h];rfl
theorem auI {r:au} (h:kP r.extra) (k:Nat):kP (qW r k).extra:=fun f hf=>by
 rcases(Uf 2 (r.extra.take k) { r with extra:=[] }).1 f hf with h2|h2
 ·cases h2
 ·exact h f (List.mem_of_mem_take h2)
theorem auG (r:au) (k:Nat):(qW r k).extra.length≤k:=by
 have:=(Uf 2 (r.extra.take k) { r with extra:=[] }).2;have h2:(r.extra.take k).length≤k:=List.length_take_le _ _;unfold qW;simp only[List.length_nil]at this;omega
theorem asz {r:au} (h:kJ 1 r):kJ 2 { r with extra:=[] }:=by
 obtain⟨_,h2,h3,h4,h5,_⟩:=h;obtain⟨h6,h7⟩:=Eu.1 h5;refine⟨.inr rfl,h2,h3,h4,BI.2 ⟨by show 0≤r.life;omega,by show r.life≤_;omega,by show r.note.size≤40;omega⟩,rfl⟩
theorem auF {r:au} (h:kJ 1 r) {k:Nat} (hk:k=r.extra.length):qW r k=iW 2 (fQ r):=by
 subst hk;have hb:=(P8 (asz h)).1;unfold qW;rw[List.take_of_length_le (Nat.le_refl _)];have e:fQ r=fQ { r with extra:=[] }++r.extra:=by unfold fQ five;simp
 rw[e];unfold iW at hb ⊢;rw[List.foldl_append,hb]
theorem ag4 {r:au} (h:kJ 1 r):nU 2 (fQ r)=true↔∀i,i<r.extra.length→vI (tg r.extra i) (dt r.extra i)=true:=by
 obtain⟨o4,o5,E,e,c5,_,_,hi⟩:=auM h;rw[hi,P_ (P:=fun t d=>vI t d=true),e];have hE:∀f∈E,5<f.1:=fun f hf=>(Eh (v:=2) (a:=5) (Int.le_refl _) c5 f hf).2;constructor
 ·rintro⟨h4,h5⟩ f hf;simp only[List.mem_append,Nj]at hf;rcases hf with⟨h1,h2⟩|⟨h1,h2⟩|h1
  ·rw[h2,Wv];exact h4 _ h1
  ·rw[h2,Ww];exact h5 _ h1
  ·have:=hE f h1;exact ah6 (by omega) (by omega)
 ·intro hf;refine⟨fun d hd=>?_,fun d hd=>?_⟩
  ·rw[←Wv];exact hf (4,d) (List.mem_append.2 (.inl (Nj.2 ⟨hd,rfl⟩)))
  ·rw[←Ww];exact hf (5,d) (List.mem_append.2 (.inr (List.mem_append.2 (.inl (Nj.2 ⟨hd,rfl⟩)))))
theorem at6 {r:au} (h:kJ 1 r) {i:Nat} (hi:i<r.extra.length):3<tg r.extra i:=by
 have hex:=qB.1 h.2.2.2.2.2;have hc:=Qk hex.1 hex.2.2;have:=(Eh (v:=1) (a:=3) (Int.le_refl _) hc _ (List.getElem_mem hi)).2;rw[AA hi];exact this
theorem amP (r:au) (A:Option Addr) (n cap:Nat) (w:World) (hr:zK r) (h:dh w A n r.extra):
  Calls Tryz.prog 182 #[iL r (.slice A n cap)] w (Ki w (vJ r)):=by
 have hwf:=h.2.2.1;obtain⟨W,hW⟩:=aQ ((w.alloc (.cells (aC r (.slice A n cap)) 68)).alloc (.cells z6 68));obtain⟨hb0,hr0,hz0,hsz⟩:=Wu w r (.slice A n cap) hW;have p1:=RU 1 r A n cap W hr (h.below hb0);obtain⟨c0,c1,c2,c3,c4,c5⟩:=hr0.cells;have nM:=ah hr0;have HZ0:=ah hz0
 cases hR:eP 1 r with
 |false=>
  rw[hR]at p1;have HE:Hid (vJ r=(dL,1)):=ah7 hR;clear hR h hr0 hz0 hwf;go_enter Tryz.func182,Tryz.ntmps182;go_wp2_with fail
  ((with_reducible refine p1.mono ?_);rintro e w1 ⟨rfl,b1⟩)
  have hz1:=HZ0.out.below b1;obtain⟨z0,z1,z2,z3,z4,z5⟩:=hz1.cells;have f0:=hz1.frozen 0;have f1:=hz1.frozen 1;have f2:=hz1.frozen 2;have f3:=hz1.frozen 3;have f4:=hz1.frozen 4;have f5:=hz1.frozen 5;have hxz:=fF hz1;simp only[dL]at z0 z1 z2 z3 z4;have bU:=ah (aA hb0 b1);clear hb0 b1 hz1 p1;go_wp2_with fail;refine bodyPost_ret (v:=.tuple #[.agg z6,.int .i64 1]) (by simp[results,Tryz.results182,go_sem,z0,z1,z2,z3,z4,z5]) rfl ⟨none,0,0,by rw[HE.out];rfl,Nat.le_refl _,by rw[HE.out];exact vE _ _,Dk _,?_⟩;exact Bu bU.out (by omega) _ _ _ _ _ _
 |true=>
  rw[hR]at p1;have hp:=qV.1 hR;have h64:n≤64:=by
   have:=(Ap.1 (qB.1 hp.2.2.2.2.2).1).1;have:=h.1;omega
  have iF:Hid ((∀i,i<r.extra.length→vI (tg r.extra i) (dt r.extra i)=true)→vJ r=(qW r n,0)):=fun h2=>by
   rw[auF hp h.1];exact ab3 hR ((ag4 hp).2 h2)
  have bA:Hid (∀i,i<r.extra.length→vI (tg r.extra i) (dt r.extra i)=false→vJ r=(dL,21)):=fun i hi h2=>by
   refine ah8 hR ?_;rw[Bool.eq_false_iff];intro h3;have:=(ag4 hp).1 h3 i hi;rw[h2]at this;cases this
  have HTG:Hid (∀i,i<r.extra.length→3<tg r.extra i):=fun i hi=>at6 hp hi;have HK0:Hid (qW r 0={ r with extra:=[] }):=by show _=_;unfold qW;simp
  have HN:=ah h.1;have HC:=ah h.2.2.2;clear hR hp hr0 hz0 h;go_enter Tryz.func182,Tryz.ntmps182;go_wp2_with fail
  ((with_reducible refine p1.mono ?_);rintro e w1 ⟨rfl,b1⟩)
  have hr1:=nM.out.below b1;have hz1:=HZ0.out.below b1;have hb1:=aA hb0 b1;have hs1:=b1.size;clear hb0 b1 p1 nM HZ0 c0 c1 c2 c3 c4 c5 hW;obtain⟨c0,c1,c2,c3,c4,c5⟩:=hr1.cells;go_upto_region 4 with fail;clear c0 c1 c2 c3 c4 c5;obtain⟨W4,sQ⟩:∃W4,w1.alloc (.cells (aC r (.slice none 0 0)) 68)=W4:=⟨_,rfl⟩;have Nb:W4.heap.size=w1.heap.size+1:=by rw[←sQ];simp
  have hr4:cO W4 w.heap.size r (.slice A n cap):=by rw[←sQ];exact hr1.alloc _
  have lV:cO W4 (w.heap.size+1) dL (.slice none 0 0):=by rw[←sQ];exact hz1.alloc _
  have hd4:cO W4 w1.heap.size (qW r 0) (.slice none 0 0):=by rw[←sQ,HK0.out];exact World.alloc_heap_new w1 _
  have hb4:Below w.heap.size w W4:=by rw[←sQ];exact hb1.alloc hb1.size _
  have Ai:W4.ownsRow (w1.heap.size+1) 65 2 (.slice none 0 0) (qW r 0).extra.length (iP (qW r 0).extra):=by rw[HK0.out];exact World.ownsRow_nil _ _ _ _
  have Qe:=hr4.cells.2.2.2.2.2;clear hr1 hz1;go_upto_region 5 with fail;go_wp2_with fail;go_loopw [17] (fun i wr=>∃(k:Nat) (x:Value),k≤n∧i= .int .i64 k∧cO wr w1.heap.size (qW r k) x∧wr.ownsRow (w1.heap.size+1) 65 2 x (qW r k).extra.length (iP (qW r k).extra)∧cO wr (w.heap.size+1) dL (.slice none 0 0)∧w1.heap.size+1≤wr.heap.size∧Hid (∀j,j<k→vI (tg r.extra j) (dt r.extra j)=true)∧Below w.heap.size w wr) (fun i _=>n-(intOf i).toNat)
  case atStart=>exact⟨0,.slice none 0 0,by omega,rfl,hd4,Ai,lV,by omega,fun j hj=>by omega,hb4⟩
  case round=>
   clear hr4 lV hd4 hb4 Ai Qe sQ Nb;obtain⟨k,x,hk,rfl,hrb,hown,hzb,avM,hno,hbw⟩:=hrel;have hlx:=auG r k;have Es:=auI hwf k
   by_cases hlt:k<n
   ·obtain⟨b,off,hA,hb,hat⟩:=HC.out (by omega);subst hA;have HK:Hid (k<r.extra.length):=by have:=HN.out;show k<r.extra.length;omega
    obtain⟨c1,c2⟩:wr.cell? ⟨b,off+k*2,none⟩=some (.int .i64 (tg r.extra k))∧wr.cell? ⟨b,off+k*2+1,none⟩=some (.string (dt r.extra k)):=by
     have h:=hat k HK.out;exact⟨(hbw.cell (p:=⟨b,off+k*2,none⟩) hb).trans h.1,(hbw.cell (p:=⟨b,off+k*2+1,none⟩) hb).trans h.2⟩
    clear hat;have hstep:=auH HK.out;have hwt:=abY hwf HK.out;have hsd:=Qr hwf HK.out;have ht3:=HTG.out k HK.out;have aj2:=ah (bA.out k HK.out);have alg:Hid (vI (tg r.extra k) (dt r.extra k)=true→∀j,j<k+1→vI (tg r.extra j) (dt r.extra j)=true):=fun h j hj=>by
     rcases Nat.lt_or_ge j k with h2|h2
     ·exact hno.out j h2
     ·rw[show j=k by omega];exact h
    clear hno;generalize tg r.extra k=t at*;generalize dt r.extra k=d at*;have p2:=fun W=>amU t d (by unfold maxLen;omega) W;have p3:=fun W h1 h2 h3=>anT w1.heap.size (w1.heap.size+1) (qW r k) x t d W h1 h2 Es (by omega) (by omega) h3 hwt hsd ht3;obtain⟨R,hR⟩:∃R,qW r k=R:=⟨_,rfl⟩;rw[hR]at hrb hown hlx Es hstep p3;clear hR;obtain⟨bv,hbv⟩:∃bv,sO t d=bv:=⟨_,rfl⟩;simp only[hbv]at p2 p3;have P3:=ah p3;have uT:=ah hstep;clear p3 hstep hbv;have yR:=hrb.alloc (.cells #[.int .i64 t,.string d] 65);have hown2:=hown.alloc (.cells #[.int .i64 t,.string d] 65);have KQ:=hzb.alloc (.cells #[.int .i64 t,.string d] 65);have hbw2:=hbw.alloc hbw.size (.cells #[.int .i64 t,.string d] 65);have hsz2:w1.heap.size+1≤(wr.alloc (.cells #[.int .i64 t,.string d] 65)).heap.size:=by simp;omega
    clear hrb hown hzb;go_wp2_with fail
    ((with_reducible refine(p2 _).mono ?_);rintro e w2 ⟨rfl,b2⟩)
    have vB:=yR.below b2;have hown3:=own_below hown2 b2;have yT:=KQ.below b2;have II:=aA hbw2 b2;have Va:=Nat.le_trans hsz2 b2.size;have p4:=P3.out w2 vB hown3 Va;clear yR hown2 KQ hbw2 hsz2 b2 p2
    cases hO:vI t d with
    |true=>
     have lT:=alg.out hO;have HO:=ah hO;clear hO;go_wp2_with fail
     ((with_reducible refine p4.mono ?_);intro e w5 hpost)
     obtain⟨rfl,⟨x',afZ,hown5⟩,b5,hfr⟩:=aul HO.out hpost;rw[←uT.out]at afZ hown5;clear hpost;have apT:cO w5 (w.heap.size+1) dL (.slice none 0 0):=(hfr _ (by omega) (by omega)).trans yT;have apt:Below w.heap.size w w5:=II.trans (b5.mono (by omega));have hsz5:=Nat.le_trans Va b5.size;clear p4 vB hown3 yT II;go_wp2_with fail;go_roundw
     case rel=>exact⟨k+1,x',by omega,by go_num,afZ,hown5,apT,hsz5,lT,apt⟩
     case measure=>simp[intOf];omega
    |false=>
     have HE:=ah (aj2.out hO);have HO:=ah hO;clear hO;obtain⟨z0,z1,z2,z3,z4,z5⟩:=yT.cells;have f0:=yT.frozen 0;have f1:=yT.frozen 1;have f2:=yT.frozen 2;have f3:=yT.frozen 3;have f4:=yT.frozen 4;have f5:=yT.frozen 5;have hxz:=fF yT;simp only[dL]at z0 z1 z2 z3 z4;have bU:=ah II;clear vB hown3 yT II;go_wp2_with fail
     ((with_reducible refine p4.mono ?_);intro e w5 hpost)
     obtain⟨rfl,rfl⟩:=auk HO.out hpost;clear hpost;go_wp2_with fail;refine bodyPost_ret (v:=.tuple #[.agg z6,.int .i64 21]) (by simp[results,Tryz.results182,go_sem,z0,z1,z2,z3,z4,z5]) rfl ⟨none,0,0,by rw[HE.out];rfl,Nat.le_refl _,by rw[HE.out];exact vE _ _,Dk _,?_⟩;exact Bu bU.out (by omega) _ _ _ _ _ _
   ·have hkn:n=k:=by omega
    subst hkn;have HE:Hid (vJ r=(qW r n,0)):=iF.out (by have:=hno.out;rw[HN.out]at this;exact this);clear hno;obtain⟨A9,ML,gZ,afC,Ep⟩:=sV hown Es;subst gZ;have hnew:NewAt (w1.heap.size+1) A9:=Vp hown (Nat.le_refl (w1.heap.size+1));obtain⟨R,hR⟩:∃R,qW r n=R:=⟨_,rfl⟩;rw[hR]at hrb hown Ep afC HE;clear hR hlx Es;obtain⟨z0,z1,z2,z3,z4,z5⟩:=hzb.cells;obtain⟨d0,d1,d2,d3,d4,d5⟩:=hrb.cells;have f0:=hzb.frozen 0;have f1:=hzb.frozen 1;have f2:=hzb.frozen 2;have f3:=hzb.frozen 3;have f4:=hzb.frozen 4;have f5:=hzb.frozen 5;have hxz:=fF hzb;have hxd:=fF hrb;simp only[dL]at z0 z1 z2 z3 z4;have HF:=ah Ep;have HB:=ah hbw;clear hzb hrb hown Ep hbw;go_wp2_with fail;refine bodyPost_ret (v:=.tuple #[iL R (.slice A9 R.extra.length ML),.int .i64 0]) (by simp[results,Tryz.results182,go_sem,z0,z1,z2,z3,z4,z5]) rfl ⟨A9,R.extra.length,ML,by rw[HE.out];rfl,afC,?_,hnew.mono (by omega),?_⟩
    ·rw[HE.out];exact BD HF.out hnew (by omega) _ _ _ _ _ _
    ·exact Bu HB.out (by omega) _ _ _ _ _ _
theorem aun {v u:Int} {r:au} (h:¬(u=1∨u=2)):toR v u r=(dL,1):=by unfold toR;rw[if_neg (fun h2=>h h2.2)]
theorem aup {v u:Int} {r:au} (h:eP v r=false):toR v u r=(dL,1):=by unfold toR;rw[if_neg (fun h2=>by rw[h]at h2;cases h2.1)]
theorem auq {v:Int} {r:au} (h:eP v r=true):toR v v r=(r,0):=by unfold toR;rw[if_pos ⟨h,(qV.1 h).1⟩,if_pos rfl]
theorem aur {v:Int} {r:au} (h:eP v r=true) (hv:v≠2):toR v 2 r=vJ r:=by unfold toR;rw[if_pos ⟨h,.inr rfl⟩,if_neg hv,if_pos rfl]
theorem auo {v:Int} {r:au} (h:eP v r=true) (hv:v≠1):toR v 1 r=ou r:=by unfold toR;rw[if_pos ⟨h,.inl rfl⟩,if_neg hv,if_neg (by omega)]
theorem aev (v u:Int) (r:au) (A:Option Addr) (n cap:Nat) (w:World) (hr:zK r) (h:dh w A n r.extra):
  Calls Tryz.prog 145 #[.int .i64 v,.int .i64 u,iL r (.slice A n cap)] w (Ki w (toR v u r)):=by
 obtain⟨W,hW⟩:=aQ ((w.alloc (.cells (aC r (.slice A n cap)) 68)).alloc (.cells z6 68));obtain⟨hb0,hr0,hz0,hsz⟩:=Wu w r (.slice A n cap) hW;have p1:=RU v r A n cap W hr (h.below hb0);obtain⟨c0,c1,c2,c3,c4,c5⟩:=hr0.cells
 by_cases hu:u=1∨u=2
 ·cases hR:eP v r with
  |false=>
   rw[hR]at p1;have HE:Hid (toR v u r=(dL,1)):=aup hR;have HZ0:=ah hz0;clear hR h hr0 hz0;rcases hu with rfl|rfl
   all_goals
    go_enter Tryz.func145,Tryz.ntmps145;go_wp2_with fail
    ((with_reducible refine p1.mono ?_);rintro e w1 ⟨rfl,b1⟩)
    have hz1:=HZ0.out.below b1;have hb1:=aA hb0 b1;obtain⟨z0,z1,z2,z3,z4,z5⟩:=hz1.cells;have f0:=hz1.frozen 0;have f1:=hz1.frozen 1;have f2:=hz1.frozen 2;have f3:=hz1.frozen 3;have f4:=hz1.frozen 4;have f5:=hz1.frozen 5;have hxz:=fF hz1;simp only[dL]at z0 z1 z2 z3 z4;have bU:=ah hb1;clear hb0 b1 hz1 p1 hb1;go_wp2_with fail;refine bodyPost_ret (v:=.tuple #[.agg z6,.int .i64 1]) (by simp[results,Tryz.results145,go_sem,z0,z1,z2,z3,z4,z5]) rfl ⟨none,0,0,by rw[HE.out];rfl,Nat.le_refl _,by rw[HE.out];exact vE _ _,Dk _,?_⟩;exact Bu bU.out (by omega) _ _ _ _ _ _
  |true=>
   rw[hR]at p1;have hp:=qV.1 hR;have h64:n≤64:=by
    have:=(Ap.1 (qB.1 hp.2.2.2.2.2).1).1;have:=h.1;omega
   have hv:=hp.1
   by_cases hvu:v=u
   ·subst hvu;have HE:Hid (toR v v r=(r,0)):=auq hR;have nM:=ah hr0;have HZ0:=ah hz0;have H0:=ah h;clear hR hp hr0 hz0 h;rcases hv with rfl|rfl
    all_goals
     go_enter Tryz.func145,Tryz.ntmps145;go_wp2_with fail
     ((with_reducible refine p1.mono ?_);rintro e w1 ⟨rfl,b1⟩)
     have hr1:=nM.out.below b1;have hz1:=HZ0.out.below b1;have hb1:=aA hb0 b1;have hs1:=b1.size;have p2:=anL r A n cap w1 (H0.out.below hb1) (by omega);clear c0 c1 c2 c3 c4 c5 hb0 b1 p1;obtain⟨c0,c1,c2,c3,c4,c5⟩:=hr1.cells;clear hr1;go_wp2_with fail
     ((with_reducible refine p2.mono ?_);rintro e w5 ⟨A5,n5,cap5,rfl,xR,rO,hnew,b5⟩)
     have cZ:=hz1.below b5;have hb5:=aA hb1 b5;have hs5:=b5.size;obtain⟨z0,z1,z2,z3,z4,z5⟩:=cZ.cells;have f0:=cZ.frozen 0;have f1:=cZ.frozen 1;have f2:=cZ.frozen 2;have f3:=cZ.frozen 3;have f4:=cZ.frozen 4;have f5:=cZ.frozen 5;have hxz:=fF cZ;simp only[dL]at z0 z1 z2 z3 z4;have bU:=ah (hb5);have HF:=ah rO;clear hb1 b5 hz1 cZ hb5 rO p2 c0 c1 c2 c3 c4 c5;go_wp2_with fail;refine bodyPost_ret (v:=.tuple #[iL r (.slice A5 n5 cap5),.int .i64 0]) (by simp[results,Tryz.results145,go_sem,z0,z1,z2,z3,z4,z5]) rfl ⟨A5,n5,cap5,by first|(rw[HE.out];done)|(rw[HE.out];rfl),xR,?_,hnew.mono (by omega),?_⟩
     ·rw[HE.out];exact BD HF.out hnew (by omega) _ _ _ _ _ _
     ·exact Bu bU.out (by omega) _ _ _ _ _ _
   ·have pU:=fun W hw=>amP r A n cap W hr hw;have pD:=fun W hw=>amO r A n cap W hr hw;have hEU:u=2→toR v u r=vJ r:=fun h2=>by subst h2;exact aur hR hvu
    have hED:u=1→toR v u r=ou r:=fun h2=>by subst h2;exact auo hR hvu
    have nM:=ah hr0;have HZ0:=ah hz0;have H0:=ah h;clear hR hp hr0 hz0 h;generalize toR v u r=TT at*;rcases hu with rfl|rfl
    ·have hv2:v=2:=by omega
     subst hv2;have HE:=ah (hED rfl);clear hEU hED pU hv hvu;obtain⟨⟨R,x⟩,QG⟩:∃R,ou r=R:=⟨_,rfl⟩;rw[QG]at HE pD;clear QG;go_enter Tryz.func145,Tryz.ntmps145;go_wp2_with fail
     ((with_reducible refine p1.mono ?_);rintro e w1 ⟨rfl,b1⟩)
     have hr1:=nM.out.below b1;have hz1:=HZ0.out.below b1;have hb1:=aA hb0 b1;have hs1:=b1.size;have p2:=pD w1 (H0.out.below hb1);clear c0 c1 c2 c3 c4 c5 hb0 b1 p1 pD;obtain⟨c0,c1,c2,c3,c4,c5⟩:=hr1.cells;clear hr1;go_wp2_with fail
     ((with_reducible refine p2.mono ?_);rintro e w5 ⟨A5,n5,cap5,rfl,xR,rO,hnew,b5⟩)
     have cZ:=hz1.below b5;have hb5:=aA hb1 b5;have hs5:=b5.size;obtain⟨z0,z1,z2,z3,z4,z5⟩:=cZ.cells;have f0:=cZ.frozen 0;have f1:=cZ.frozen 1;have f2:=cZ.frozen 2;have f3:=cZ.frozen 3;have f4:=cZ.frozen 4;have f5:=cZ.frozen 5;have hxz:=fF cZ;simp only[dL]at z0 z1 z2 z3 z4;have bU:=ah (hb5);have HF:=ah rO;clear hb1 b5 hz1 cZ hb5 rO p2 c0 c1 c2 c3 c4 c5;go_wp2_with fail;refine bodyPost_ret (v:=.tuple #[iL R (.slice A5 n5 cap5),.int .i64 x]) (by simp[results,Tryz.results145,go_sem,z0,z1,z2,z3,z4,z5]) rfl ⟨A5,n5,cap5,by first|(rw[HE.out];done)|(rw[HE.out];rfl),xR,?_,hnew.mono (by omega),?_⟩
     ·rw[HE.out];exact BD HF.out hnew (by omega) _ _ _ _ _ _
     ·exact Bu bU.out (by omega) _ _ _ _ _ _
    ·have hv2:v=1:=by omega
     subst hv2;have HE:=ah (hEU rfl);clear hEU hED pD hv hvu;obtain⟨⟨R,x⟩,QG⟩:∃R,vJ r=R:=⟨_,rfl⟩;rw[QG]at HE pU;clear QG;go_enter Tryz.func145,Tryz.ntmps145;go_wp2_with fail
     ((with_reducible refine p1.mono ?_);rintro e w1 ⟨rfl,b1⟩)
     have hr1:=nM.out.below b1;have hz1:=HZ0.out.below b1;have hb1:=aA hb0 b1;have hs1:=b1.size;have p2:=pU w1 (H0.out.below hb1);clear c0 c1 c2 c3 c4 c5 hb0 b1 p1 pU;obtain⟨c0,c1,c2,c3,c4,c5⟩:=hr1.cells;clear hr1;go_wp2_with fail
     ((with_reducible refine p2.mono ?_);rintro e w5 ⟨A5,n5,cap5,rfl,xR,rO,hnew,b5⟩)
     have cZ:=hz1.below b5;have hb5:=aA hb1 b5;have hs5:=b5.size;obtain⟨z0,z1,z2,z3,z4,z5⟩:=cZ.cells;have f0:=cZ.frozen 0;have f1:=cZ.frozen 1;have f2:=cZ.frozen 2;have f3:=cZ.frozen 3;have f4:=cZ.frozen 4;have f5:=cZ.frozen 5;have hxz:=fF cZ;simp only[dL]at z0 z1 z2 z3 z4;have bU:=ah (hb5);have HF:=ah rO;clear hb1 b5 hz1 cZ hb5 rO p2 c0 c1 c2 c3 c4 c5;go_wp2_with fail;refine bodyPost_ret (v:=.tuple #[iL R (.slice A5 n5 cap5),.int .i64 x]) (by simp[results,Tryz.results145,go_sem,z0,z1,z2,z3,z4,z5]) rfl ⟨A5,n5,cap5,by first|(rw[HE.out];done)|(rw[HE.out];rfl),xR,?_,hnew.mono (by omega),?_⟩
     ·rw[HE.out];exact BD HF.out hnew (by omega) _ _ _ _ _ _
     ·exact Bu bU.out (by omega) _ _ _ _ _ _
 ·have HE:Hid (toR v u r=(dL,1)):=aun hu;have e1:(u != 1)=true:=by simp;omega
  have e2:(u != 2)=true:=by simp;omega
  clear hu h hr0 p1;go_enter Tryz.func145,Tryz.ntmps145;obtain⟨z0,z1,z2,z3,z4,z5⟩:=hz0.cells;have f0:=hz0.frozen 0;have f1:=hz0.frozen 1;have f2:=hz0.frozen 2;have f3:=hz0.frozen 3;have f4:=hz0.frozen 4;have f5:=hz0.frozen 5;have hxz:=fF hz0;simp only[dL]at z0 z1 z2 z3 z4;have bU:=ah hb0;clear hb0 hz0;go_wp2_with fail;refine bodyPost_ret (v:=.tuple #[.agg z6,.int .i64 1]) (by simp[results,Tryz.results145,go_sem,z0,z1,z2,z3,z4,z5]) rfl ⟨none,0,0,by rw[HE.out];rfl,Nat.le_refl _,by rw[HE.out];exact vE _ _,Dk _,?_⟩;exact Bu bU.out (by omega) _ _ _ _ _ _
end Go.Proofs.YtodaapcohdpenaaGreat
